import Derived.Test.YtchbppidepapiaaMVr
namespace Go.Proofs.Ytchbppidepapiaa
open Go.RowKit
set_option maxRecDepth 100000
set_option linter.unusedVariables false
set_option linter.unusedSimpArgs false

def sameN (n m k : Nat) : Bool := decide (n = m ∧ n = k)
def voR (A B C : List Nat) (n m k : Nat) : List Nat := if sameN n m k then tab n (voF A B C) else []
def unR (A B C : List Nat) (n m k : Nat) : List Int := if sameN n m k then unL A B C n else []
def voE (n m k : Nat) : Nat := if sameN n m k then 0 else 1
theorem vote_all (a b c : Option Addr) (n m k ca cb cc : Nat) (A B C : List Nat) (w : World) (ha : Rd w a n ca A) (hb : Rd w b m cb B) (hc : Rd w c k cc C) (hn : n ≤ 1048576) :
    Calls Try.prog 13 #[.slice a n ca, .slice b m cb, .slice c k cc] w fun e w' => ∃ ao no co au mu cu, e = .returned (.tuple #[.slice ao no co, .slice au mu cu, .int .i64 (voE n m k : Nat)]) ∧ Ans w' w.heap.size ao no co (voR A B C n m k) ∧ AnsZ w' w.heap.size au mu cu (unR A B C n m k) ∧ w.grownBy w' none := by
  unfold voE voR unR
  by_cases h : n = m ∧ n = k
  · obtain ⟨rfl, rfl⟩ := h
    have e : sameN n n n = true := by simp [sameN]
    rw [e, if_pos rfl, if_pos rfl, if_pos rfl]
    refine (vote_ok a b c n ca cb cc A B C w ha hb hc (by omega) (Nat.le_trans (unL_len A B C n) (by omega))).mono ?_
    rintro e w' ⟨au, mu, cu, rfl, h1, h2, h3⟩
    exact ⟨_, n, n, au, mu, cu, rfl, h1, ⟨h2.own, fun g hg => Nat.le_of_succ_le (h2.new g hg)⟩, h3⟩
  · have e : sameN n m k = false := by simpa [sameN] using h
    rw [e]
    refine (vote_bad a b c n m k ca cb cc w h).mono ?_
    rintro e w' ⟨rfl, rfl⟩
    exact ⟨none, 0, 0, none, 0, 0, rfl, ans_nilM _ _, ansZ_nil _ _, World.grownBy.refl _ _⟩
theorem rvote_all (a b c : Option Addr) (n m k ca cb cc : Nat) (A B C : List Nat) (w : World) (ha : Rd w a n ca A) (hb : Rd w b m cb B) (hc : Rd w c k cc C) (hn : n ≤ 1048576) :
    Calls Try.prog 12 #[.slice a n ca, .slice b m cb, .slice c k cc] w fun e w' => ∃ ao no co au mu cu, e = .returned (.tuple #[.slice ao no co, .slice au mu cu, .int .i64 (voE n m k : Nat)]) ∧ Ans w' w.heap.size ao no co (voR A B C n m k) ∧ AnsZ w' w.heap.size au mu cu (unR A B C n m k) ∧ w.grownBy w' none := by
  unfold voE voR unR
  by_cases h : n = m ∧ n = k
  · obtain ⟨rfl, rfl⟩ := h
    have e : sameN n n n = true := by simp [sameN]
    rw [e, if_pos rfl, if_pos rfl, if_pos rfl]
    refine (rvote_ok a b c n ca cb cc A B C w ha hb hc hn).mono ?_
    rintro e w' ⟨ao, co, au, mu, cu, rfl, h1, h2, h3⟩
    exact ⟨ao, n, co, au, mu, cu, rfl, h1, h2, h3⟩
  · have e : sameN n m k = false := by simpa [sameN] using h
    rw [e]
    refine (rvote_bad a b c n m k ca cb cc w h).mono ?_
    rintro e w' ⟨rfl, rfl⟩
    exact ⟨none, 0, 0, none, 0, 0, rfl, ans_nilM _ _, ansZ_nil _ _, World.grownBy.refl _ _⟩
theorem voR_len (A B C : List Nat) (n m k : Nat) : (voR A B C n m k).length ≤ n := by
  unfold voR
  split
  · rw [tab_len]; exact Nat.le_refl _
  · exact Nat.zero_le _
set_option maxHeartbeats 4000000 in
theorem votes_walk (a b c : Option Addr) (n m k ca cb cc : Nat) (A B C : List Nat) (w : World) (ha : Rd w a n ca A) (hb : Rd w b m cb B) (hc : Rd w c k cc C) (hn : n ≤ 1048576) (hm : m ≤ 1048576) (hk : k ≤ 1048576) :
    Calls Try.prog 4 #[.slice a n ca, .slice b m cb, .slice c k cc] w fun e w' => e = .returned (.bool true) ∧ Below w.heap.size w w' := by
  have t1 : True := trivial
  have hvl := voR_len A B C n m k
  go_enter Try.func4, Try.ntmps4
  go_wp2_with (first
    | (go_at_call 11; have _t := t1; clear t1; refine (roomy_any a n ca A w ha (by omega)).mono ?_; rintro e w1 ⟨rfl, ⟨Dh, hh1⟩, g01⟩; have hb1 := hb.keep g01; have t2 : True := trivial)
    | (go_at_call 11; have _t := t2; clear t2; refine (roomy_any b m cb B w1 hb1 (by omega)).mono ?_; rintro e w2 ⟨rfl, ⟨Dk, hk2⟩, g12⟩; have g02 := grown_trans g01 g12; have hc2 := hc.keep g02; have hh2 := hh1.keep g12; have t3 : True := trivial)
    | (go_at_call 11; have _t := t3; clear t3; refine (roomy_any c k cc C w2 hc2 (by omega)).mono ?_; rintro e w3 ⟨rfl, ⟨Dm, hm3⟩, g23⟩; have g03 := grown_trans g02 g23; have ha3 := ha.keep g03; have hb3 := hb.keep g03; have hc3 := hc.keep g03; have hh3 := hh2.keep g23; have hk3 := hk2.keep g23; have t4 : True := trivial)
    | (go_at_call 12; have _t := t4; clear t4; refine (rvote_all a b c n m k ca cb cc A B C w3 ha3 hb3 hc3 hn).mono ?_; rintro e w4 ⟨ar, nr, cr, at_, nt, ct, rfl, hr4, ht4, g34⟩; have g04 := grown_trans g03 g34; have hH4 := (hh3.keep g34).rd ha.byte ha.len (by omega); have hK4 := (hk3.keep g34).rd hb.byte hb.len (by omega); have hM4 := (hm3.keep g34).rd hc.byte hc.len (by omega); have t5 : True := trivial)
    | (go_at_call 13; have _t := t5; clear t5; refine (vote_all _ _ _ n m k _ _ _ A B C w4 hH4 hK4 hM4 hn).mono ?_; rintro e w5 ⟨ax, nx, cx, ap, np, cp, rfl, hx5, hp5, g45⟩; have g05 := grown_trans g04 g45; have hH5 := hH4.keep g45; have hK5 := hK4.keep g45; have hM5 := hM4.keep g45; have t6 : True := trivial)
    | (go_at_call 13; have _t := t6; clear t6; refine (vote_all _ _ _ n m k _ _ _ A B C w5 hH5 hK5 hM5 hn).mono ?_; rintro e w6 ⟨ay, ny, cy, aq, nq, cq, rfl, hy6, hq6, g56⟩; have g06 := grown_trans g05 g56; have hp6 := hp5.keep g56; have g46 := grown_trans g45 g56; have ht6 := ht4.keep g46; have t7 : True := trivial)
    | (go_at_call 14; have _t := t7; clear t7; refine (sameInts_any ap at_ np nt cp ct _ w6 hp6.rd ht6.rd).mono ?_; rintro e w7 ⟨rfl, g67⟩; have g07 := grown_trans g06 g67; have t8 : True := trivial)
    | (go_at_call 14; have _t := t8; clear t8; refine (sameInts_any aq at_ nq nt cq ct _ w7 (hq6.keep g67).rd (ht6.keep g67).rd).mono ?_; rintro e w8 ⟨rfl, g78⟩; have g08 := grown_trans g07 g78; have g68 := grown_trans g67 g78; have g58 := grown_trans g56 g68; have g48 := grown_trans g45 g58; have t9 : True := trivial)
    | (go_at_call 15; have _t := t9; clear t9; refine (twice_any ax ay ar nx ny nr cx cy cr w4.heap.size _ w8 (hx5.keep g58) (hy6.keep g68).rd (hr4.keep g48).rd (by have := hx5.len; omega) (hx5.later hy6 (Nat.le_refl _)) (hx5.earlier hr4 (Nat.le_refl _))).mono ?_; rintro e w9 ⟨rfl, g89⟩; have g38 := grown_trans g34 g48; have g39 := grown_far g38 g89 (hx5.far _ g34.size); have g09 := grown_trans g03 g39; have t10 : True := trivial)
    | (go_at_call 16; have _t := t10; clear t10; refine (left_any _ a n ca A Dh w9 (hh3.keep g39) (ha.keep g09) (by omega)).mono ?_; rintro e w10 ⟨rfl, g910⟩; have g310 := grown_trans g39 g910; have g010 := grown_trans g03 g310; have t11 : True := trivial)
    | (go_at_call 16; have _t := t11; clear t11; refine (left_any _ b m cb B Dk w10 (hk3.keep g310) (hb.keep g010) (by omega)).mono ?_; rintro e w11 ⟨rfl, g1011⟩; have g311 := grown_trans g310 g1011; have g011 := grown_trans g03 g311; have t12 : True := trivial)
    | (go_at_call 16; have _t := t12; clear t12; refine (left_any _ c k cc C Dm w11 (hm3.keep g311) (hc.keep g011) (by omega)).mono ?_; rintro e w12 ⟨rfl, g1112⟩))
  go_ret
  exact ⟨rfl, (Below.refl _ _).grown (grown_trans g011 g1112) (Nat.le_refl _) (fun k hk => by cases hk)⟩
end Go.Proofs.Ytchbppidepapiaa
