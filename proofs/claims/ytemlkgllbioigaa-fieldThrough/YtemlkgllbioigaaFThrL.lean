import Derived.Test.YtemlkgllbioigaaFRThr2
namespace Go.Proofs.Ytemlkgllbioigaa
open Go.RowKit
set_option maxRecDepth 100000
set_option linter.unusedVariables false
set_option linter.unusedSimpArgs false

def thE (X Y : List Nat) : Int := if X.length ≠ Y.length ∨ 255 < X.length then 1 else if dupB X X.length = true then 4 else 0
def thR (X Y : List Nat) : List Nat := if X.length ≠ Y.length ∨ 255 < X.length then [] else if dupB X X.length = true then [] else thL X Y
theorem thR_le (X Y : List Nat) : (thR X Y).length ≤ 256 := by
  unfold thR; split
  · simp
  · split
    · simp
    · have := trimL_le ((List.range (X.length + 1)).map (ctF X Y X.length X.length))
      unfold thL
      simp only [List.length_map, List.length_range] at this
      omega
theorem thr_all (a b : Option Addr) (n m cap cap' : Nat) (X Y : List Nat) (w : World) (hX : Rd w a n cap X) (hY : Rd w b m cap' Y) :
    Calls Try.prog 33 #[.slice a n cap, .slice b m cap'] w fun e w' => ∃ a' n' c', e = .returned (.tuple #[.slice a' n' c', .int .i64 (thE X Y)]) ∧ Ans w' w.heap.size a' n' c' (thR X Y) ∧ w.grownBy w' none := by
  have h1 := hX.le; have h2 := hX.max; have h3 := hY.le; have h4 := hY.max
  unfold maxLen at h2 h4
  unfold thE thR
  rw [hX.len, hY.len]
  by_cases h : n ≠ m ∨ 255 < n
  · rw [if_pos h, if_pos h]
    refine (thr_len a b n m cap cap' w (by omega) (by omega) h).mono ?_
    rintro e w' ⟨rfl, rfl⟩
    exact ⟨none, 0, 0, rfl, ans_nil _ _, World.grownBy.refl _ _⟩
  · rw [if_neg h, if_neg h]
    obtain rfl : m = n := by omega
    cases hd : dupB X m with
    | true =>
      rw [if_pos rfl, if_pos rfl]
      refine (thr_dup a b m cap cap' X w hX (by omega) hd).mono ?_
      rintro e w' ⟨rfl, hg⟩
      exact ⟨none, 0, 0, rfl, ans_nil _ _, hg⟩
    | false =>
      rw [if_neg (by decide), if_neg (by decide)]
      exact thr_ok a b m cap cap' X Y w hX hY (by omega) hd
theorem rthr_all (a b : Option Addr) (n m cap cap' : Nat) (X Y : List Nat) (w : World) (hX : Rd w a n cap X) (hY : Rd w b m cap' Y) :
    Calls Try.prog 32 #[.slice a n cap, .slice b m cap'] w fun e w' => ∃ a' n' c', e = .returned (.tuple #[.slice a' n' c', .int .i64 (thE X Y)]) ∧ Ans w' w.heap.size a' n' c' (thR X Y) ∧ w.grownBy w' none := by
  have h1 := hX.le; have h2 := hX.max; have h3 := hY.le; have h4 := hY.max
  unfold maxLen at h2 h4
  unfold thE thR
  rw [hX.len, hY.len]
  by_cases h : n ≠ m ∨ 255 < n
  · rw [if_pos h, if_pos h]
    refine (rthr_len a b n m cap cap' w (by omega) (by omega) h).mono ?_
    rintro e w' ⟨rfl, rfl⟩
    exact ⟨none, 0, 0, rfl, ans_nil _ _, World.grownBy.refl _ _⟩
  · rw [if_neg h, if_neg h]
    obtain rfl : m = n := by omega
    cases hd : dupB X m with
    | true =>
      rw [if_pos rfl, if_pos rfl]
      refine (rthr_dup a b m cap cap' X w hX (by omega) hd).mono ?_
      rintro e w' ⟨rfl, hg⟩
      exact ⟨none, 0, 0, rfl, ans_nil _ _, hg⟩
    | false =>
      rw [if_neg (by decide), if_neg (by decide)]
      exact rthr_ok a b m cap cap' X Y w hX hY (by omega) hd

set_option maxHeartbeats 1600000 in
theorem through_walk (a b : Option Addr) (n m cap cap' : Nat) (P Q : List Nat) (w : World) (hp : Rd w a n cap P) (hq : Rd w b m cap' Q) (hn : n ≤ 140737488351232) (hm : m ≤ 140737488351232) :
    Calls Try.prog 6 #[.slice a n cap, .slice b m cap'] w fun e w' => e = .returned (.bool true) ∧ Below w.heap.size w w' := by
  have t1 : True := trivial
  have tle := thR_le P Q
  go_enter Try.func6, Try.ntmps6
  go_wp2_with (first
    | (go_at_call 21; have _t := t1; clear t1; refine (roomy_any a n cap P w hp hn).mono ?_; rintro e w1 ⟨rfl, ⟨Dh, hh1⟩, g01⟩; have hq1 := hq.keep g01; have t2 : True := trivial)
    | (go_at_call 21; have _t := t2; clear t2; refine (roomy_any b m cap' Q w1 hq1 hm).mono ?_; rintro e w2 ⟨rfl, ⟨Dk, hk2⟩, g12⟩; have g02 := grown_trans g01 g12; have hp2 := hp.keep g02; have hq2 := hq.keep g02; have hh2 := hh1.keep g12; have t3 : True := trivial)
    | (go_at_call 32; have _t := t3; clear t3; refine (rthr_all a b n m cap cap' P Q w2 hp2 hq2).mono ?_; rintro e w3 ⟨aw, nw, cw, rfl, hw3, g23⟩; have hH3 := (hh2.keep g23).rd hp.byte hp.len hn; have hK3 := (hk2.keep g23).rd hq.byte hq.len hm; have t4 : True := trivial)
    | (go_at_call 33; have _t := t4; clear t4; refine (thr_all _ _ n m _ _ P Q w3 hH3 hK3).mono ?_; rintro e w4 ⟨aa, na, ca, rfl, ha4, g34⟩; have hH4 := hH3.keep g34; have hK4 := hK3.keep g34; have t5 : True := trivial)
    | (go_at_call 33; have _t := t5; clear t5; refine (thr_all _ _ n m _ _ P Q w4 hH4 hK4).mono ?_; rintro e w5 ⟨ab, nb, cb, rfl, hb5, g45⟩; have t6 : True := trivial)
    | (go_at_call 24; have _t := t6; clear t6; refine (twice_any aa ab aw na nb nw ca cb cw w3.heap.size _ w5 (ha4.keep g45) hb5.rd (hw3.keep (grown_trans g34 g45)).rd (by have := ha4.len; omega) (ha4.later hb5 (Nat.le_refl _)) (ha4.earlier hw3 (Nat.le_refl _))).mono ?_; rintro e w6 ⟨rfl, g56⟩; have g25 := grown_trans g23 (grown_trans g34 g45); have g2x := grown_far g25 g56 (ha4.far _ g23.size); have g0x := grown_trans g02 g2x; have t7 : True := trivial)
    | (go_at_call 27; have _t := t7; clear t7; refine (left_any w.heap.size a n cap P Dh w6 (hh2.keep g2x) (hp.keep g0x) hn).mono ?_; rintro e w7 ⟨rfl, g67⟩; have t8 : True := trivial)
    | (go_at_call 27; have _t := t8; clear t8; refine (left_any w1.heap.size b m cap' Q Dk w7 (hk2.keep (grown_trans g2x g67)) (hq.keep (grown_trans g0x g67)) hm).mono ?_; rintro e w8 ⟨rfl, g78⟩))
  go_ret
  exact ⟨rfl, (Below.refl _ _).grown (grown_trans g0x (grown_trans g67 g78)) (Nat.le_refl _) (fun k hk => by cases hk)⟩
end Go.Proofs.Ytemlkgllbioigaa
