import Derived.Test.YtknaganjacghnaaNPk5
namespace Go.Proofs.Ytknaganjacghnaa
open Go.RowKit
set_option maxRecDepth 100000
set_option linter.unusedVariables false
set_option linter.unusedSimpArgs false

theorem beL_len (k x : Nat) : (beL k x).length = k := tab_len _ _
theorem pakL_le (cr ch ma ow fi st : Int) (D : List Nat) : (pakL cr ch ma ow fi st D).length ≤ 2048 := by
  unfold pakL
  split
  · next h =>
    have := paE_ok h
    unfold paL paA
    simp only [List.length_append, beL_len, List.length_nil]
    omega
  · simp
set_option maxHeartbeats 8000000 in
theorem fpack_walk (cr ch ma ow fi st : Int) (a : Option Addr) (n cap : Nat) (D : List Nat) (w : World) (hR : Rd w a n cap D) (hn : n ≤ 140737488351232) :
    Calls Try.prog 4 #[.agg (heA cr ch ma ow fi), .slice a n cap, .int .i64 st] w fun e w' => e = .returned (.bool true) ∧ Below w.heap.size w w' := by
  have t1 : True := trivial
  have hL := pakL_le cr ch ma ow fi st D
  have hP := fun wz hz => rpack_any cr ch ma ow fi st a n cap D wz hz hn
  have hQ := fun (az : Option Addr) (cz : Nat) wz hz => pack_any cr ch ma ow fi st az n cz D wz hz hn
  generalize pakL cr ch ma ow fi st D = L at hL hP hQ
  generalize paE cr ch ma ow fi st n = E at hP hQ
  have b0 := BxS.new w 28 (heA cr ch ma ow fi)
  have g0 := World.grownBy_alloc w (.cells (heA cr ch ma ow fi) 28) none
  unfold heA at hP hQ b0 g0 ⊢
  generalize hw0 : w.alloc (.cells #[.int .i64 cr, .int .i64 ch, .int .i64 ma, .int .i64 ow, .int .i64 fi] 28) = w0 at b0 g0
  have hR0 := hR.keep g0
  go_enter Try.func4, Try.ntmps4
  go_wp2_with (first
    | (go_at_call 12; have _t := t1; clear t1; refine (roomy_any a n cap D w0 hR0 hn).mono ?_; rintro e w1 ⟨rfl, ⟨Dh, hh1⟩, g1⟩; have hR1 := hR0.keep g1; obtain ⟨c0, c1, c2, c3, c4⟩ := (b0.keep g1 (by simp)).cell5; have t2 : True := trivial)
    | (go_at_call 16; have _t := t2; clear t2; refine (hP w1 hR1).mono ?_; rintro e w2 ⟨aw, nw, cw, rfl, hA2, g2⟩; have g12 := grown_trans g1 g2; have hH2 := (hh1.keep g2).rd hR.byte hR.len hn; clear c0 c1 c2 c3 c4; obtain ⟨c0, c1, c2, c3, c4⟩ := (b0.keep g12 (by simp)).cell5; have t3 : True := trivial)
    | (go_at_call 17; have _t := t3; clear t3; refine (hQ _ _ w2 hH2).mono ?_; rintro e w3 ⟨aa, na, ca, rfl, hA3, g3⟩; have g13 := grown_trans g12 g3; have hH3 := hH2.keep g3; clear c0 c1 c2 c3 c4; obtain ⟨c0, c1, c2, c3, c4⟩ := (b0.keep g13 (by simp)).cell5; have t4 : True := trivial)
    | (go_at_call 17; have _t := t4; clear t4; refine (hQ _ _ w3 hH3).mono ?_; rintro e w4 ⟨ab, nb, cb, rfl, hA4, g4⟩; have g14 := grown_trans g13 g4; have t5 : True := trivial)
    | (go_at_call 18; have _t := t5; clear t5; refine (twice_any aa ab aw na nb nw ca cb cw _ L w4 (hA3.keep g4) hA4.rd ((hA2.keep g3).keep g4).rd (by have := hA3.len; omega) (hA3.later hA4 (Nat.le_refl _)) (hA3.earlier hA2 (Nat.le_refl _))).mono ?_; rintro e w5 ⟨rfl, g5⟩; have G5 : w1.grownBy w5 none := grown_far (grown_trans (grown_trans g2 g3) g4) g5 (hA3.far _ g2.size); have t6 : True := trivial)
    | (go_at_call 15; have _t := t6; clear t6; refine (left_any w0.heap.size a n cap D Dh w5 (hh1.keep G5) (hR1.keep G5) hn).mono ?_; rintro e w6 ⟨rfl, g6⟩))
  go_ret
  exact ⟨rfl, (Below.refl _ _).grown (grown_trans (grown_trans (grown_trans g0 g1) G5) g6) (Nat.le_refl _) (fun k hk => by cases hk)⟩
end Go.Proofs.Ytknaganjacghnaa
