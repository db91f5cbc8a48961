import Derived.Test.YtmcadmndmafogaaPFil
import Derived.Test.YtmcadmndmafogaaPTak
namespace Go.Proofs.Ytmcadmndmafogaa
open Go.RowKit
set_option maxRecDepth 100000
set_option linter.unusedVariables false
set_option linter.unusedSimpArgs false

theorem encP_len (up se : Bool) (ap pt ct : Int) (D : List Nat) : (encP up se ap pt ct D).length ≤ 65542 := by
  unfold encP
  split
  · rename_i h
    have := (mayE_ok h).2.2
    rw [List.length_append, hdL_len]; omega
  · simp
set_option maxHeartbeats 4000000 in
theorem penc_walk (up se : Bool) (ap pt ct : Int) (a : Option Addr) (n cap : Nat) (D : List Nat) (z : Int) (w : World) (hR : Rd w a n cap D) (hn : n ≤ 140737488351232) :
    Calls Try.prog 3 #[pkV up se ap pt ct a n cap, .int .i64 z] w fun e w' => e = .returned (.bool true) ∧ Below w.heap.size w w' := by
  have t1 : True := trivial
  have hL := encP_len up se ap pt ct D
  unfold pkV
  have bp0 := BxP.new w up se ap pt ct a n cap
  have g0 := World.grownBy_alloc w (.cells #[.bool up, .bool se, .int .i64 ap, .int .i64 pt, .int .i64 ct, .slice a n cap] 25) none
  generalize hw0 : w.alloc (.cells #[.bool up, .bool se, .int .i64 ap, .int .i64 pt, .int .i64 ct, .slice a n cap] 25) = w0 at bp0 g0
  have hz0 : w0.heap.size = w.heap.size + 1 := by rw [← hw0]; simp
  have bh0 := BxP.new w0 up se ap pt ct a n cap
  have g1 := World.grownBy_alloc w0 (.cells #[.bool up, .bool se, .int .i64 ap, .int .i64 pt, .int .i64 ct, .slice a n cap] 25) none
  generalize hw1 : w0.alloc (.cells #[.bool up, .bool se, .int .i64 ap, .int .i64 pt, .int .i64 ct, .slice a n cap] 25) = w1 at bh0 g1
  rw [hz0] at bh0
  have hz1 : Hid (w1.heap.size = w.heap.size + 2) := by show _ = _; rw [← hw1]; simp [hz0]
  have bp1 := bp0.keep g1 (by simp)
  have g01 := grown_trans g0 g1
  have hR1 := hR.keep g01
  obtain ⟨c0, c1, c2, c3, c4, c5⟩ := bp1.cell
  obtain ⟨d0, d1, d2, d3, d4, d5⟩ := bh0.cell
  obtain ⟨e0, e1, e2, e3, e4, e5⟩ := bp0.cell
  clear bp0
  go_enter Try.func3, Try.ntmps3
  go_wp2_with (first
    | (go_at_call 9; have _t := t1; clear t1; refine (roomy_any a n cap D w1 hR1 hn).mono ?_; rintro e w2 ⟨rfl, ⟨Dh, hh2⟩, g12⟩; clear c0 c1 c2 c3 c4 c5 d0 d1 d2 d3 d4 d5 e0 e1 e2 e3 e4 e5; have bh2 := bh0.keep g12 (by simp); have fr2 := bh2.free 5; have d5 := bh2.cell.2.2.2.2.2; have bh3 := bh2.set5 (some ⟨w1.heap.size, 0, none⟩) n (n + 5); have g23 := grown_set w2 (w.heap.size + 1) 5 (.slice (some ⟨w1.heap.size, 0, none⟩) n (n + 5)); generalize hw3 : w2.setCell ⟨w.heap.size + 1, 5, none⟩ (.slice (some ⟨w1.heap.size, 0, none⟩) n (n + 5)) = w3 at bh3 g23; have g02 := grown_trans g01 g12; have g03 := grown_far g02 g23 (fun g e => by cases e; omega); have hR3 := hR.keep g03; have bp3 := (bp1.keep g12 (by simp)).keep g23 (by simp); have hh3 := hh2.grown g23 (by have := hz1.out; simp; omega); have hH3 := hh3.rd hR.byte hR.len hn; have hs3 : w.heap.size + 2 ≤ w3.heap.size := (Nat.le_trans (Nat.le_of_eq hz1.out.symm) (Nat.le_trans g12.size g23.size)); obtain ⟨c0, c1, c2, c3, c4, c5⟩ := bp3.cell; obtain ⟨d0', d1', d2', d3', d4', d5'⟩ := bh3.cell; have t2 : True := trivial)
    | (go_at_call 10; have _t := t2; clear t2; refine (pbytes_any up se ap pt ct a n cap D w3 hR3).mono ?_; rintro e w4 ⟨aw, nw, cw, rfl, hw4, g34⟩; have hH4 := hH3.keep g34; clear c0 c1 c2 c3 c4 c5 d0' d1' d2' d3' d4' d5' d5 fr2; have bh4 := bh3.keep g34 (by simp); obtain ⟨d0, d1, d2, d3, d4, d5⟩ := bh4.cell; have t3 : True := trivial)
    | (go_at_call 11; have _t := t3; clear t3; refine (encode_any up se ap pt ct _ n _ D w4 hH4).mono ?_; rintro e w5 ⟨aa, na, ca, rfl, ha5, g45⟩; have hH5 := hH4.keep g45; clear d0 d1 d2 d3 d4 d5; have bh5 := bh4.keep g45 (by simp); obtain ⟨d0, d1, d2, d3, d4, d5⟩ := bh5.cell; have t4 : True := trivial)
    | (go_at_call 11; have _t := t4; clear t4; refine (encode_any up se ap pt ct _ n _ D w5 hH5).mono ?_; rintro e w6 ⟨ab, nb, cb, rfl, hb6, g56⟩; clear d0 d1 d2 d3 d4 d5; have t5 : True := trivial)
    | (go_at_call 12; have _t := t5; clear t5; refine (filler_any _ w6).mono ?_; rintro e w7 ⟨af, nf, cf, rfl, hf7, g67⟩; have t6 : True := trivial)
    | (go_at_call 13; have _t := t6; clear t6; refine (fill_any _ w7).mono ?_; rintro e w8 ⟨ac, nc, cc, rfl, hc8, g78⟩; have g38 := grown_trans g34 (grown_trans g45 (grown_trans g56 (grown_trans g67 g78))); have t7 : True := trivial)
    | (go_at_call 14; have _t := t7; clear t7; refine (sameBytes_any _ _ _ _ _ _ _ w8 hc8.rd (hf7.keep g78).rd).mono ?_; rintro e w8' ⟨rfl, hw⟩; have hw := hw.symm; subst hw; have t8 : True := trivial)
    | (go_at_call 15; have _t := t8; clear t8; refine (twice_any aa ab aw na nb nw ca cb cw w4.heap.size _ w8 (ha5.keep (grown_trans g56 (grown_trans g67 g78))) (hb6.keep (grown_trans g67 g78)).rd (hw4.keep (grown_trans g45 (grown_trans g56 (grown_trans g67 g78)))).rd (by have := ha5.len; omega) (ha5.later hb6 (Nat.le_refl _)) (ha5.earlier hw4 (Nat.le_refl _))).mono ?_; rintro e w9 ⟨rfl, g89⟩; have g39 := grown_far g38 g89 (ha5.far _ g34.size); have bp9 := bp3.keep g39 (by simp); have bh9 := bh3.keep g39 (by simp); have c5 := bp9.cell.2.2.2.2.2; have d5 := bh9.cell.2.2.2.2.2; have t9 : True := trivial)
    | (go_at_call 16; have _t := t9; clear t9; refine (left_any w1.heap.size a n cap D Dh w9 (hh3.keep g39) (hR3.keep g39) hn).mono ?_; rintro e w10 ⟨rfl, g910⟩))
  go_ret
  exact ⟨rfl, (Below.refl _ _).grown (grown_trans g03 (grown_trans g39 g910)) (Nat.le_refl _) (fun k hk => by cases hk)⟩
end Go.Proofs.Ytmcadmndmafogaa
