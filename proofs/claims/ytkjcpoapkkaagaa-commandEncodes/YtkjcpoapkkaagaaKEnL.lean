import Derived.Test.YtkjcpoapkkaagaaKOr3
namespace Go.Proofs.Ytkjcpoapkkaagaa
open Go.RowKit
set_option maxRecDepth 100000
set_option linter.unusedVariables false
set_option linter.unusedSimpArgs false

set_option maxHeartbeats 8000000 in
theorem kenc_walk (cr : Int) (bp co : Bool) (sq : Int) (a : Option Addr) (n cap : Nat) (D : List Nat) (w : World) (hR : Rd w a n cap D) (hn : n ≤ 140737488351232) :
    Calls Try.prog 3 #[.agg (orA cr bp co sq a n cap)] w fun e w' => e = .returned (.bool true) ∧ Below w.heap.size w w' := by
  have t1 : True := trivial
  have hL := ordB_len cr bp co sq D
  have hP := fun wz hz => robytes_any cr bp co sq a n cap D wz hz
  have hQ := fun (az : Option Addr) (cz : Nat) wz hz => kenc_any cr bp co sq az n cz D wz hz
  generalize ordB cr bp co sq D = L at hL hP hQ
  generalize orE cr bp co sq n = E at hP hQ
  have bp0 := BxS.new w 24 (orA cr bp co sq a n cap)
  have g0 := World.grownBy_alloc w (.cells (orA cr bp co sq a n cap) 24) none
  unfold orA at hP hQ bp0 g0 ⊢
  generalize hw0 : w.alloc (.cells #[.int .i64 cr, .bool bp, .bool co, .int .i64 sq, .slice a n cap] 24) = w0 at bp0 g0
  have hz0 : w0.heap.size = w.heap.size + 1 := by rw [← hw0]; simp
  have bh0 := BxS.new w0 24 #[.int .i64 cr, .bool bp, .bool co, .int .i64 sq, .slice a n cap]
  have g1 := World.grownBy_alloc w0 (.cells #[.int .i64 cr, .bool bp, .bool co, .int .i64 sq, .slice a n cap] 24) none
  generalize hw1 : w0.alloc (.cells #[.int .i64 cr, .bool bp, .bool co, .int .i64 sq, .slice a n cap] 24) = w1 at bh0 g1
  rw [hz0] at bh0
  have hz1 : Hid (w1.heap.size = w.heap.size + 2) := by show _ = _; rw [← hw1]; simp [hz0]
  have bp1 := bp0.keep g1 (by simp)
  have g01 := grown_trans g0 g1
  have hR1 := hR.keep g01
  obtain ⟨c0, c1, c2, c3, c4⟩ := bp1.cell5
  obtain ⟨d0, d1, d2, d3, d4⟩ := bh0.cell5
  obtain ⟨e0, e1, e2, e3, e4⟩ := bp0.cell5
  clear bp0
  go_enter Try.func3, Try.ntmps3
  go_wp2_with (first
    | (go_at_call 13; have _t := t1; clear t1; refine (roomy_any a n cap D w1 hR1 hn).mono ?_; rintro e w2 ⟨rfl, ⟨Dh, hh2⟩, g12⟩; clear c0 c1 c2 c3 c4 d0 d1 d2 d3 d4 e0 e1 e2 e3 e4; have bh2 := bh0.keep g12 (by simp); have fr2 := bh2.free 4; have d5 := bh2.cell5.2.2.2.2; have bh3 := bh2.set 4 (.slice (some ⟨w1.heap.size, 0, none⟩) n (n + 5)); have g23 := grown_set w2 (w.heap.size + 1) 4 (.slice (some ⟨w1.heap.size, 0, none⟩) n (n + 5)); generalize hw3 : w2.setCell ⟨w.heap.size + 1, 4, none⟩ (.slice (some ⟨w1.heap.size, 0, none⟩) n (n + 5)) = w3 at bh3 g23; have bh3 : BxS w3 (w.heap.size + 1) 24 #[.int .i64 cr, .bool bp, .bool co, .int .i64 sq, .slice (some ⟨w1.heap.size, 0, none⟩) n (n + 5)] := bh3; have g02 := grown_trans g01 g12; have g03 := grown_far g02 g23 (fun g e => by cases e; omega); have hR3 := hR.keep g03; have bp3 := (bp1.keep g12 (by simp)).keep g23 (by simp); have hh3 := hh2.grown g23 (by have := hz1.out; simp; omega); have hH3 := hh3.rd hR.byte hR.len hn; obtain ⟨c0, c1, c2, c3, c4⟩ := bp3.cell5; have t2 : True := trivial)
    | (go_at_call 14; have _t := t2; clear t2; refine (hP w3 hR3).mono ?_; rintro e w4 ⟨aw, nw, cw, rfl, hw4, g34⟩; have hH4 := hH3.keep g34; clear c0 c1 c2 c3 c4 d5 fr2; have bh4 := bh3.keep g34 (by simp); obtain ⟨d0, d1, d2, d3, d4⟩ := bh4.cell5; have t3 : True := trivial)
    | (go_at_call 15; have _t := t3; clear t3; refine (hQ _ _ w4 hH4).mono ?_; rintro e w5 ⟨aa, na, ca, rfl, ha5, g45⟩; have hH5 := hH4.keep g45; clear d0 d1 d2 d3 d4; have bh5 := bh4.keep g45 (by simp); obtain ⟨d0, d1, d2, d3, d4⟩ := bh5.cell5; have t4 : True := trivial)
    | (go_at_call 15; have _t := t4; clear t4; refine (hQ _ _ w5 hH5).mono ?_; rintro e w6 ⟨ab, nb, cb, rfl, hb6, g56⟩; have g36 := grown_trans g34 (grown_trans g45 g56); clear d0 d1 d2 d3 d4; have t5 : True := trivial)
    | (go_at_call 16; have _t := t5; clear t5; refine (twice_any aa ab aw na nb nw ca cb cw w4.heap.size L w6 (ha5.keep g56) hb6.rd (hw4.keep (grown_trans g45 g56)).rd (by have := ha5.len; omega) (ha5.later hb6 (Nat.le_refl _)) (ha5.earlier hw4 (Nat.le_refl _))).mono ?_; rintro e w7 ⟨rfl, g67⟩; have g37 := grown_far g36 g67 (ha5.far _ g34.size); have bp7 := bp3.keep g37 (by simp); have bh7 := bh3.keep g37 (by simp); have c5 := bp7.cell5.2.2.2.2; have d5 := bh7.cell5.2.2.2.2; have t6 : True := trivial)
    | (go_at_call 17; have _t := t6; clear t6; refine (left_any w1.heap.size a n cap D Dh w7 (hh3.keep g37) (hR3.keep g37) hn).mono ?_; rintro e w8 ⟨rfl, g78⟩))
  go_ret
  exact ⟨rfl, (Below.refl _ _).grown (grown_trans g03 (grown_trans g37 g78)) (Nat.le_refl _) (fun k hk => by cases hk)⟩
/-- an order, as it comes -/
theorem shown_order {w : World} {full : Bool} {n : Nat} {v : Value} (h : (Sh.fcons 1 (.int .i64) (.fcons 1 .bool (.fcons 1 .bool (.fcons 1 (.int .i64) (.fcons 1 (.slice 1 1 (.int .u8)) .fend))))).shown w full v n) :
    ∃ cr bp co sq a len cap L, v = .agg (orA cr bp co sq a len cap) ∧ Rd w a len cap L ∧ (full = true → cap ≤ 140737488351232) ∧ cap + 1 ≤ n ∧ (-9223372036854775808 ≤ cr ∧ cr ≤ 9223372036854775807) ∧ (-9223372036854775808 ≤ sq ∧ sq ≤ 9223372036854775807) := by
  obtain ⟨cs, rfl, n0, m0, rfl, ⟨_, cr, e0, k0⟩, n1, m1, rfl, ⟨_, bp, e1⟩, n2, m2, rfl, ⟨_, co, e2⟩, n3, m3, rfl, ⟨_, sq, e3, k3⟩, n4, m4, rfl, h4, e5, _⟩ := h
  obtain ⟨a, len, cap, L, e4, hR, hf, hn⟩ := met_bytes h4
  refine ⟨cr, bp, co, sq, a, len, cap, L, ?_, hR, hf, by omega, bounds_i64 k0, bounds_i64 k3⟩
  unfold orA
  congr 1
  refine Array.toList_inj.1 ?_
  generalize cs.toList = cs at *
  match cs with
  | [] => simp at e0
  | [_] => simp at e1
  | [_, _] => simp at e2
  | [_, _, _] => simp at e3
  | [_, _, _, _] => simp at e4
  | [x0, x1, x2, x3, x4] => simp_all
  | x0 :: x1 :: x2 :: x3 :: x4 :: x5 :: r => simp at e5
end Go.Proofs.Ytkjcpoapkkaagaa
