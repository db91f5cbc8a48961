import Derived.Test.YtkjcpoapkkaagaaKGt4
namespace Go.Proofs.Ytkjcpoapkkaagaa
open Go.RowKit
set_option maxRecDepth 100000
set_option linter.unusedVariables false
set_option linter.unusedSimpArgs false

set_option maxHeartbeats 8000000 in
theorem gates_walk (cr nx ha : Int) (sh wa ag : Bool) (ct z : Int) (w : World) :
    Calls Try.prog 5 #[.agg (gtA cr nx ha sh wa ag ct), .int .i64 z] w fun e w' => e = .returned (.bool true) ∧ Below w.heap.size w w' := by
  have h1 := fun wz => rguard_any cr ha wz
  have h2 := fun wz => guard_any cr ha wz
  have h3 := fun wz => rreport_any cr nx ha sh wa ag ct wz
  have h4 := fun wz => report_any cr nx ha sh wa ag ct wz
  have h5 := fun wz => rread_any z wz
  have h6 := fun wz => read_any z wz
  generalize guX cr ha cr = x1 at h1 h2
  generalize guX cr ha ha = x2 at h1 h2
  generalize guE cr ha = x3 at h1 h2
  generalize rpV cr nx ha sh wa ag ct = x4 at h3 h4
  generalize rpE cr nx ha ct = x5 at h3 h4
  generalize stN z = y1 at h5 h6
  generalize stB z 13 = y2 at h5 h6
  generalize stB z 12 = y3 at h5 h6
  generalize stB z 11 = y4 at h5 h6
  generalize stC z = y5 at h5 h6
  generalize stE z = y6 at h5 h6
  have b0 := BxS.new w 38 (gtA cr nx ha sh wa ag ct)
  have g0 := World.grownBy_alloc w (.cells (gtA cr nx ha sh wa ag ct) 38) none
  unfold gtA at h1 h2 h3 h4 h5 h6 b0 g0 ⊢
  generalize hw0 : w.alloc (.cells #[.int .i64 cr, .int .i64 nx, .int .i64 ha, .bool sh, .bool wa, .bool ag, .int .i64 ct] 38) = w0 at b0 g0
  obtain ⟨c0, c1, c2, c3, c4, c5, c6⟩ := b0.cell7
  have N1 := fun wz => BxS.new wz 38 #[.int .i64 x1, .int .i64 0, .int .i64 x2, .bool false, .bool false, .bool false, .int .i64 0]
  have G1 := fun wz : World => World.grownBy_alloc wz (.cells #[.int .i64 x1, .int .i64 0, .int .i64 x2, .bool false, .bool false, .bool false, .int .i64 0] 38) none
  have N2 := fun wz => BxS.new wz 38 #[.int .i64 0, .int .i64 y1, .int .i64 0, .bool y2, .bool y3, .bool y4, .int .i64 y5]
  have G2 := fun wz : World => World.grownBy_alloc wz (.cells #[.int .i64 0, .int .i64 y1, .int .i64 0, .bool y2, .bool y3, .bool y4, .int .i64 y5] 38) none
  have t1 : True := trivial
  go_enter Try.func5, Try.ntmps5
  go_wp2_with (first
    | (go_at_call 22; have _t := t1; clear t1; refine (h1 _).mono ?_; rintro e w1 ⟨rfl, g1⟩; clear c0 c1 c2 c3 c4 c5 c6; have k1 := grown_trans g1 (G1 w1); obtain ⟨c0, c1, c2, c3, c4, c5, c6⟩ := (b0.keep k1 (by simp)).cell7; have t2 : True := trivial)
    | (go_at_call 23; have _t := t2; clear t2; refine (h2 _).mono ?_; rintro e w2 ⟨rfl, g2⟩; clear c0 c1 c2 c3 c4 c5 c6; have k2 := grown_trans g2 (G1 w2); have k12 := grown_trans k1 k2; have p1 := (N1 w1).keep k2 (by simp); obtain ⟨c0, c1, c2, c3, c4, c5, c6⟩ := (b0.keep k12 (by simp)).cell7; have t3 : True := trivial)
    | (go_at_call 24; have _t := t3; clear t3; refine (h3 _).mono ?_; rintro e w3 ⟨rfl, g3⟩; clear c0 c1 c2 c3 c4 c5 c6; have k13 := grown_trans k12 g3; have p2 := p1.keep g3 (by simp); have q2 := (N1 w2).keep g3 (by simp); obtain ⟨c0, c1, c2, c3, c4, c5, c6⟩ := (b0.keep k13 (by simp)).cell7; have t4 : True := trivial)
    | (go_at_call 25; have _t := t4; clear t4; refine (h4 _).mono ?_; rintro e w4 ⟨rfl, g4⟩; clear c0 c1 c2 c3 c4 c5 c6; have p3 := p2.keep g4 (by simp); have q3 := q2.keep g4 (by simp); have t5 : True := trivial)
    | (go_at_call 26; have _t := t5; clear t5; refine (h5 _).mono ?_; rintro e w5 ⟨rfl, g5⟩; have k5 := grown_trans g5 (G2 w5); have p4 := p3.keep k5 (by simp); have q4 := q3.keep k5 (by simp); have t6 : True := trivial)
    | (go_at_call 27; have _t := t6; clear t6; refine (h6 _).mono ?_; rintro e w6 ⟨rfl, g6⟩; have k6 := grown_trans g6 (G2 w6); have r5 := (N2 w5).keep k6 (by simp); have p5 := p4.keep k6 (by simp); have q5 := q4.keep k6 (by simp); obtain ⟨c0, c1, c2, c3, c4, c5, c6⟩ := p5.cell7; obtain ⟨d0, d1, d2, d3, d4, d5, d6⟩ := q5.cell7; obtain ⟨e0, e1, e2, e3, e4, e5, e6⟩ := r5.cell7))
  go_ret
  exact ⟨rfl, (Below.refl _ _).grown (grown_trans (grown_trans (grown_trans (grown_trans g0 k13) g4) k5) k6) (Nat.le_refl _) (fun k hk => by cases hk)⟩
/-- a gate, as it comes -/
theorem shown_gate {w : World} {full : Bool} {n : Nat} {v : Value} (h : (Sh.fcons 1 (.int .i64) (.fcons 1 (.int .i64) (.fcons 1 (.int .i64) (.fcons 1 .bool (.fcons 1 .bool (.fcons 1 .bool (.fcons 1 (.int .i64) .fend))))))).shown w full v n) :
    ∃ cr nx ha sh wa ag ct, v = .agg (gtA cr nx ha sh wa ag ct) ∧ (-9223372036854775808 ≤ cr ∧ cr ≤ 9223372036854775807) ∧ (-9223372036854775808 ≤ nx ∧ nx ≤ 9223372036854775807) ∧ (-9223372036854775808 ≤ ha ∧ ha ≤ 9223372036854775807) ∧ (-9223372036854775808 ≤ ct ∧ ct ≤ 9223372036854775807) := by
  obtain ⟨cs, rfl, n0, m0, rfl, ⟨_, cr, e0, k0⟩, n1, m1, rfl, ⟨_, nx, e1, k1⟩, n2, m2, rfl, ⟨_, ha, e2, k2⟩, n3, m3, rfl, ⟨_, sh, e3⟩, n4, m4, rfl, ⟨_, wa, e4⟩, n5, m5, rfl, ⟨_, ag, e5⟩, n6, m6, rfl, ⟨_, ct, e6, k6⟩, e7, _⟩ := h
  refine ⟨cr, nx, ha, sh, wa, ag, ct, ?_, bounds_i64 k0, bounds_i64 k1, bounds_i64 k2, bounds_i64 k6⟩
  unfold gtA
  congr 1
  refine Array.toList_inj.1 ?_
  generalize cs.toList = cs at *
  match cs with
  | [] => simp at e0
  | [_] => simp at e1
  | [_, _] => simp at e2
  | [_, _, _] => simp at e3
  | [_, _, _, _] => simp at e4
  | [_, _, _, _, _] => simp at e5
  | [_, _, _, _, _, _] => simp at e6
  | [x0, x1, x2, x3, x4, x5, x6] => simp_all
  | x0 :: x1 :: x2 :: x3 :: x4 :: x5 :: x6 :: x7 :: r => simp at e7
end Go.Proofs.Ytkjcpoapkkaagaa
