import Derived.Test.YtkjcpoapkkaagaaKAc4
import Derived.Test.YtkjcpoapkkaagaaKOp
namespace Go.Proofs.Ytkjcpoapkkaagaa
open Go.RowKit
set_option maxRecDepth 100000
set_option linter.unusedVariables false
set_option linter.unusedSimpArgs false

set_option maxHeartbeats 8000000 in
theorem kacc_walk (g : Gt) (cr : Int) (bp co : Bool) (sq : Int) (a : Option Addr) (n cap : Nat) (D : List Nat) (room : Bool) (w : World) (hR : Rd w a n cap D) (hn : n ≤ 140737488351232) :
    Calls Try.prog 6 #[.agg g.A, .agg (orA cr bp co sq a n cap), .bool room] w fun e w' => e = .returned (.bool true) ∧ Below w.heap.size w w' := by
  have t1 : True := trivial
  have hP := fun wz hz => raccept_any g cr bp co sq a n cap D room wz hz
  have hQ := fun (az : Option Addr) (cz : Nat) wz hz => accept_any g cr bp co sq az n cz D room wz hz
  generalize g.acc cr bp co sq D room = T at hP hQ
  obtain ⟨⟨ur, ux, ua, uh, uw, ug, ut⟩, T2, T3⟩ := T
  obtain ⟨gr, nx, ha, sh, wa, ag, ct⟩ := g
  simp only [Gt.A] at hP hQ ⊢
  have bG := BxS.new w 38 (gtA gr nx ha sh wa ag ct)
  have gG := World.grownBy_alloc w (.cells (gtA gr nx ha sh wa ag ct) 38) none
  unfold gtA at hP hQ bG gG ⊢
  generalize hw : w.alloc (.cells #[.int .i64 gr, .int .i64 nx, .int .i64 ha, .bool sh, .bool wa, .bool ag, .int .i64 ct] 38) = wG at bG gG
  have bp0 := BxS.new wG 24 (orA cr bp co sq a n cap)
  have g0 := World.grownBy_alloc wG (.cells (orA cr bp co sq a n cap) 24) none
  unfold orA at hP hQ bp0 g0 ⊢
  generalize hw0 : wG.alloc (.cells #[.int .i64 cr, .bool bp, .bool co, .int .i64 sq, .slice a n cap] 24) = w0 at bp0 g0
  have hz0 : w0.heap.size = wG.heap.size + 1 := by rw [← hw0]; simp
  have bh0 := BxS.new w0 24 #[.int .i64 cr, .bool bp, .bool co, .int .i64 sq, .slice a n cap]
  have g1 := World.grownBy_alloc w0 (.cells #[.int .i64 cr, .bool bp, .bool co, .int .i64 sq, .slice a n cap] 24) none
  generalize hw1 : w0.alloc (.cells #[.int .i64 cr, .bool bp, .bool co, .int .i64 sq, .slice a n cap] 24) = w1 at bh0 g1
  rw [hz0] at bh0
  have hz1 : Hid (w1.heap.size = wG.heap.size + 2) := by show _ = _; rw [← hw1]; simp [hz0]
  have hsG := gG.size
  have hlG := bG.lt
  have bp1 := bp0.keep g1 (by simp)
  have g01 := grown_trans (grown_trans gG g0) g1
  have hR1 := hR.keep g01
  have bG1 := (bG.keep g0 (by simp)).keep g1 (by simp)
  obtain ⟨c0, c1, c2, c3, c4⟩ := bp1.cell5
  obtain ⟨d0, d1, d2, d3, d4⟩ := bh0.cell5
  obtain ⟨e0, e1, e2, e3, e4⟩ := bp0.cell5
  clear bp0
  have N1 := fun wz => BxS.new wz 38 #[.int .i64 ur, .int .i64 ux, .int .i64 ua, .bool uh, .bool uw, .bool ug, .int .i64 ut]
  have G1 := fun wz : World => World.grownBy_alloc wz (.cells #[.int .i64 ur, .int .i64 ux, .int .i64 ua, .bool uh, .bool uw, .bool ug, .int .i64 ut] 38) none
  go_enter Try.func6, Try.ntmps6
  go_wp2_with (first
    | (go_at_call 13; have _t := t1; clear t1; refine (roomy_any a n cap D w1 hR1 hn).mono ?_; rintro e w2 ⟨rfl, ⟨Dh, hh2⟩, g12⟩; clear c0 c1 c2 c3 c4 d0 d1 d2 d3 d4 e0 e1 e2 e3 e4; have bh2 := bh0.keep g12 (by simp); have fr2 := bh2.free 4; have d5 := bh2.cell5.2.2.2.2; have bh3 := bh2.set 4 (.slice (some ⟨w1.heap.size, 0, none⟩) n (n + 5)); have g23 := grown_set w2 (wG.heap.size + 1) 4 (.slice (some ⟨w1.heap.size, 0, none⟩) n (n + 5)); generalize hw3 : w2.setCell ⟨wG.heap.size + 1, 4, none⟩ (.slice (some ⟨w1.heap.size, 0, none⟩) n (n + 5)) = w3 at bh3 g23; have bh3 : BxS w3 (wG.heap.size + 1) 24 #[.int .i64 cr, .bool bp, .bool co, .int .i64 sq, .slice (some ⟨w1.heap.size, 0, none⟩) n (n + 5)] := bh3; have g02 := grown_trans g01 g12; have g03 := grown_far g02 g23 (fun g e => by cases e; omega); have hR3 := hR.keep g03; have bp3 := (bp1.keep g12 (by simp)).keep g23 (by simp); have bG3 := (bG1.keep g12 (by simp)).keep g23 (by simp; omega); have hh3 := hh2.grown g23 (by have := hz1.out; simp; omega); have hH3 := hh3.rd hR.byte hR.len hn; obtain ⟨c0, c1, c2, c3, c4⟩ := bp3.cell5; obtain ⟨x0, x1, x2, x3, x4, x5, x6⟩ := bG3.cell7; have t2 : True := trivial)
    | (go_at_call 28; have _t := t2; clear t2; refine (hP w3 hR3).mono ?_; rintro e w4 ⟨rfl, g34⟩; have k4 := grown_trans g34 (G1 w4); have hH4 := hH3.keep k4; clear c0 c1 c2 c3 c4 d5 fr2 x0 x1 x2 x3 x4 x5 x6; have bh4 := bh3.keep k4 (by simp); obtain ⟨d0, d1, d2, d3, d4⟩ := bh4.cell5; obtain ⟨x0, x1, x2, x3, x4, x5, x6⟩ := (bG3.keep k4 (by simp)).cell7; have t3 : True := trivial)
    | (go_at_call 29; have _t := t3; clear t3; refine (hQ _ _ _ hH4).mono ?_; rintro e w5 ⟨rfl, g45⟩; clear d0 d1 d2 d3 d4 x0 x1 x2 x3 x4 x5 x6; have k5 := grown_trans g45 (G1 w5); have P5 := (N1 w4).keep k5 (by simp); have g37 := grown_trans k4 k5; obtain ⟨x0, x1, x2, x3, x4, x5, x6⟩ := P5.cell7; have bp7 := bp3.keep g37 (by simp); have bh7 := bh3.keep g37 (by simp); have c5 := bp7.cell5.2.2.2.2; have d5 := bh7.cell5.2.2.2.2; have t6 : True := trivial)
    | (go_at_call 17; have _t := t6; clear t6; refine (left_any w1.heap.size a n cap D Dh _ (hh3.keep g37) (hR3.keep g37) hn).mono ?_; rintro e w8 ⟨rfl, g78⟩))
  go_ret
  exact ⟨rfl, (Below.refl _ _).grown (grown_trans g03 (grown_trans g37 g78)) (Nat.le_refl _) (fun k hk => by cases hk)⟩
end Go.Proofs.Ytkjcpoapkkaagaa
