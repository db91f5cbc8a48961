import Derived.Test.YtkjcpoapkkaagaaKDe3
import Derived.Test.YtkjcpoapkkaagaaKOp
namespace Go.Proofs.Ytkjcpoapkkaagaa
open Go.RowKit
set_option maxRecDepth 100000
set_option linter.unusedVariables false
set_option linter.unusedSimpArgs false

theorem sp_ne {w : World} {lo g : Nat} {a : Option Addr} {n cap : Nat} {L : List Nat} (h : Ans w lo a n cap L) (hg : g < lo) : some g ≠ (Value.slice a n cap).ownBlock := by
  intro e
  have := h.new g e.symm
  omega
theorem sp_ne2 {w : World} {lo g : Nat} {a : Option Addr} {n cap : Nat} {L : List Nat} (h : Ans w lo a n cap L) (hg : w.heap.size ≤ g) : some g ≠ (Value.slice a n cap).ownBlock := by
  rcases h.cases with ⟨rfl, _, _⟩ | ⟨x, rfl, _, hx⟩
  · simp [Value.ownBlock]
  · simp only [Value.ownBlock, ne_eq, Option.some.injEq]; omega
theorem hdist {w : World} {lo h b off : Nat} {a : Option Addr} {n cap m c : Nat} {L : List Nat} (hA : Ans w lo a n cap L) (hlo : h < lo) (e : a = some ⟨b, off, none⟩) : some b ≠ (Value.slice (some ⟨h, 0, none⟩) m c).ownBlock := by
  rcases hA.cases with ⟨rfl, _, _⟩ | ⟨x, rfl, hx, _⟩
  · cases e
  · cases e
    simp only [Value.ownBlock, ne_eq, Option.some.injEq]; omega
theorem deD_le (B : List Nat) : (deD B).length ≤ 1024 := by
  unfold deD
  split
  · next h =>
    have hs : deS B = true := by
      unfold deE at h
      by_cases e : deS B = true
      · exact e
      · rw [if_neg e] at h; cases h
    have h2 : 8 ≤ B.length ∧ B.length ≤ 1024 ∧ toN B = B.length := of_decide_eq_true hs
    rw [List.length_take, List.length_drop]; omega
  · simp
set_option maxHeartbeats 4000000 in
theorem sameOrder_any (cr : Int) (bp co : Bool) (sq : Int) (a b : Option Addr) (n m cap cap' : Nat) (D : List Nat) (w : World) (ha : Rd w a n cap D) (hb : Rd w b m cap' D) :
    Calls Try.prog 20 #[.agg (orA cr bp co sq a n cap), .agg (orA cr bp co sq b m cap')] w fun e w' => e = .returned (.bool true) ∧ w.grownBy w' none := by
  unfold orA
  have b0 := BxS.new w 24 #[.int .i64 cr, .bool bp, .bool co, .int .i64 sq, .slice a n cap]
  have g0 := World.grownBy_alloc w (.cells #[.int .i64 cr, .bool bp, .bool co, .int .i64 sq, .slice a n cap] 24) none
  generalize hw0 : w.alloc (.cells #[.int .i64 cr, .bool bp, .bool co, .int .i64 sq, .slice a n cap] 24) = w0 at b0 g0
  have hz0 : w0.heap.size = w.heap.size + 1 := by rw [← hw0]; simp
  have b1 := BxS.new w0 24 #[.int .i64 cr, .bool bp, .bool co, .int .i64 sq, .slice b m cap']
  have g1 := World.grownBy_alloc w0 (.cells #[.int .i64 cr, .bool bp, .bool co, .int .i64 sq, .slice b m cap'] 24) none
  generalize hw1 : w0.alloc (.cells #[.int .i64 cr, .bool bp, .bool co, .int .i64 sq, .slice b m cap'] 24) = w1 at b1 g1
  rw [hz0] at b1
  obtain ⟨c0, c1, c2, c3, c4⟩ := (b0.keep g1 (by simp)).cell5
  obtain ⟨d0, d1, d2, d3, d4⟩ := b1.cell5
  have ha1 := ha.keep (grown_trans g0 g1)
  have hb1 := hb.keep (grown_trans g0 g1)
  clear b0 b1
  go_enter Try.func20, Try.ntmps20
  go_wp2_with (go_at_call 51; refine (sameBytes_any _ _ _ _ _ _ D w1 ha1 hb1).mono ?_; rintro e w2 ⟨rfl, hw⟩; have hw := hw.symm; subst hw)
  go_ret
  exact ⟨rfl, grown_trans g0 g1⟩
set_option maxHeartbeats 8000000 in
theorem kdec_walk (a : Option Addr) (n cap : Nat) (B : List Nat) (w : World) (hR : Rd w a n cap B) (hn : n ≤ 140737488351232) :
    Calls Try.prog 4 #[.slice a n cap] w fun e w' => e = .returned (.bool true) ∧ Below w.heap.size w w' := by
  have t1 : True := trivial
  have hL := deD_le B
  have hP := fun wz hz => rdec_any a n cap B wz hz
  have hQ := fun (az : Option Addr) (cz : Nat) wz hz => kdec_any az n cz B wz hz
  unfold deA at hP hQ
  generalize (if deE B = 0 then ((nmN B % 1024 : Nat) : Int) else 0) = cr at hP hQ
  generalize (decide (deE B = 0) && bpB B) = bp at hP hQ
  generalize (decide (deE B = 0) && coB B) = co at hP hQ
  generalize (if deE B = 0 then ((nth B 4 : Nat) : Int) else 0) = sq at hP hQ
  have hS := fun (az bz : Option Addr) (nz mz cz dz : Nat) wz ha hb => sameOrder_any cr bp co sq az bz nz mz cz dz (deD B) wz ha hb
  generalize deE B = ce at hP hQ
  generalize deD B = D at hP hQ hS hL
  unfold orA at hP hQ hS
  go_enter Try.func4, Try.ntmps4
  go_wp2_with (first
    | (go_at_call 13; have _t := t1; clear t1; refine (roomy_any a n cap B w hR hn).mono ?_; rintro e w1 ⟨rfl, ⟨Dh, hh1⟩, g1⟩; have hR1 := hR.keep g1; have t2 : True := trivial)
    | (go_at_call 18; have _t := t2; clear t2; refine (hP w1 hR1).mono ?_; rintro e w2 ⟨aw, nw, cw, rfl, hA2, g2⟩; have p2 := BxS.new w2 24 #[.int .i64 cr, .bool bp, .bool co, .int .i64 sq, .slice aw nw cw]; have gA2 := World.grownBy_alloc w2 (.cells #[.int .i64 cr, .bool bp, .bool co, .int .i64 sq, .slice aw nw cw] 24) none; generalize hw2 : w2.alloc (.cells #[.int .i64 cr, .bool bp, .bool co, .int .i64 sq, .slice aw nw cw] 24) = v2 at p2 gA2; have h12 := grown_trans g2 gA2; have hH2 := (hh1.keep h12).rd hR.byte hR.len hn; have t3 : True := trivial)
    | (go_at_call 19; have _t := t3; clear t3; refine (hQ _ _ v2 hH2).mono ?_; rintro e w3 ⟨aa, na, ca, rfl, hA3, g3⟩; have p3 := BxS.new w3 24 #[.int .i64 cr, .bool bp, .bool co, .int .i64 sq, .slice aa na ca]; have gA3 := World.grownBy_alloc w3 (.cells #[.int .i64 cr, .bool bp, .bool co, .int .i64 sq, .slice aa na ca] 24) none; generalize hw3 : w3.alloc (.cells #[.int .i64 cr, .bool bp, .bool co, .int .i64 sq, .slice aa na ca] 24) = v3 at p3 gA3; have h23 := grown_trans g3 gA3; have hH3 := hH2.keep h23; have t4 : True := trivial)
    | (go_at_call 19; have _t := t4; clear t4; refine (hQ _ _ v3 hH3).mono ?_; rintro e w4 ⟨ab, nb, cb, rfl, hA4, g4⟩; have p4 := BxS.new w4 24 #[.int .i64 cr, .bool bp, .bool co, .int .i64 sq, .slice ab nb cb]; have gA4 := World.grownBy_alloc w4 (.cells #[.int .i64 cr, .bool bp, .bool co, .int .i64 sq, .slice ab nb cb] 24) none; generalize hw4 : w4.alloc (.cells #[.int .i64 cr, .bool bp, .bool co, .int .i64 sq, .slice ab nb cb] 24) = v4 at p4 gA4; have h34 := grown_trans g4 gA4; have q2 := p2.keep (grown_trans h23 h34) (by simp); have q3 := p3.keep h34 (by simp); obtain ⟨x0, x1, x2, x3, x4⟩ := q2.cell5; obtain ⟨y0, y1, y2, y3, y4⟩ := q3.cell5; obtain ⟨z0, z1, z2, z3, z4⟩ := p4.cell5; have e1 := (hA2.keep (grown_trans gA2 (grown_trans h23 h34))).rd; have e2 := (hA3.keep (grown_trans gA3 h34)).rd; have e3 := (hA4.keep gA4).rd; have t5 : True := trivial)
    | (go_at_call 20; have _t := t5; clear t5; refine (hS _ _ _ _ _ _ v4 e2 e1).mono ?_; rintro e w5 ⟨rfl, g5⟩; clear x0 x1 x2 x3 x4 y0 y1 y2 y3 y4 z0 z1 z2 z3 z4; have r2 := q2.keep g5 (by simp); have r4 := p4.keep g5 (by simp); obtain ⟨x0, x1, x2, x3, x4⟩ := r2.cell5; obtain ⟨z0, z1, z2, z3, z4⟩ := r4.cell5; have t6 : True := trivial)
    | (go_at_call 20; have _t := t6; clear t6; refine (hS _ _ _ _ _ _ w5 (e3.keep g5) (e1.keep g5)).mono ?_; rintro e w6 ⟨rfl, g6⟩; clear x0 x1 x2 x3 x4 z0 z1 z2 z3 z4; have g46 := grown_trans g5 g6; have g26 := grown_trans h23 (grown_trans h34 g46); have g16 := grown_trans h12 g26; have t7 : True := trivial)
    | (go_at_call 17; have _t := t7; clear t7; refine (left_any w.heap.size a n cap B Dh w6 (hh1.keep g16) (hR1.keep g16) hn).mono ?_; rintro e w7 ⟨rfl, g7⟩; have g47 := grown_trans g46 g7; have y5 := (q3.keep g47 (by simp)).cell5.2.2.2.2; have hA7 := hA3.keep (grown_trans gA3 (grown_trans h34 g47)); have t8 : True := trivial)
    | (go_at_call 21; have _t := t8; clear t8; refine (spoil_any hA7 (by have := hA3.len; omega)).mono ?_; rintro e w8 ⟨rfl, g8⟩; clear y5; have g17 := grown_trans g16 g7; have hne8 : some w.heap.size ≠ (Value.slice aa na ca).ownBlock := sp_ne hA3 (Nat.lt_of_lt_of_le hh1.blk.lt h12.size); have hh8 := (hh1.keep g17).grown g8 hne8; have hAh := hh8.ans hR.byte hR.len hn (Nat.le_refl _); have hlo1 : w.heap.size < w1.heap.size := hh1.blk.lt; have hlo3 : w.heap.size < v3.heap.size := (Nat.lt_of_lt_of_le hlo1 (Nat.le_trans h12.size h23.size)); have n2 : some w2.heap.size ≠ (Value.slice (some ⟨w.heap.size, 0, none⟩) n (n + 5)).ownBlock := (by have := g2.size; simp [Value.ownBlock]; omega); have n4 : some w4.heap.size ≠ (Value.slice (some ⟨w.heap.size, 0, none⟩) n (n + 5)).ownBlock := (by have := g4.size; simp [Value.ownBlock]; omega); have t9 : True := trivial)
    | (go_at_call 21; have _t := t9; clear t9; refine (spoil_any hAh (by omega)).mono ?_; rintro e w9 ⟨rfl, g9⟩; have q2' := ((q2.keep g47 (by simp)).keep g8 (sp_ne hA3 p2.lt)).keep g9 n2; have q4' := ((p4.keep g47 (by simp)).keep g8 (sp_ne2 hA3 (Nat.le_trans gA3.size g4.size))).keep g9 n4; obtain ⟨x0, x1, x2, x3, x4⟩ := q2'.cell5; obtain ⟨z0, z1, z2, z3, z4⟩ := q4'.cell5; have f1 := ((e1.keep g47).grown g8 (hA3.earlier hA2 gA2.size)).grown g9 (fun b off e => hdist hA2 hlo1 e); have f3 := ((e3.keep g47).grown g8 (hA3.later hA4 gA3.size)).grown g9 (fun b off e => hdist hA4 hlo3 e); have t10 : True := trivial)
    | (go_at_call 20; have _t := t10; clear t10; refine (hS _ _ _ _ _ _ w9 f3 f1).mono ?_; rintro e w10 ⟨rfl, g10⟩))
  go_ret
  have G := grown_trans g1 g17
  have G8 := grown_far G g8 (hA3.far _ (Nat.le_trans (Nat.le_of_lt hlo1) h12.size))
  have G9 := grown_far G8 g9 (fun g e => by have e2 : w.heap.size = g := Option.some.inj e; omega)
  exact ⟨rfl, (Below.refl _ _).grown (grown_trans G9 g10) (Nat.le_refl _) (fun k hk => by cases hk)⟩
end Go.Proofs.Ytkjcpoapkkaagaa
