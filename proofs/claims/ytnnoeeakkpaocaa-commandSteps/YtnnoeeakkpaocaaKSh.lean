import Derived.Test.YtnnoeeakkpaocaaKHm1
namespace Go.Proofs.Ytnnoeeakkpaocaa
open Go.RowKit
set_option maxRecDepth 100000
set_option linter.unusedVariables false
set_option linter.unusedSimpArgs false

set_option maxHeartbeats 16000000 in
theorem sameHand_any (cr nx ah ti pa tr li si pu hl : Int) (sa sa' qa qa' : Option Addr) (sn sc sc' qn qc qc' : Nat) (F F' H H' : Nat → Rw) (w : World) (hS : RdR w sa sn sc F) (hS' : RdR w sa' sn sc' F') (hQ : RdR w qa qn qc H) (hQ' : RdR w qa' qn qc' H') (eS : ∀ i, i < sn → (F i).D = (F' i).D) (eQ : ∀ i, i < qn → (H i).D = (H' i).D) :
    Calls Try.prog 32 #[.agg (hnA cr nx ah (.slice sa sn sc) (.slice qa qn qc) ti pa tr li si pu hl), .agg (hnA cr nx ah (.slice sa' sn sc') (.slice qa' qn qc') ti pa tr li si pu hl)] w fun e w' => e = .returned (.bool true) ∧ w.grownBy w' none := by
  unfold hnA
  have b0 := BxS.new w 50 #[.int .i64 cr, .int .i64 nx, .int .i64 ah, .slice sa sn sc, .slice qa qn qc, .int .i64 ti, .int .i64 pa, .int .i64 tr, .int .i64 li, .int .i64 si, .int .i64 pu, .int .i64 hl]
  have g0 := World.grownBy_alloc w (.cells #[.int .i64 cr, .int .i64 nx, .int .i64 ah, .slice sa sn sc, .slice qa qn qc, .int .i64 ti, .int .i64 pa, .int .i64 tr, .int .i64 li, .int .i64 si, .int .i64 pu, .int .i64 hl] 50) none
  generalize hw0 : w.alloc (.cells #[.int .i64 cr, .int .i64 nx, .int .i64 ah, .slice sa sn sc, .slice qa qn qc, .int .i64 ti, .int .i64 pa, .int .i64 tr, .int .i64 li, .int .i64 si, .int .i64 pu, .int .i64 hl] 50) = w0 at b0 g0
  have hz0 : w0.heap.size = w.heap.size + 1 := by rw [← hw0]; simp
  have b1 := BxS.new w0 50 #[.int .i64 cr, .int .i64 nx, .int .i64 ah, .slice sa' sn sc', .slice qa' qn qc', .int .i64 ti, .int .i64 pa, .int .i64 tr, .int .i64 li, .int .i64 si, .int .i64 pu, .int .i64 hl]
  have g1 := World.grownBy_alloc w0 (.cells #[.int .i64 cr, .int .i64 nx, .int .i64 ah, .slice sa' sn sc', .slice qa' qn qc', .int .i64 ti, .int .i64 pa, .int .i64 tr, .int .i64 li, .int .i64 si, .int .i64 pu, .int .i64 hl] 50) none
  generalize hw1 : w0.alloc (.cells #[.int .i64 cr, .int .i64 nx, .int .i64 ah, .slice sa' sn sc', .slice qa' qn qc', .int .i64 ti, .int .i64 pa, .int .i64 tr, .int .i64 li, .int .i64 si, .int .i64 pu, .int .i64 hl] 50) = w1 at b1 g1
  rw [hz0] at b1
  have b01 := b0.keep g1 (by simp)
  have G1 := grown_trans g0 g1
  obtain ⟨c0, c1, c2, c3, c4, c5, c6, c7, c8, c9, c10, c11⟩ := b01.cell12
  obtain ⟨d0, d1, d2, d3, d4, d5, d6, d7, d8, d9, d10, d11⟩ := b1.cell12
  have h1 := sameRows_any sa sa' sn sc sc' F F' w1 (hS.keep G1) (hS'.keep G1) eS
  have h2 := fun wz (hz : w1.grownBy wz none) => sameRows_any qa qa' qn qc qc' H H' wz ((hQ.keep G1).keep hz) ((hQ'.keep G1).keep hz) eQ
  clear b0 hS hS' hQ hQ' eS eQ
  have t1 : True := trivial
  go_enter Try.func32, Try.ntmps32
  go_wp2_with (first
    | (go_at_call 65; have _t := t1; clear t1; refine h1.mono ?_; rintro e w2 ⟨rfl, g2⟩; clear c0 c1 c2 c3 c4 c5 c6 c7 c8 c9 c10 c11 d0 d1 d2 d3 d4 d5 d6 d7 d8 d9 d10 d11; obtain ⟨c0, c1, c2, c3, c4, c5, c6, c7, c8, c9, c10, c11⟩ := (b01.keep g2 (by simp)).cell12; obtain ⟨d0, d1, d2, d3, d4, d5, d6, d7, d8, d9, d10, d11⟩ := (b1.keep g2 (by simp)).cell12; have t2 : True := trivial)
    | (go_at_call 65; have _t := t2; clear t2; refine (h2 w2 g2).mono ?_; rintro e w3 ⟨rfl, g3⟩; clear c0 c1 c2 c3 c4 c5 c6 c7 c8 c9 c10 c11 d0 d1 d2 d3 d4 d5 d6 d7 d8 d9 d10 d11; obtain ⟨c0, c1, c2, c3, c4, c5, c6, c7, c8, c9, c10, c11⟩ := (b01.keep (grown_trans g2 g3) (by simp)).cell12; obtain ⟨d0, d1, d2, d3, d4, d5, d6, d7, d8, d9, d10, d11⟩ := (b1.keep (grown_trans g2 g3) (by simp)).cell12))
  go_ret
  exact ⟨rfl, grown_trans G1 (grown_trans g2 g3)⟩
end Go.Proofs.Ytnnoeeakkpaocaa
