import Derived.Test.YtmcadmndmafogaaPJo8
import Derived.Test.YtmcadmndmafogaaPSam
namespace Go.Proofs.Ytmcadmndmafogaa
open Go.RowKit
set_option maxRecDepth 100000
set_option linter.unusedVariables false
set_option linter.unusedSimpArgs false

set_option maxHeartbeats 4000000 in
theorem sameJoined_any (ap nx : Int) (op : Bool) (a b : Option Addr) (n m cap cap' : Nat) (D : List Nat) (w : World) (ha : Rd w a n cap D) (hb : Rd w b m cap' D) :
    Calls Try.prog 25 #[jnV ap nx op a n cap, jnV ap nx op b m cap'] w fun e w' => e = .returned (.bool true) ∧ w.grownBy w' none := by
  unfold jnV
  have b0 := BxJ.new w ap nx op a n cap
  have g0 := World.grownBy_alloc w (.cells #[.int .i64 ap, .int .i64 nx, .bool op, .slice a n cap] 44) none
  generalize hw0 : w.alloc (.cells #[.int .i64 ap, .int .i64 nx, .bool op, .slice a n cap] 44) = w0 at b0 g0
  have hz0 : w0.heap.size = w.heap.size + 1 := by rw [← hw0]; simp
  have b1 := BxJ.new w0 ap nx op b m cap'
  have g1 := World.grownBy_alloc w0 (.cells #[.int .i64 ap, .int .i64 nx, .bool op, .slice b m cap'] 44) none
  generalize hw1 : w0.alloc (.cells #[.int .i64 ap, .int .i64 nx, .bool op, .slice b m cap'] 44) = w1 at b1 g1
  rw [hz0] at b1
  obtain ⟨c0, c1, c2, c3⟩ := (b0.keep g1 (by simp)).cell
  obtain ⟨d0, d1, d2, d3⟩ := b1.cell
  have ha1 := ha.keep (grown_trans g0 g1)
  have hb1 := hb.keep (grown_trans g0 g1)
  clear b0 b1
  go_enter Try.func25, Try.ntmps25
  go_wp2_with (go_at_call 14; refine (sameBytes_any _ _ _ _ _ _ D w1 ha1 hb1).mono ?_; rintro e w2 ⟨rfl, hw⟩; have hw := hw.symm; subst hw)
  go_ret
  exact ⟨rfl, grown_trans g0 g1⟩
set_option maxHeartbeats 2000000 in
theorem begin_any (z : Int) (w : World) : Calls Try.prog 26 #[.int .i64 z] w fun e w' => (if 0 ≤ z ∧ z ≤ 2046 then e = .returned (.tuple #[jnV z (-1) false none 0 0, .int .i64 0]) else e = .returned (.tuple #[jnV 0 0 false none 0 0, .int .i64 2])) ∧ w.grownBy w' none := by
  have i4 := Try.info_jn
  have hs := fun wz => someones_any z wz
  by_cases h : 0 ≤ z ∧ z ≤ 2046
  · rw [decide_eq_true h] at hs
    have b0 := BxJ.new w z (-1) false none 0 0
    go_enter Try.func26, Try.ntmps26
    go_wp2_with (go_at_call 34; refine (hs _).mono ?_; rintro e wx ⟨rfl, hw⟩; have hw := hw.symm; subst hw)
    refine bodyPost_ret (results_cell1t rfl _ _ _ ⟨w.heap.size, 0, none⟩ _ (.int .i64 0) rfl (BxS.load b0 Try.underlying44 i4) rfl) rfl ?_
    exact ⟨rfl, World.grownBy_alloc _ _ _⟩
  · rw [decide_eq_false h] at hs
    have b0 := BxJ.new w 0 0 false none 0 0
    go_enter Try.func26, Try.ntmps26
    go_wp2_with (go_at_call 34; refine (hs _).mono ?_; rintro e wx ⟨rfl, hw⟩; have hw := hw.symm; subst hw)
    refine bodyPost_ret (results_cell1t rfl _ _ _ ⟨w.heap.size, 0, none⟩ _ (.int .i64 2) rfl (BxS.load b0 Try.underlying44 i4) rfl) rfl ?_
    exact ⟨rfl, World.grownBy_alloc _ _ _⟩
end Go.Proofs.Ytmcadmndmafogaa
