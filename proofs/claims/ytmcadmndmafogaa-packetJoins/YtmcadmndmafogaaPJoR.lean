import Derived.Test.YtmcadmndmafogaaPJrA
import Derived.Test.YtmcadmndmafogaaPJrB
import Derived.Test.YtmcadmndmafogaaPJrC
namespace Go.Proofs.Ytmcadmndmafogaa
open Go.RowKit
set_option maxRecDepth 100000
set_option linter.unusedVariables false
set_option linter.unusedSimpArgs false

set_option maxHeartbeats 2000000 in
theorem jno1 (aj nx : Int) (op : Bool) (a : Option Addr) (n c : Nat) (up se : Bool) (ap pt ct : Int) (b : Option Addr) (m d : Nat) (w : World) (h : aj < 0) :
    Calls Try.prog 23 #[.agg #[.int .i64 aj, .int .i64 nx, .bool op, .slice a n c], .agg #[.bool up, .bool se, .int .i64 ap, .int .i64 pt, .int .i64 ct, .slice b m d]] w fun e w' => e = .returned (.tuple #[jnV 0 0 false none 0 0, .slice none 0 0, .bool false, .int .i64 11]) ∧ w.grownBy w' none := by
  have d_5432 : decide (aj < 0) = true := decide_eq_true (by omega)
  have i4 := Try.info_jn
  have r2 : BxS (((w.alloc (.cells #[.int .i64 aj, .int .i64 nx, .bool op, .slice a n c] 44)).alloc (.cells #[.bool up, .bool se, .int .i64 ap, .int .i64 pt, .int .i64 ct, .slice b m d] 25)).alloc (.cells #[.int .i64 0, .int .i64 0, .bool false, .slice none 0 0] 44)) (w.heap.size + 2) 44 #[.int .i64 0, .int .i64 0, .bool false, .slice none 0 0] := by
    have := BxJ.new ((w.alloc (.cells #[.int .i64 aj, .int .i64 nx, .bool op, .slice a n c] 44)).alloc (.cells #[.bool up, .bool se, .int .i64 ap, .int .i64 pt, .int .i64 ct, .slice b m d] 25)) 0 0 false none 0 0
    have e : ((w.alloc (.cells #[.int .i64 aj, .int .i64 nx, .bool op, .slice a n c] 44)).alloc (.cells #[.bool up, .bool se, .int .i64 ap, .int .i64 pt, .int .i64 ct, .slice b m d] 25)).heap.size = w.heap.size + 2 := by simp
    rw [e] at this
    exact this
  have g2 : w.grownBy (((w.alloc (.cells #[.int .i64 aj, .int .i64 nx, .bool op, .slice a n c] 44)).alloc (.cells #[.bool up, .bool se, .int .i64 ap, .int .i64 pt, .int .i64 ct, .slice b m d] 25)).alloc (.cells #[.int .i64 0, .int .i64 0, .bool false, .slice none 0 0] 44)) none := grown_trans (World.grownBy_alloc _ _ _) (grown_trans (World.grownBy_alloc _ _ _) (World.grownBy_alloc _ _ _))
  go_enter Try.func23, Try.ntmps23
  go_wp2
  refine bodyPost_ret (results_cell4 rfl _ _ _ ⟨w.heap.size + 2, 0, none⟩ _ (.slice none 0 0) (.bool false) (.int .i64 11) rfl (BxS.load r2 Try.underlying44 i4) rfl rfl rfl) rfl ?_
  exact ⟨rfl, g2⟩
set_option maxHeartbeats 2000000 in
theorem jno2 (aj nx : Int) (op : Bool) (a : Option Addr) (n c : Nat) (up se : Bool) (ap pt ct : Int) (b : Option Addr) (m d : Nat) (w : World) (h0 : 0 ≤ aj) (h : 2047 ≤ aj) :
    Calls Try.prog 23 #[.agg #[.int .i64 aj, .int .i64 nx, .bool op, .slice a n c], .agg #[.bool up, .bool se, .int .i64 ap, .int .i64 pt, .int .i64 ct, .slice b m d]] w fun e w' => e = .returned (.tuple #[jnV 0 0 false none 0 0, .slice none 0 0, .bool false, .int .i64 11]) ∧ w.grownBy w' none := by
  have d_5432 : decide (aj < 0) = false := decide_eq_false (by omega)
  have d_7899 : decide (2047 ≤ aj) = true := decide_eq_true (by omega)
  have i4 := Try.info_jn
  have r2 : BxS (((w.alloc (.cells #[.int .i64 aj, .int .i64 nx, .bool op, .slice a n c] 44)).alloc (.cells #[.bool up, .bool se, .int .i64 ap, .int .i64 pt, .int .i64 ct, .slice b m d] 25)).alloc (.cells #[.int .i64 0, .int .i64 0, .bool false, .slice none 0 0] 44)) (w.heap.size + 2) 44 #[.int .i64 0, .int .i64 0, .bool false, .slice none 0 0] := by
    have := BxJ.new ((w.alloc (.cells #[.int .i64 aj, .int .i64 nx, .bool op, .slice a n c] 44)).alloc (.cells #[.bool up, .bool se, .int .i64 ap, .int .i64 pt, .int .i64 ct, .slice b m d] 25)) 0 0 false none 0 0
    have e : ((w.alloc (.cells #[.int .i64 aj, .int .i64 nx, .bool op, .slice a n c] 44)).alloc (.cells #[.bool up, .bool se, .int .i64 ap, .int .i64 pt, .int .i64 ct, .slice b m d] 25)).heap.size = w.heap.size + 2 := by simp
    rw [e] at this
    exact this
  have g2 : w.grownBy (((w.alloc (.cells #[.int .i64 aj, .int .i64 nx, .bool op, .slice a n c] 44)).alloc (.cells #[.bool up, .bool se, .int .i64 ap, .int .i64 pt, .int .i64 ct, .slice b m d] 25)).alloc (.cells #[.int .i64 0, .int .i64 0, .bool false, .slice none 0 0] 44)) none := grown_trans (World.grownBy_alloc _ _ _) (grown_trans (World.grownBy_alloc _ _ _) (World.grownBy_alloc _ _ _))
  go_enter Try.func23, Try.ntmps23
  go_wp2
  refine bodyPost_ret (results_cell4 rfl _ _ _ ⟨w.heap.size + 2, 0, none⟩ _ (.slice none 0 0) (.bool false) (.int .i64 11) rfl (BxS.load r2 Try.underlying44 i4) rfl rfl rfl) rfl ?_
  exact ⟨rfl, g2⟩
set_option maxHeartbeats 2000000 in
theorem jno3 (aj nx : Int) (op : Bool) (a : Option Addr) (n c : Nat) (up se : Bool) (ap pt ct : Int) (b : Option Addr) (m d : Nat) (w : World) (h0 : 0 ≤ aj) (h1 : aj ≤ 2046) (h : nx < -1) :
    Calls Try.prog 23 #[.agg #[.int .i64 aj, .int .i64 nx, .bool op, .slice a n c], .agg #[.bool up, .bool se, .int .i64 ap, .int .i64 pt, .int .i64 ct, .slice b m d]] w fun e w' => e = .returned (.tuple #[jnV 0 0 false none 0 0, .slice none 0 0, .bool false, .int .i64 11]) ∧ w.grownBy w' none := by
  have d_5432 : decide (aj < 0) = false := decide_eq_false (by omega)
  have d_7899 : decide (2047 ≤ aj) = false := decide_eq_false (by omega)
  have d_8088 : decide (nx < -1) = true := decide_eq_true (by omega)
  have i4 := Try.info_jn
  have r2 : BxS (((w.alloc (.cells #[.int .i64 aj, .int .i64 nx, .bool op, .slice a n c] 44)).alloc (.cells #[.bool up, .bool se, .int .i64 ap, .int .i64 pt, .int .i64 ct, .slice b m d] 25)).alloc (.cells #[.int .i64 0, .int .i64 0, .bool false, .slice none 0 0] 44)) (w.heap.size + 2) 44 #[.int .i64 0, .int .i64 0, .bool false, .slice none 0 0] := by
    have := BxJ.new ((w.alloc (.cells #[.int .i64 aj, .int .i64 nx, .bool op, .slice a n c] 44)).alloc (.cells #[.bool up, .bool se, .int .i64 ap, .int .i64 pt, .int .i64 ct, .slice b m d] 25)) 0 0 false none 0 0
    have e : ((w.alloc (.cells #[.int .i64 aj, .int .i64 nx, .bool op, .slice a n c] 44)).alloc (.cells #[.bool up, .bool se, .int .i64 ap, .int .i64 pt, .int .i64 ct, .slice b m d] 25)).heap.size = w.heap.size + 2 := by simp
    rw [e] at this
    exact this
  have g2 : w.grownBy (((w.alloc (.cells #[.int .i64 aj, .int .i64 nx, .bool op, .slice a n c] 44)).alloc (.cells #[.bool up, .bool se, .int .i64 ap, .int .i64 pt, .int .i64 ct, .slice b m d] 25)).alloc (.cells #[.int .i64 0, .int .i64 0, .bool false, .slice none 0 0] 44)) none := grown_trans (World.grownBy_alloc _ _ _) (grown_trans (World.grownBy_alloc _ _ _) (World.grownBy_alloc _ _ _))
  go_enter Try.func23, Try.ntmps23
  go_wp2
  refine bodyPost_ret (results_cell4 rfl _ _ _ ⟨w.heap.size + 2, 0, none⟩ _ (.slice none 0 0) (.bool false) (.int .i64 11) rfl (BxS.load r2 Try.underlying44 i4) rfl rfl rfl) rfl ?_
  exact ⟨rfl, g2⟩
set_option maxHeartbeats 2000000 in
theorem jno4 (aj nx : Int) (op : Bool) (a : Option Addr) (n c : Nat) (up se : Bool) (ap pt ct : Int) (b : Option Addr) (m d : Nat) (w : World) (h0 : 0 ≤ aj) (h1 : aj ≤ 2046) (h2 : -1 ≤ nx) (h : 16383 < nx) :
    Calls Try.prog 23 #[.agg #[.int .i64 aj, .int .i64 nx, .bool op, .slice a n c], .agg #[.bool up, .bool se, .int .i64 ap, .int .i64 pt, .int .i64 ct, .slice b m d]] w fun e w' => e = .returned (.tuple #[jnV 0 0 false none 0 0, .slice none 0 0, .bool false, .int .i64 11]) ∧ w.grownBy w' none := by
  have d_5432 : decide (aj < 0) = false := decide_eq_false (by omega)
  have d_7899 : decide (2047 ≤ aj) = false := decide_eq_false (by omega)
  have d_8088 : decide (nx < -1) = false := decide_eq_false (by omega)
  have d_7665 : decide (16383 < nx) = true := decide_eq_true (by omega)
  have i4 := Try.info_jn
  have r2 : BxS (((w.alloc (.cells #[.int .i64 aj, .int .i64 nx, .bool op, .slice a n c] 44)).alloc (.cells #[.bool up, .bool se, .int .i64 ap, .int .i64 pt, .int .i64 ct, .slice b m d] 25)).alloc (.cells #[.int .i64 0, .int .i64 0, .bool false, .slice none 0 0] 44)) (w.heap.size + 2) 44 #[.int .i64 0, .int .i64 0, .bool false, .slice none 0 0] := by
    have := BxJ.new ((w.alloc (.cells #[.int .i64 aj, .int .i64 nx, .bool op, .slice a n c] 44)).alloc (.cells #[.bool up, .bool se, .int .i64 ap, .int .i64 pt, .int .i64 ct, .slice b m d] 25)) 0 0 false none 0 0
    have e : ((w.alloc (.cells #[.int .i64 aj, .int .i64 nx, .bool op, .slice a n c] 44)).alloc (.cells #[.bool up, .bool se, .int .i64 ap, .int .i64 pt, .int .i64 ct, .slice b m d] 25)).heap.size = w.heap.size + 2 := by simp
    rw [e] at this
    exact this
  have g2 : w.grownBy (((w.alloc (.cells #[.int .i64 aj, .int .i64 nx, .bool op, .slice a n c] 44)).alloc (.cells #[.bool up, .bool se, .int .i64 ap, .int .i64 pt, .int .i64 ct, .slice b m d] 25)).alloc (.cells #[.int .i64 0, .int .i64 0, .bool false, .slice none 0 0] 44)) none := grown_trans (World.grownBy_alloc _ _ _) (grown_trans (World.grownBy_alloc _ _ _) (World.grownBy_alloc _ _ _))
  go_enter Try.func23, Try.ntmps23
  go_wp2
  refine bodyPost_ret (results_cell4 rfl _ _ _ ⟨w.heap.size + 2, 0, none⟩ _ (.slice none 0 0) (.bool false) (.int .i64 11) rfl (BxS.load r2 Try.underlying44 i4) rfl rfl rfl) rfl ?_
  exact ⟨rfl, g2⟩
set_option maxHeartbeats 2000000 in
theorem jno5 (aj nx : Int) (op : Bool) (a : Option Addr) (n c : Nat) (up se : Bool) (ap pt ct : Int) (b : Option Addr) (m d : Nat) (w : World) (h0 : 0 ≤ aj) (h1 : aj ≤ 2046) (h2 : -1 ≤ nx) (h3 : nx ≤ 16383) (h : 1048576 < n) :
    Calls Try.prog 23 #[.agg #[.int .i64 aj, .int .i64 nx, .bool op, .slice a n c], .agg #[.bool up, .bool se, .int .i64 ap, .int .i64 pt, .int .i64 ct, .slice b m d]] w fun e w' => e = .returned (.tuple #[jnV 0 0 false none 0 0, .slice none 0 0, .bool false, .int .i64 11]) ∧ w.grownBy w' none := by
  have d_5432 : decide (aj < 0) = false := decide_eq_false (by omega)
  have d_7899 : decide (2047 ≤ aj) = false := decide_eq_false (by omega)
  have d_8088 : decide (nx < -1) = false := decide_eq_false (by omega)
  have d_7665 : decide (16383 < nx) = false := decide_eq_false (by omega)
  have d_2822 : decide ((1048576 : Int) < (n : Int)) = true := decide_eq_true (by omega)
  have i4 := Try.info_jn
  have r2 : BxS (((w.alloc (.cells #[.int .i64 aj, .int .i64 nx, .bool op, .slice a n c] 44)).alloc (.cells #[.bool up, .bool se, .int .i64 ap, .int .i64 pt, .int .i64 ct, .slice b m d] 25)).alloc (.cells #[.int .i64 0, .int .i64 0, .bool false, .slice none 0 0] 44)) (w.heap.size + 2) 44 #[.int .i64 0, .int .i64 0, .bool false, .slice none 0 0] := by
    have := BxJ.new ((w.alloc (.cells #[.int .i64 aj, .int .i64 nx, .bool op, .slice a n c] 44)).alloc (.cells #[.bool up, .bool se, .int .i64 ap, .int .i64 pt, .int .i64 ct, .slice b m d] 25)) 0 0 false none 0 0
    have e : ((w.alloc (.cells #[.int .i64 aj, .int .i64 nx, .bool op, .slice a n c] 44)).alloc (.cells #[.bool up, .bool se, .int .i64 ap, .int .i64 pt, .int .i64 ct, .slice b m d] 25)).heap.size = w.heap.size + 2 := by simp
    rw [e] at this
    exact this
  have g2 : w.grownBy (((w.alloc (.cells #[.int .i64 aj, .int .i64 nx, .bool op, .slice a n c] 44)).alloc (.cells #[.bool up, .bool se, .int .i64 ap, .int .i64 pt, .int .i64 ct, .slice b m d] 25)).alloc (.cells #[.int .i64 0, .int .i64 0, .bool false, .slice none 0 0] 44)) none := grown_trans (World.grownBy_alloc _ _ _) (grown_trans (World.grownBy_alloc _ _ _) (World.grownBy_alloc _ _ _))
  go_enter Try.func23, Try.ntmps23
  go_wp2
  refine bodyPost_ret (results_cell4 rfl _ _ _ ⟨w.heap.size + 2, 0, none⟩ _ (.slice none 0 0) (.bool false) (.int .i64 11) rfl (BxS.load r2 Try.underlying44 i4) rfl rfl rfl) rfl ?_
  exact ⟨rfl, g2⟩
set_option maxHeartbeats 2000000 in
theorem jno6 (aj nx : Int) (a : Option Addr) (c : Nat) (up se : Bool) (ap pt ct : Int) (b : Option Addr) (m d : Nat) (w : World) (h0 : 0 ≤ aj) (h1 : aj ≤ 2046) (h2 : -1 ≤ nx) (h3 : nx ≤ 16383) :
    Calls Try.prog 23 #[.agg #[.int .i64 aj, .int .i64 nx, .bool true, .slice a 0 c], .agg #[.bool up, .bool se, .int .i64 ap, .int .i64 pt, .int .i64 ct, .slice b m d]] w fun e w' => e = .returned (.tuple #[jnV 0 0 false none 0 0, .slice none 0 0, .bool false, .int .i64 11]) ∧ w.grownBy w' none := by
  have d_5432 : decide (aj < 0) = false := decide_eq_false (by omega)
  have d_7899 : decide (2047 ≤ aj) = false := decide_eq_false (by omega)
  have d_8088 : decide (nx < -1) = false := decide_eq_false (by omega)
  have d_7665 : decide (16383 < nx) = false := decide_eq_false (by omega)
  have i4 := Try.info_jn
  have r2 : BxS (((w.alloc (.cells #[.int .i64 aj, .int .i64 nx, .bool true, .slice a 0 c] 44)).alloc (.cells #[.bool up, .bool se, .int .i64 ap, .int .i64 pt, .int .i64 ct, .slice b m d] 25)).alloc (.cells #[.int .i64 0, .int .i64 0, .bool false, .slice none 0 0] 44)) (w.heap.size + 2) 44 #[.int .i64 0, .int .i64 0, .bool false, .slice none 0 0] := by
    have := BxJ.new ((w.alloc (.cells #[.int .i64 aj, .int .i64 nx, .bool true, .slice a 0 c] 44)).alloc (.cells #[.bool up, .bool se, .int .i64 ap, .int .i64 pt, .int .i64 ct, .slice b m d] 25)) 0 0 false none 0 0
    have e : ((w.alloc (.cells #[.int .i64 aj, .int .i64 nx, .bool true, .slice a 0 c] 44)).alloc (.cells #[.bool up, .bool se, .int .i64 ap, .int .i64 pt, .int .i64 ct, .slice b m d] 25)).heap.size = w.heap.size + 2 := by simp
    rw [e] at this
    exact this
  have g2 : w.grownBy (((w.alloc (.cells #[.int .i64 aj, .int .i64 nx, .bool true, .slice a 0 c] 44)).alloc (.cells #[.bool up, .bool se, .int .i64 ap, .int .i64 pt, .int .i64 ct, .slice b m d] 25)).alloc (.cells #[.int .i64 0, .int .i64 0, .bool false, .slice none 0 0] 44)) none := grown_trans (World.grownBy_alloc _ _ _) (grown_trans (World.grownBy_alloc _ _ _) (World.grownBy_alloc _ _ _))
  go_enter Try.func23, Try.ntmps23
  go_wp2
  refine bodyPost_ret (results_cell4 rfl _ _ _ ⟨w.heap.size + 2, 0, none⟩ _ (.slice none 0 0) (.bool false) (.int .i64 11) rfl (BxS.load r2 Try.underlying44 i4) rfl rfl rfl) rfl ?_
  exact ⟨rfl, g2⟩
set_option maxHeartbeats 2000000 in
theorem jno7 (aj nx : Int) (a : Option Addr) (n c : Nat) (up se : Bool) (ap pt ct : Int) (b : Option Addr) (m d : Nat) (w : World) (h0 : 0 ≤ aj) (h1 : aj ≤ 2046) (h2 : -1 ≤ nx) (h3 : nx ≤ 16383) (h4 : n ≤ 1048576) (h : 0 < n) :
    Calls Try.prog 23 #[.agg #[.int .i64 aj, .int .i64 nx, .bool false, .slice a n c], .agg #[.bool up, .bool se, .int .i64 ap, .int .i64 pt, .int .i64 ct, .slice b m d]] w fun e w' => e = .returned (.tuple #[jnV 0 0 false none 0 0, .slice none 0 0, .bool false, .int .i64 11]) ∧ w.grownBy w' none := by
  have d_5432 : decide (aj < 0) = false := decide_eq_false (by omega)
  have d_7899 : decide (2047 ≤ aj) = false := decide_eq_false (by omega)
  have d_8088 : decide (nx < -1) = false := decide_eq_false (by omega)
  have d_7665 : decide (16383 < nx) = false := decide_eq_false (by omega)
  have d_2822 : decide ((1048576 : Int) < (n : Int)) = false := decide_eq_false (by omega)
  have d_6488 : decide ((0 : Int) < (n : Int)) = true := decide_eq_true (by omega)
  have i4 := Try.info_jn
  have r2 : BxS (((w.alloc (.cells #[.int .i64 aj, .int .i64 nx, .bool false, .slice a n c] 44)).alloc (.cells #[.bool up, .bool se, .int .i64 ap, .int .i64 pt, .int .i64 ct, .slice b m d] 25)).alloc (.cells #[.int .i64 0, .int .i64 0, .bool false, .slice none 0 0] 44)) (w.heap.size + 2) 44 #[.int .i64 0, .int .i64 0, .bool false, .slice none 0 0] := by
    have := BxJ.new ((w.alloc (.cells #[.int .i64 aj, .int .i64 nx, .bool false, .slice a n c] 44)).alloc (.cells #[.bool up, .bool se, .int .i64 ap, .int .i64 pt, .int .i64 ct, .slice b m d] 25)) 0 0 false none 0 0
    have e : ((w.alloc (.cells #[.int .i64 aj, .int .i64 nx, .bool false, .slice a n c] 44)).alloc (.cells #[.bool up, .bool se, .int .i64 ap, .int .i64 pt, .int .i64 ct, .slice b m d] 25)).heap.size = w.heap.size + 2 := by simp
    rw [e] at this
    exact this
  have g2 : w.grownBy (((w.alloc (.cells #[.int .i64 aj, .int .i64 nx, .bool false, .slice a n c] 44)).alloc (.cells #[.bool up, .bool se, .int .i64 ap, .int .i64 pt, .int .i64 ct, .slice b m d] 25)).alloc (.cells #[.int .i64 0, .int .i64 0, .bool false, .slice none 0 0] 44)) none := grown_trans (World.grownBy_alloc _ _ _) (grown_trans (World.grownBy_alloc _ _ _) (World.grownBy_alloc _ _ _))
  go_enter Try.func23, Try.ntmps23
  go_wp2
  refine bodyPost_ret (results_cell4 rfl _ _ _ ⟨w.heap.size + 2, 0, none⟩ _ (.slice none 0 0) (.bool false) (.int .i64 11) rfl (BxS.load r2 Try.underlying44 i4) rfl rfl rfl) rfl ?_
  exact ⟨rfl, g2⟩
set_option maxHeartbeats 2000000 in
theorem jno8 (aj nx : Int) (a : Option Addr) (n c : Nat) (up se : Bool) (ap pt ct : Int) (b : Option Addr) (m d : Nat) (w : World) (h0 : 0 ≤ aj) (h1 : aj ≤ 2046) (h2 : -1 ≤ nx) (h3 : nx ≤ 16383) (h4 : n ≤ 1048576) (h5 : 0 < n) (h : nx = -1) :
    Calls Try.prog 23 #[.agg #[.int .i64 aj, .int .i64 nx, .bool true, .slice a n c], .agg #[.bool up, .bool se, .int .i64 ap, .int .i64 pt, .int .i64 ct, .slice b m d]] w fun e w' => e = .returned (.tuple #[jnV 0 0 false none 0 0, .slice none 0 0, .bool false, .int .i64 11]) ∧ w.grownBy w' none := by
  have d_5432 : decide (aj < 0) = false := decide_eq_false (by omega)
  have d_7899 : decide (2047 ≤ aj) = false := decide_eq_false (by omega)
  have d_8088 : decide (nx < -1) = false := decide_eq_false (by omega)
  have d_7665 : decide (16383 < nx) = false := decide_eq_false (by omega)
  have d_2822 : decide ((1048576 : Int) < (n : Int)) = false := decide_eq_false (by omega)
  have d_6488 : decide ((0 : Int) < (n : Int)) = true := decide_eq_true (by omega)
  have e9 : ((nx == -1) : Bool) = true := by simp [h]
  clear h
  have i4 := Try.info_jn
  have r2 : BxS (((w.alloc (.cells #[.int .i64 aj, .int .i64 nx, .bool true, .slice a n c] 44)).alloc (.cells #[.bool up, .bool se, .int .i64 ap, .int .i64 pt, .int .i64 ct, .slice b m d] 25)).alloc (.cells #[.int .i64 0, .int .i64 0, .bool false, .slice none 0 0] 44)) (w.heap.size + 2) 44 #[.int .i64 0, .int .i64 0, .bool false, .slice none 0 0] := by
    have := BxJ.new ((w.alloc (.cells #[.int .i64 aj, .int .i64 nx, .bool true, .slice a n c] 44)).alloc (.cells #[.bool up, .bool se, .int .i64 ap, .int .i64 pt, .int .i64 ct, .slice b m d] 25)) 0 0 false none 0 0
    have e : ((w.alloc (.cells #[.int .i64 aj, .int .i64 nx, .bool true, .slice a n c] 44)).alloc (.cells #[.bool up, .bool se, .int .i64 ap, .int .i64 pt, .int .i64 ct, .slice b m d] 25)).heap.size = w.heap.size + 2 := by simp
    rw [e] at this
    exact this
  have g2 : w.grownBy (((w.alloc (.cells #[.int .i64 aj, .int .i64 nx, .bool true, .slice a n c] 44)).alloc (.cells #[.bool up, .bool se, .int .i64 ap, .int .i64 pt, .int .i64 ct, .slice b m d] 25)).alloc (.cells #[.int .i64 0, .int .i64 0, .bool false, .slice none 0 0] 44)) none := grown_trans (World.grownBy_alloc _ _ _) (grown_trans (World.grownBy_alloc _ _ _) (World.grownBy_alloc _ _ _))
  go_enter Try.func23, Try.ntmps23
  go_wp2
  refine bodyPost_ret (results_cell4 rfl _ _ _ ⟨w.heap.size + 2, 0, none⟩ _ (.slice none 0 0) (.bool false) (.int .i64 11) rfl (BxS.load r2 Try.underlying44 i4) rfl rfl rfl) rfl ?_
  exact ⟨rfl, g2⟩
set_option maxHeartbeats 4000000 in
theorem jno9 (aj nx : Int) (op : Bool) (a : Option Addr) (n c : Nat) (up se : Bool) (ap pt ct : Int) (b : Option Addr) (m d : Nat) (w : World) (hc : couldJ aj nx op n = true) (E : Nat) (hE : mayE ap pt ct m = E) (hE0 : E ≠ 0) :
    Calls Try.prog 23 #[.agg #[.int .i64 aj, .int .i64 nx, .bool op, .slice a n c], .agg #[.bool up, .bool se, .int .i64 ap, .int .i64 pt, .int .i64 ct, .slice b m d]] w fun e w' => e = .returned (.tuple #[jnV 0 0 false none 0 0, .slice none 0 0, .bool false, .int .i64 ((E : Int))]) ∧ w.grownBy w' none := by
  have hcj := hc
  unfold couldJ at hcj
  simp only [Bool.and_eq_true, decide_eq_true_eq] at hcj
  obtain ⟨⟨⟨⟨q1, q2⟩, q3, q4⟩, q5⟩, q6⟩ := hcj
  have d_5432 : decide (aj < 0) = false := decide_eq_false (by omega)
  have d_7899 : decide (2047 ≤ aj) = false := decide_eq_false (by omega)
  have d_8088 : decide (nx < -1) = false := decide_eq_false (by omega)
  have d_7665 : decide (16383 < nx) = false := decide_eq_false (by omega)
  have d_2822 : decide ((1048576 : Int) < (n : Int)) = false := decide_eq_false (by omega)
  have hWR := fun wz => may_any up se ap pt ct b m d wz
  rw [hE] at hWR
  have dE : (((E : Int) != 0) : Bool) = true := by simp; omega
  unfold pkV at hWR
  have i4 := Try.info_jn
  have j0 := BxJ.new w aj nx op a n c
  have g0 := World.grownBy_alloc w (.cells #[.int .i64 aj, .int .i64 nx, .bool op, .slice a n c] 44) none
  generalize hw0 : w.alloc (.cells #[.int .i64 aj, .int .i64 nx, .bool op, .slice a n c] 44) = w0 at j0 g0
  have hz0 : w0.heap.size = w.heap.size + 1 := by rw [← hw0]; simp
  have p1 := BxP.new w0 up se ap pt ct b m d
  have g1 := World.grownBy_alloc w0 (.cells #[.bool up, .bool se, .int .i64 ap, .int .i64 pt, .int .i64 ct, .slice b m d] 25) none
  generalize hw1 : w0.alloc (.cells #[.bool up, .bool se, .int .i64 ap, .int .i64 pt, .int .i64 ct, .slice b m d] 25) = w1 at p1 g1
  have hz1 : w1.heap.size = w.heap.size + 2 := by rw [← hw1]; simp [hz0]
  rw [hz0] at p1
  have r2 := BxJ.new w1 0 0 false none 0 0
  have g2 := World.grownBy_alloc w1 (.cells #[.int .i64 0, .int .i64 0, .bool false, .slice none 0 0] 44) none
  generalize hw2 : w1.alloc (.cells #[.int .i64 0, .int .i64 0, .bool false, .slice none 0 0] 44) = w2 at r2 g2
  rw [hz1] at r2
  have j2 := j0.keep (grown_trans g1 g2) (by simp)
  have p2 := p1.keep g2 (by simp)
  have G2 := grown_trans g0 (grown_trans g1 g2)
  have t1 : True := trivial
  cases op with
  | false =>
    have n0 : n = 0 := by simpa using q6
    subst n0
    obtain ⟨c0, c1, c2, c3⟩ := j2.cell
    obtain ⟨p0', p1', p2', p3', p4', p5'⟩ := p2.cell
    go_enter Try.func23, Try.ntmps23
    go_wp2_with (first
      | (go_at_call 28; have _t := t1; clear t1; refine (hWR w2).mono ?_; rintro e w3 ⟨rfl, g3⟩; have r3 := r2.keep g3 (by simp); have p3 := p2.keep g3 (by simp); have j3 := j2.keep g3 (by simp); clear c0 c1 c2 c3 p0' p1' p2' p3' p4' p5'; have k0 := p3.cell.2.2.1; have k1 := j3.cell.1; have t2 : True := trivial)
      | (have _t := t2; refine wpList_stX _ rfl _ (.tmp 4) (.tmp 60) rfl (w.heap.size + 2) _ _ rfl rfl r3 i4 rfl (by simp [Value.oneCell']) ?_; clear t2; intro w5 r5 g5))
    refine bodyPost_ret (results_cell4 rfl _ _ _ ⟨w.heap.size + 2, 0, none⟩ _ (.slice none 0 0) (.bool false) (.int .i64 ((E : Int))) rfl (BxS.load r5 Try.underlying44 i4) rfl rfl rfl) rfl ?_
    exact ⟨rfl, grown_far (grown_trans G2 g3) g5 (fun g e => by cases e; omega)⟩
  | true =>
    have n0 : 0 < n ∧ nx ≠ -1 := by simpa using q6
    have e8 : decide ((0 : Int) < (n : Int)) = true := decide_eq_true (by omega)
    have e9 : ((nx == -1) : Bool) = false := by simpa using n0.2
    obtain ⟨c0, c1, c2, c3⟩ := j2.cell
    obtain ⟨p0', p1', p2', p3', p4', p5'⟩ := p2.cell
    go_enter Try.func23, Try.ntmps23
    go_wp2_with (first
      | (go_at_call 28; have _t := t1; clear t1; refine (hWR w2).mono ?_; rintro e w3 ⟨rfl, g3⟩; have r3 := r2.keep g3 (by simp); have p3 := p2.keep g3 (by simp); have j3 := j2.keep g3 (by simp); clear c0 c1 c2 c3 p0' p1' p2' p3' p4' p5'; have k0 := p3.cell.2.2.1; have k1 := j3.cell.1; have t2 : True := trivial)
      | (have _t := t2; refine wpList_stX _ rfl _ (.tmp 4) (.tmp 60) rfl (w.heap.size + 2) _ _ rfl rfl r3 i4 rfl (by simp [Value.oneCell']) ?_; clear t2; intro w5 r5 g5))
    refine bodyPost_ret (results_cell4 rfl _ _ _ ⟨w.heap.size + 2, 0, none⟩ _ (.slice none 0 0) (.bool false) (.int .i64 ((E : Int))) rfl (BxS.load r5 Try.underlying44 i4) rfl rfl rfl) rfl ?_
    exact ⟨rfl, grown_far (grown_trans G2 g3) g5 (fun g e => by cases e; omega)⟩
set_option maxHeartbeats 4000000 in
theorem jnoa (aj nx : Int) (op : Bool) (a : Option Addr) (n c : Nat) (up se : Bool) (ap pt ct : Int) (b : Option Addr) (m d : Nat) (w : World) (hc : couldJ aj nx op n = true) (hE : mayE ap pt ct m = 0) (hap : ap ≠ aj) :
    Calls Try.prog 23 #[.agg #[.int .i64 aj, .int .i64 nx, .bool op, .slice a n c], .agg #[.bool up, .bool se, .int .i64 ap, .int .i64 pt, .int .i64 ct, .slice b m d]] w fun e w' => e = .returned (.tuple #[jnV 0 0 false none 0 0, .slice none 0 0, .bool false, .int .i64 (10)]) ∧ w.grownBy w' none := by
  have hcj := hc
  unfold couldJ at hcj
  simp only [Bool.and_eq_true, decide_eq_true_eq] at hcj
  obtain ⟨⟨⟨⟨q1, q2⟩, q3, q4⟩, q5⟩, q6⟩ := hcj
  have d_5432 : decide (aj < 0) = false := decide_eq_false (by omega)
  have d_7899 : decide (2047 ≤ aj) = false := decide_eq_false (by omega)
  have d_8088 : decide (nx < -1) = false := decide_eq_false (by omega)
  have d_7665 : decide (16383 < nx) = false := decide_eq_false (by omega)
  have d_2822 : decide ((1048576 : Int) < (n : Int)) = false := decide_eq_false (by omega)
  have hWR := fun wz => may_any up se ap pt ct b m d wz
  rw [hE] at hWR
  have dE : ((ap != aj) : Bool) = true := by simpa using hap
  unfold pkV at hWR
  have i4 := Try.info_jn
  have j0 := BxJ.new w aj nx op a n c
  have g0 := World.grownBy_alloc w (.cells #[.int .i64 aj, .int .i64 nx, .bool op, .slice a n c] 44) none
  generalize hw0 : w.alloc (.cells #[.int .i64 aj, .int .i64 nx, .bool op, .slice a n c] 44) = w0 at j0 g0
  have hz0 : w0.heap.size = w.heap.size + 1 := by rw [← hw0]; simp
  have p1 := BxP.new w0 up se ap pt ct b m d
  have g1 := World.grownBy_alloc w0 (.cells #[.bool up, .bool se, .int .i64 ap, .int .i64 pt, .int .i64 ct, .slice b m d] 25) none
  generalize hw1 : w0.alloc (.cells #[.bool up, .bool se, .int .i64 ap, .int .i64 pt, .int .i64 ct, .slice b m d] 25) = w1 at p1 g1
  have hz1 : w1.heap.size = w.heap.size + 2 := by rw [← hw1]; simp [hz0]
  rw [hz0] at p1
  have r2 := BxJ.new w1 0 0 false none 0 0
  have g2 := World.grownBy_alloc w1 (.cells #[.int .i64 0, .int .i64 0, .bool false, .slice none 0 0] 44) none
  generalize hw2 : w1.alloc (.cells #[.int .i64 0, .int .i64 0, .bool false, .slice none 0 0] 44) = w2 at r2 g2
  rw [hz1] at r2
  have j2 := j0.keep (grown_trans g1 g2) (by simp)
  have p2 := p1.keep g2 (by simp)
  have G2 := grown_trans g0 (grown_trans g1 g2)
  have t1 : True := trivial
  cases op with
  | false =>
    have n0 : n = 0 := by simpa using q6
    subst n0
    obtain ⟨c0, c1, c2, c3⟩ := j2.cell
    obtain ⟨p0', p1', p2', p3', p4', p5'⟩ := p2.cell
    go_enter Try.func23, Try.ntmps23
    go_wp2_with (first
      | (go_at_call 28; have _t := t1; clear t1; refine (hWR w2).mono ?_; rintro e w3 ⟨rfl, g3⟩; have r3 := r2.keep g3 (by simp); have p3 := p2.keep g3 (by simp); have j3 := j2.keep g3 (by simp); clear c0 c1 c2 c3 p0' p1' p2' p3' p4' p5'; have k0 := p3.cell.2.2.1; have k1 := j3.cell.1; have t2 : True := trivial)
      | (have _t := t2; refine wpList_stX _ rfl _ (.tmp 4) (.tmp 67) rfl (w.heap.size + 2) _ _ rfl rfl r3 i4 rfl (by simp [Value.oneCell']) ?_; clear t2; intro w5 r5 g5))
    refine bodyPost_ret (results_cell4 rfl _ _ _ ⟨w.heap.size + 2, 0, none⟩ _ (.slice none 0 0) (.bool false) (.int .i64 (10)) rfl (BxS.load r5 Try.underlying44 i4) rfl rfl rfl) rfl ?_
    exact ⟨rfl, grown_far (grown_trans G2 g3) g5 (fun g e => by cases e; omega)⟩
  | true =>
    have n0 : 0 < n ∧ nx ≠ -1 := by simpa using q6
    have e8 : decide ((0 : Int) < (n : Int)) = true := decide_eq_true (by omega)
    have e9 : ((nx == -1) : Bool) = false := by simpa using n0.2
    obtain ⟨c0, c1, c2, c3⟩ := j2.cell
    obtain ⟨p0', p1', p2', p3', p4', p5'⟩ := p2.cell
    go_enter Try.func23, Try.ntmps23
    go_wp2_with (first
      | (go_at_call 28; have _t := t1; clear t1; refine (hWR w2).mono ?_; rintro e w3 ⟨rfl, g3⟩; have r3 := r2.keep g3 (by simp); have p3 := p2.keep g3 (by simp); have j3 := j2.keep g3 (by simp); clear c0 c1 c2 c3 p0' p1' p2' p3' p4' p5'; have k0 := p3.cell.2.2.1; have k1 := j3.cell.1; have t2 : True := trivial)
      | (have _t := t2; refine wpList_stX _ rfl _ (.tmp 4) (.tmp 67) rfl (w.heap.size + 2) _ _ rfl rfl r3 i4 rfl (by simp [Value.oneCell']) ?_; clear t2; intro w5 r5 g5))
    refine bodyPost_ret (results_cell4 rfl _ _ _ ⟨w.heap.size + 2, 0, none⟩ _ (.slice none 0 0) (.bool false) (.int .i64 (10)) rfl (BxS.load r5 Try.underlying44 i4) rfl rfl rfl) rfl ?_
    exact ⟨rfl, grown_far (grown_trans G2 g3) g5 (fun g e => by cases e; omega)⟩
set_option maxHeartbeats 2000000 in
theorem joins_any (aj nx : Int) (op : Bool) (a : Option Addr) (n c : Nat) (up se : Bool) (ap pt ct : Int) (b : Option Addr) (m d : Nat) (U D : List Nat) (w : World) (hU : Rd w a n c U) (hD : Rd w b m d D) :
    Calls Try.prog 23 #[jnV aj nx op a n c, pkV up se ap pt ct b m d] w fun e w' => JnA w w' aj nx op U ap pt ct D e := by
  have LU := hU.len
  have LD := hD.len
  have no : ∀ (E : Nat), jnE aj nx op U.length ap pt ct D.length = E → E ≠ 0 → Calls Try.prog 23 #[jnV aj nx op a n c, pkV up se ap pt ct b m d] w (fun e w' => e = .returned (.tuple #[jnV 0 0 false none 0 0, .slice none 0 0, .bool false, .int .i64 (E : Nat)]) ∧ w.grownBy w' none) →
      Calls Try.prog 23 #[jnV aj nx op a n c, pkV up se ap pt ct b m d] w fun e w' => JnA w w' aj nx op U ap pt ct D e := by
    intro E hE h0 h
    refine h.mono ?_
    rintro e w' ⟨rfl, hg⟩
    exact jnA_no hE h0 hg
  cases hc : couldJ aj nx op n with
  | false =>
    refine no 11 (by unfold jnE; rw [LU, hc, if_pos rfl]) (by decide) ?_
    by_cases h1 : aj < 0
    · exact jno1 aj nx op a n c up se ap pt ct b m d w h1
    by_cases h2 : 2047 ≤ aj
    · exact jno2 aj nx op a n c up se ap pt ct b m d w (by omega) h2
    by_cases h3 : nx < -1
    · exact jno3 aj nx op a n c up se ap pt ct b m d w (by omega) (by omega) h3
    by_cases h4 : 16383 < nx
    · exact jno4 aj nx op a n c up se ap pt ct b m d w (by omega) (by omega) (by omega) h4
    by_cases h5 : 1048576 < n
    · exact jno5 aj nx op a n c up se ap pt ct b m d w (by omega) (by omega) (by omega) (by omega) h5
    unfold couldJ at hc
    rw [decide_eq_true (show 0 ≤ aj ∧ aj ≤ 2046 by omega), decide_eq_true (show -1 ≤ nx ∧ nx ≤ 16383 by omega), decide_eq_true (show n ≤ 1048576 by omega)] at hc
    cases op with
    | false =>
      have h6 : 0 < n := by simp at hc; omega
      exact jno7 aj nx a n c up se ap pt ct b m d w (by omega) (by omega) (by omega) (by omega) (by omega) h6
    | true =>
      by_cases h6 : n = 0
      · subst h6
        exact jno6 aj nx a c up se ap pt ct b m d w (by omega) (by omega) (by omega) (by omega)
      · have h7 : nx = -1 := by simp at hc; exact hc (by omega)
        exact jno8 aj nx a n c up se ap pt ct b m d w (by omega) (by omega) (by omega) (by omega) (by omega) (by omega) h7
  | true =>
    by_cases hE : mayE ap pt ct m = 0
    · by_cases hap : ap = aj
      · subst hap
        have H0 : jnE ap nx op U.length ap pt ct D.length = 0 := by unfold jnE; rw [LU, LD, hc, if_neg (by simp), if_neg (by omega), if_neg (by simp)]
        obtain ⟨⟨_, hpt, hct⟩, hm1, hm2⟩ := mayE_ok hE
        have hcj := hc
        unfold couldJ at hcj
        simp only [Bool.and_eq_true, decide_eq_true_eq] at hcj
        obtain ⟨⟨⟨⟨x1, x2⟩, x3, x4⟩, x5⟩, x6⟩ := hcj
        have yes : ∀ (q : Int) (OO LL : Bool) (RR UU : List Nat), q = (ct + 1) % 16384 → OO = jOp nx op U pt ct D → LL = jLo nx op U pt ct D → RR = jRe nx op U pt ct D → UU = jUn nx op U pt ct D →
            Calls Try.prog 23 #[jnV ap nx op a n c, pkV up se ap pt ct b m d] w (fun e w' => ∃ a1 n1 c1 a2 n2 c2, e = .returned (.tuple #[.agg #[.int .i64 ap, .int .i64 q, .bool OO, .slice a1 n1 c1], .slice a2 n2 c2, .bool LL, .int .i64 0]) ∧ Ans w' w.heap.size a1 n1 c1 RR ∧ Ans w' w.heap.size a2 n2 c2 UU ∧ w.grownBy w' none) →
            Calls Try.prog 23 #[jnV ap nx op a n c, pkV up se ap pt ct b m d] w fun e w' => JnA w w' ap nx op U ap pt ct D e := by
          intro q OO LL RR UU hq e1 e2 e3 e4 h
          refine h.mono ?_
          rintro e w' ⟨a1, n1, c1, a2, n2, c2, rfl, g1, g2, g3⟩
          subst hq e1 e2 e3 e4
          exact ⟨a1, n1, c1, a2, n2, c2, .inl ⟨H0, rfl, g1, g2⟩, g3⟩
        rcases (show pt = 3 ∨ pt = 1 ∨ pt = 0 ∨ pt = 2 by omega) with rfl | rfl | rfl | rfl
        · by_cases hA : nx = -1
          · subst hA
            cases op with
            | true => simp at x6
            | false =>
              have n0 : n = 0 := by simpa using x6
              subst n0
              exact yes _ false false ([]) (D) rfl (by simp [jOp, jLo, jRe, jUn, jl]) (by simp [jOp, jLo, jRe, jUn, jl]) (by simp [jOp, jLo, jRe, jUn, jl]) (by simp [jOp, jLo, jRe, jUn, jl]) (joins_AWf ap ct _ a c up se b m d U D w hU hD rfl x1 x2 (by omega) (by omega) (by omega) (by omega))
          · by_cases hB : nx = ct
            · subst hB
              cases op with
              | false =>
                have n0 : n = 0 := by simpa using x6
                subst n0
                exact yes _ false false ([]) (D) rfl (by simp [jOp, jLo, jRe, jUn, jl, hA]) (by simp [jOp, jLo, jRe, jUn, jl, hA]) (by simp [jOp, jLo, jRe, jUn, jl, hA]) (by simp [jOp, jLo, jRe, jUn, jl, hA]) (joins_BWf ap nx _ a c up se b m d U D w hU hD rfl x1 x2 (by omega) (by omega) (by omega) (by omega))
              | true =>
                have n0 : 0 < n := by simp at x6; omega
                exact yes _ false true ([]) (D) rfl (by simp [jOp, jLo, jRe, jUn, jl, hA]) (by simp [jOp, jLo, jRe, jUn, jl, hA]) (by simp [jOp, jLo, jRe, jUn, jl, hA]) (by simp [jOp, jLo, jRe, jUn, jl, hA]) (joins_BWt ap nx _ a n c up se b m d U D w hU hD rfl x1 x2 (by omega) (by omega) (by omega) (by omega) n0 (by omega))
            · cases op with
              | false =>
                have n0 : n = 0 := by simpa using x6
                subst n0
                exact yes _ false true ([]) (D) rfl (by simp [jOp, jLo, jRe, jUn, jl, hA, hB]) (by simp [jOp, jLo, jRe, jUn, jl, hA, hB]) (by simp [jOp, jLo, jRe, jUn, jl, hA, hB]) (by simp [jOp, jLo, jRe, jUn, jl, hA, hB]) (joins_CWf ap nx ct _ a c up se b m d U D w hU hD rfl x1 x2 (by omega) (by omega) (by omega) (by omega) hA hB (by omega) (by omega))
              | true =>
                have n0 : 0 < n := by simp at x6; omega
                exact yes _ false true ([]) (D) rfl (by simp [jOp, jLo, jRe, jUn, jl, hA, hB]) (by simp [jOp, jLo, jRe, jUn, jl, hA, hB]) (by simp [jOp, jLo, jRe, jUn, jl, hA, hB]) (by simp [jOp, jLo, jRe, jUn, jl, hA, hB]) (joins_CWt ap nx ct _ a n c up se b m d U D w hU hD rfl x1 x2 (by omega) (by omega) (by omega) (by omega) n0 (by omega) hA hB (by omega) (by omega))
        · by_cases hA : nx = -1
          · subst hA
            cases op with
            | true => simp at x6
            | false =>
              have n0 : n = 0 := by simpa using x6
              subst n0
              exact yes _ true false (D) ([]) rfl (by simp [jOp, jLo, jRe, jUn, jl]) (by simp [jOp, jLo, jRe, jUn, jl]) (by simp [jOp, jLo, jRe, jUn, jl]) (by simp [jOp, jLo, jRe, jUn, jl]) (joins_AFf ap ct _ a c up se b m d U D w hU hD rfl x1 x2 (by omega) (by omega) (by omega) (by omega))
          · by_cases hB : nx = ct
            · subst hB
              cases op with
              | false =>
                have n0 : n = 0 := by simpa using x6
                subst n0
                exact yes _ true false (D) ([]) rfl (by simp [jOp, jLo, jRe, jUn, jl, hA]) (by simp [jOp, jLo, jRe, jUn, jl, hA]) (by simp [jOp, jLo, jRe, jUn, jl, hA]) (by simp [jOp, jLo, jRe, jUn, jl, hA]) (joins_BFf ap nx _ a c up se b m d U D w hU hD rfl x1 x2 (by omega) (by omega) (by omega) (by omega))
              | true =>
                have n0 : 0 < n := by simp at x6; omega
                exact yes _ true true (D) ([]) rfl (by simp [jOp, jLo, jRe, jUn, jl, hA]) (by simp [jOp, jLo, jRe, jUn, jl, hA]) (by simp [jOp, jLo, jRe, jUn, jl, hA]) (by simp [jOp, jLo, jRe, jUn, jl, hA]) (joins_BFt ap nx _ a n c up se b m d U D w hU hD rfl x1 x2 (by omega) (by omega) (by omega) (by omega) n0 (by omega))
            · cases op with
              | false =>
                have n0 : n = 0 := by simpa using x6
                subst n0
                exact yes _ true true (D) ([]) rfl (by simp [jOp, jLo, jRe, jUn, jl, hA, hB]) (by simp [jOp, jLo, jRe, jUn, jl, hA, hB]) (by simp [jOp, jLo, jRe, jUn, jl, hA, hB]) (by simp [jOp, jLo, jRe, jUn, jl, hA, hB]) (joins_CFf ap nx ct _ a c up se b m d U D w hU hD rfl x1 x2 (by omega) (by omega) (by omega) (by omega) hA hB (by omega) (by omega))
              | true =>
                have n0 : 0 < n := by simp at x6; omega
                exact yes _ true true (D) ([]) rfl (by simp [jOp, jLo, jRe, jUn, jl, hA, hB]) (by simp [jOp, jLo, jRe, jUn, jl, hA, hB]) (by simp [jOp, jLo, jRe, jUn, jl, hA, hB]) (by simp [jOp, jLo, jRe, jUn, jl, hA, hB]) (joins_CFt ap nx ct _ a n c up se b m d U D w hU hD rfl x1 x2 (by omega) (by omega) (by omega) (by omega) n0 (by omega) hA hB (by omega) (by omega))
        · by_cases hA : nx = -1
          · subst hA
            cases op with
            | true => simp at x6
            | false =>
              have n0 : n = 0 := by simpa using x6
              subst n0
              exact yes _ false true ([]) ([]) rfl (by simp [jOp, jLo, jRe, jUn, jl]) (by simp [jOp, jLo, jRe, jUn, jl]) (by simp [jOp, jLo, jRe, jUn, jl]) (by simp [jOp, jLo, jRe, jUn, jl]) (joins_AMf ap ct _ a c up se b m d U D w hU hD rfl x1 x2 (by omega) (by omega) (by omega) (by omega))
          · by_cases hB : nx = ct
            · subst hB
              cases op with
              | false =>
                have n0 : n = 0 := by simpa using x6
                subst n0
                exact yes _ false true ([]) ([]) rfl (by simp [jOp, jLo, jRe, jUn, jl, hA]) (by simp [jOp, jLo, jRe, jUn, jl, hA]) (by simp [jOp, jLo, jRe, jUn, jl, hA]) (by simp [jOp, jLo, jRe, jUn, jl, hA]) (joins_BMf ap nx _ a c up se b m d U D w hU hD rfl x1 x2 (by omega) (by omega) (by omega) (by omega))
              | true =>
                have n0 : 0 < n := by simp at x6; omega
                by_cases hl : n + m ≤ 1048576
                · have k1 : U.length + D.length ≤ 1048576 := by omega
                  have k2 : ¬ (1048576 < U.length + D.length) := by omega
                  exact yes _ true false (U ++ D) ([]) rfl (by simp [jOp, jLo, jRe, jUn, jl, hA, k1, k2]) (by simp [jOp, jLo, jRe, jUn, jl, hA, k1, k2]) (by simp [jOp, jLo, jRe, jUn, jl, hA, k1, k2]) (by simp [jOp, jLo, jRe, jUn, jl, hA, k1, k2]) (joins_BMo ap nx _ a n c up se b m d U D w hU hD rfl x1 x2 (by omega) (by omega) (by omega) (by omega) n0 (by omega) hl)
                · have k1 : ¬ (U.length + D.length ≤ 1048576) := by omega
                  have k2 : (1048576 < U.length + D.length) := by omega
                  exact yes _ false true ([]) ([]) rfl (by simp [jOp, jLo, jRe, jUn, jl, hA, k1, k2]) (by simp [jOp, jLo, jRe, jUn, jl, hA, k1, k2]) (by simp [jOp, jLo, jRe, jUn, jl, hA, k1, k2]) (by simp [jOp, jLo, jRe, jUn, jl, hA, k1, k2]) (joins_BMl ap nx _ a n c up se b m d U D w hU hD rfl x1 x2 (by omega) (by omega) (by omega) (by omega) n0 (by omega) (by omega))
            · cases op with
              | false =>
                have n0 : n = 0 := by simpa using x6
                subst n0
                exact yes _ false true ([]) ([]) rfl (by simp [jOp, jLo, jRe, jUn, jl, hA, hB]) (by simp [jOp, jLo, jRe, jUn, jl, hA, hB]) (by simp [jOp, jLo, jRe, jUn, jl, hA, hB]) (by simp [jOp, jLo, jRe, jUn, jl, hA, hB]) (joins_CMf ap nx ct _ a c up se b m d U D w hU hD rfl x1 x2 (by omega) (by omega) (by omega) (by omega) hA hB (by omega) (by omega))
              | true =>
                have n0 : 0 < n := by simp at x6; omega
                exact yes _ false true ([]) ([]) rfl (by simp [jOp, jLo, jRe, jUn, jl, hA, hB]) (by simp [jOp, jLo, jRe, jUn, jl, hA, hB]) (by simp [jOp, jLo, jRe, jUn, jl, hA, hB]) (by simp [jOp, jLo, jRe, jUn, jl, hA, hB]) (joins_CMt ap nx ct _ a n c up se b m d U D w hU hD rfl x1 x2 (by omega) (by omega) (by omega) (by omega) n0 (by omega) hA hB (by omega) (by omega))
        · by_cases hA : nx = -1
          · subst hA
            cases op with
            | true => simp at x6
            | false =>
              have n0 : n = 0 := by simpa using x6
              subst n0
              exact yes _ false true ([]) ([]) rfl (by simp [jOp, jLo, jRe, jUn, jl]) (by simp [jOp, jLo, jRe, jUn, jl]) (by simp [jOp, jLo, jRe, jUn, jl]) (by simp [jOp, jLo, jRe, jUn, jl]) (joins_ALf ap ct _ a c up se b m d U D w hU hD rfl x1 x2 (by omega) (by omega) (by omega) (by omega))
          · by_cases hB : nx = ct
            · subst hB
              cases op with
              | false =>
                have n0 : n = 0 := by simpa using x6
                subst n0
                exact yes _ false true ([]) ([]) rfl (by simp [jOp, jLo, jRe, jUn, jl, hA]) (by simp [jOp, jLo, jRe, jUn, jl, hA]) (by simp [jOp, jLo, jRe, jUn, jl, hA]) (by simp [jOp, jLo, jRe, jUn, jl, hA]) (joins_BLf ap nx _ a c up se b m d U D w hU hD rfl x1 x2 (by omega) (by omega) (by omega) (by omega))
              | true =>
                have n0 : 0 < n := by simp at x6; omega
                by_cases hl : n + m ≤ 1048576
                · have k1 : U.length + D.length ≤ 1048576 := by omega
                  have k2 : ¬ (1048576 < U.length + D.length) := by omega
                  exact yes _ false false ([]) (U ++ D) rfl (by simp [jOp, jLo, jRe, jUn, jl, hA, k1, k2]) (by simp [jOp, jLo, jRe, jUn, jl, hA, k1, k2]) (by simp [jOp, jLo, jRe, jUn, jl, hA, k1, k2]) (by simp [jOp, jLo, jRe, jUn, jl, hA, k1, k2]) (joins_BLo ap nx _ a n c up se b m d U D w hU hD rfl x1 x2 (by omega) (by omega) (by omega) (by omega) n0 (by omega) hl)
                · have k1 : ¬ (U.length + D.length ≤ 1048576) := by omega
                  have k2 : (1048576 < U.length + D.length) := by omega
                  exact yes _ false true ([]) ([]) rfl (by simp [jOp, jLo, jRe, jUn, jl, hA, k1, k2]) (by simp [jOp, jLo, jRe, jUn, jl, hA, k1, k2]) (by simp [jOp, jLo, jRe, jUn, jl, hA, k1, k2]) (by simp [jOp, jLo, jRe, jUn, jl, hA, k1, k2]) (joins_BLl ap nx _ a n c up se b m d U D w hU hD rfl x1 x2 (by omega) (by omega) (by omega) (by omega) n0 (by omega) (by omega))
            · cases op with
              | false =>
                have n0 : n = 0 := by simpa using x6
                subst n0
                exact yes _ false true ([]) ([]) rfl (by simp [jOp, jLo, jRe, jUn, jl, hA, hB]) (by simp [jOp, jLo, jRe, jUn, jl, hA, hB]) (by simp [jOp, jLo, jRe, jUn, jl, hA, hB]) (by simp [jOp, jLo, jRe, jUn, jl, hA, hB]) (joins_CLf ap nx ct _ a c up se b m d U D w hU hD rfl x1 x2 (by omega) (by omega) (by omega) (by omega) hA hB (by omega) (by omega))
              | true =>
                have n0 : 0 < n := by simp at x6; omega
                exact yes _ false true ([]) ([]) rfl (by simp [jOp, jLo, jRe, jUn, jl, hA, hB]) (by simp [jOp, jLo, jRe, jUn, jl, hA, hB]) (by simp [jOp, jLo, jRe, jUn, jl, hA, hB]) (by simp [jOp, jLo, jRe, jUn, jl, hA, hB]) (joins_CLt ap nx ct _ a n c up se b m d U D w hU hD rfl x1 x2 (by omega) (by omega) (by omega) (by omega) n0 (by omega) hA hB (by omega) (by omega))
      · exact no 10 (by unfold jnE; rw [LU, LD, hc, if_neg (by simp), if_neg (by omega), if_pos hap]) (by decide) (jnoa aj nx op a n c up se ap pt ct b m d w hc hE hap)
    · exact no (mayE ap pt ct m) (by unfold jnE; rw [LU, LD, hc, if_neg (by simp), if_pos hE]) hE (jno9 aj nx op a n c up se ap pt ct b m d w hc _ rfl hE)
end Go.Proofs.Ytmcadmndmafogaa
