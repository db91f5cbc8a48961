import Derived.Test.YtmcadmndmafogaaPJo6
namespace Go.Proofs.Ytmcadmndmafogaa
open Go.RowKit
set_option maxRecDepth 100000
set_option linter.unusedVariables false
set_option linter.unusedSimpArgs false

def jnV (ap nx : Int) (op : Bool) (a : Option Addr) (n c : Nat) : Value := .agg #[.int .i64 ap, .int .i64 nx, .bool op, .slice a n c]
/-- a Joined in a box -/
def BxJ (w : World) (g : Nat) (ap nx : Int) (op : Bool) (a : Option Addr) (n c : Nat) : Prop := BxS w g 44 #[.int .i64 ap, .int .i64 nx, .bool op, .slice a n c]
theorem BxJ.cell {w : World} {g : Nat} {ap nx : Int} {op : Bool} {a : Option Addr} {n c : Nat} (h : BxJ w g ap nx op a n c) :
    w.cell? ⟨g, 0, none⟩ = some (.int .i64 ap) ∧ w.cell? ⟨g, 1, none⟩ = some (.int .i64 nx) ∧ w.cell? ⟨g, 2, none⟩ = some (.bool op) ∧ w.cell? ⟨g, 3, none⟩ = some (.slice a n c) := by
  simp [World.cell?, show w.heap[g]? = _ from h]
theorem BxJ.keep {w w' : World} {g : Nat} {ap nx : Int} {op : Bool} {a : Option Addr} {n c : Nat} {r : Option Nat} (h : BxJ w g ap nx op a n c) (hg : w.grownBy w' r) (hne : some g ≠ r) : BxJ w' g ap nx op a n c := BxS.keep h hg hne
theorem BxJ.lt {w : World} {g : Nat} {ap nx : Int} {op : Bool} {a : Option Addr} {n c : Nat} (h : BxJ w g ap nx op a n c) : g < w.heap.size := BxS.lt h
theorem BxJ.new (w : World) (ap nx : Int) (op : Bool) (a : Option Addr) (n c : Nat) : BxJ (w.alloc (.cells #[.int .i64 ap, .int .i64 nx, .bool op, .slice a n c] 44)) w.heap.size ap nx op a n c := heap_alloc_new w _
theorem Try.info_jn : (Try.prog.info? 44).map (·.size) = some 4 := by kernel_rfl
theorem Try.info_jr : (Try.prog.info? 68).map (·.size) = some 5 := by kernel_rfl
theorem someones_any (z : Int) (w : World) : Calls Try.prog 34 #[.int .i64 z] w fun e w' => e = .returned (.bool (decide (0 ≤ z ∧ z ≤ 2046))) ∧ w' = w := by
  by_cases h : 0 ≤ z ∧ z ≤ 2046
  · rw [decide_eq_true h]
    go_enter Try.func34, Try.ntmps34
    go_wp2_with (go_at_call 35; refine (within_t _ _ h _).mono ?_; rintro e wx ⟨rfl, hw⟩; have hw := hw.symm; subst hw)
    go_ret
    exact ⟨rfl, rfl⟩
  · rw [decide_eq_false h]
    go_enter Try.func34, Try.ntmps34
    go_wp2_with (go_at_call 35; refine (within_f _ _ h _).mono ?_; rintro e wx ⟨rfl, hw⟩; have hw := hw.symm; subst hw)
    go_ret
    exact ⟨rfl, rfl⟩
/-- what Begin and Join may have answered -/
def couldJ (ap nx : Int) (op : Bool) (n : Nat) : Bool := decide (0 ≤ ap ∧ ap ≤ 2046) && decide (-1 ≤ nx ∧ nx ≤ 16383) && decide (n ≤ 1048576) && (if op = true then decide (0 < n) && decide (nx ≠ -1) else decide (n = 0))
set_option maxHeartbeats 4000000 in
theorem couldBe_any (ap nx : Int) (op : Bool) (a : Option Addr) (n c : Nat) (w : World) : Calls Try.prog 39 #[jnV ap nx op a n c] w fun e w' => e = .returned (.bool (couldJ ap nx op n)) ∧ w.grownBy w' none := by
  unfold jnV
  have gA := World.grownBy_alloc w (.cells #[.int .i64 ap, .int .i64 nx, .bool op, .slice a n c] 44) none
  by_cases h1 : 0 ≤ ap ∧ ap ≤ 2046
  · have d1 : decide (0 ≤ ap ∧ ap ≤ 2046) = true := decide_eq_true h1
    have hs := fun wz => someones_any ap wz
    rw [d1] at hs
    by_cases h2 : nx < -1
    · have e : couldJ ap nx op n = false := by unfold couldJ; rw [decide_eq_false (show ¬ (-1 ≤ nx ∧ nx ≤ 16383) by omega)]; simp
      rw [e]; clear e
      have d2 : decide (nx < -1) = true := decide_eq_true h2
      go_enter Try.func39, Try.ntmps39
      go_wp2_with (go_at_call 34; refine (hs _).mono ?_; rintro e wx ⟨rfl, hw⟩; have hw := hw.symm; subst hw)
      go_ret
      exact ⟨rfl, gA⟩
    have d2 : decide (nx < -1) = false := decide_eq_false h2
    by_cases h3 : 16383 < nx
    · have e : couldJ ap nx op n = false := by unfold couldJ; rw [decide_eq_false (show ¬ (-1 ≤ nx ∧ nx ≤ 16383) by omega)]; simp
      rw [e]; clear e
      have d3 : decide (16383 < nx) = true := decide_eq_true h3
      go_enter Try.func39, Try.ntmps39
      go_wp2_with (go_at_call 34; refine (hs _).mono ?_; rintro e wx ⟨rfl, hw⟩; have hw := hw.symm; subst hw)
      go_ret
      exact ⟨rfl, gA⟩
    have d3 : decide (16383 < nx) = false := decide_eq_false h3
    by_cases h4 : 1048576 < n
    · have e : couldJ ap nx op n = false := by unfold couldJ; rw [decide_eq_false (show ¬ (n ≤ 1048576) by omega)]; simp
      rw [e]; clear e
      have d4 : decide ((1048576 : Int) < (n : Int)) = true := decide_eq_true (by omega)
      go_enter Try.func39, Try.ntmps39
      go_wp2_with (go_at_call 34; refine (hs _).mono ?_; rintro e wx ⟨rfl, hw⟩; have hw := hw.symm; subst hw)
      go_ret
      exact ⟨rfl, gA⟩
    have d4 : decide ((1048576 : Int) < (n : Int)) = false := decide_eq_false (by omega)
    have eb : couldJ ap nx op n = (if op = true then decide (0 < n) && decide (nx ≠ -1) else decide (n = 0)) := by
      unfold couldJ; rw [d1, decide_eq_true (show -1 ≤ nx ∧ nx ≤ 16383 by omega), decide_eq_true (show n ≤ 1048576 by omega)]; simp
    rw [eb]; clear eb
    cases op with
    | false =>
      by_cases h5 : n = 0
      · subst h5
        go_enter Try.func39, Try.ntmps39
        go_wp2_with (go_at_call 34; refine (hs _).mono ?_; rintro e wx ⟨rfl, hw⟩; have hw := hw.symm; subst hw)
        go_ret
        exact ⟨rfl, gA⟩
      · have d5 : (((n : Int) == 0) : Bool) = false := by simp; omega
        have d6 : decide (n = 0) = false := decide_eq_false h5
        simp only [Bool.false_eq_true, if_false]
        rw [d6]
        go_enter Try.func39, Try.ntmps39
        go_wp2_with (go_at_call 34; refine (hs _).mono ?_; rintro e wx ⟨rfl, hw⟩; have hw := hw.symm; subst hw)
        go_ret
        exact ⟨rfl, gA⟩
    | true =>
      simp only [if_true]
      by_cases h5 : 0 < n
      · have d5 : decide ((0 : Int) < (n : Int)) = true := decide_eq_true (by omega)
        have d6 : decide (0 < n) = true := decide_eq_true h5
        rw [d6]
        by_cases h6 : nx = -1
        · subst h6
          go_enter Try.func39, Try.ntmps39
          go_wp2_with (go_at_call 34; refine (hs _).mono ?_; rintro e wx ⟨rfl, hw⟩; have hw := hw.symm; subst hw)
          go_ret
          exact ⟨rfl, gA⟩
        · have d7 : ((nx != -1) : Bool) = true := by simpa using h6
          have d8 : decide (nx ≠ -1) = true := decide_eq_true h6
          rw [d8]
          go_enter Try.func39, Try.ntmps39
          go_wp2_with (go_at_call 34; refine (hs _).mono ?_; rintro e wx ⟨rfl, hw⟩; have hw := hw.symm; subst hw)
          go_ret
          exact ⟨rfl, gA⟩
      · have d5 : decide ((0 : Int) < (n : Int)) = false := decide_eq_false (by omega)
        have d6 : decide (0 < n) = false := decide_eq_false h5
        rw [d6, Bool.false_and]
        go_enter Try.func39, Try.ntmps39
        go_wp2_with (go_at_call 34; refine (hs _).mono ?_; rintro e wx ⟨rfl, hw⟩; have hw := hw.symm; subst hw)
        go_ret
        exact ⟨rfl, gA⟩
  · have d1 : decide (0 ≤ ap ∧ ap ≤ 2046) = false := decide_eq_false h1
    have e : couldJ ap nx op n = false := by unfold couldJ; rw [d1]; simp
    have hs := fun wz => someones_any ap wz
    rw [d1] at hs
    rw [e]; clear e
    go_enter Try.func39, Try.ntmps39
    go_wp2_with (go_at_call 34; refine (hs _).mono ?_; rintro e wx ⟨rfl, hw⟩; have hw := hw.symm; subst hw)
    go_ret
    exact ⟨rfl, gA⟩
end Go.Proofs.Ytmcadmndmafogaa
