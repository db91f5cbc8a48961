import Derived.Test.YtnnohgllnfmoeaaPBk1
import Derived.Deep.RegionLawGrows
namespace Go.Proofs.Ytnnohgllnfmoeaa
open Go.RowKit
set_option maxRecDepth 100000
set_option linter.unusedVariables false
set_option linter.unusedSimpArgs false

/-- which part of a unit the piece at a place is -/
def ptN (k pc : Nat) : Nat := if pc = 1 then 3 else if k = 0 then 1 else if k + 1 = pc then 2 else 0
theorem partAt_any (k pc : Nat) (w : World) (h0 : 1 ≤ pc) (h1 : pc ≤ 16384) (hk : k ≤ 16384) : Calls Try.prog 17 #[.int .i64 (k : Int), .int .i64 (pc : Int)] w fun e w' => e = .returned (.int .i64 (ptN k pc : Nat)) ∧ w' = w := by
  by_cases a1 : pc = 1
  · have e : ptN k pc = 3 := by unfold ptN; rw [if_pos a1]
    rw [e]; subst a1
    go_enter Try.func17, Try.ntmps17
    go_wp2
    go_ret
    exact ⟨rfl, rfl⟩
  have d1 : (((pc : Int) == 1) : Bool) = false := by simp; omega
  by_cases a2 : k = 0
  · have e : ptN k pc = 1 := by unfold ptN; rw [if_neg a1, if_pos a2]
    rw [e]; subst a2
    go_enter Try.func17, Try.ntmps17
    go_wp2
    go_ret
    exact ⟨rfl, rfl⟩
  have d2 : (((k : Int) == 0) : Bool) = false := by simp; omega
  by_cases a3 : k + 1 = pc
  · have e : ptN k pc = 2 := by unfold ptN; rw [if_neg a1, if_neg a2, if_pos a3]
    have d3 : (((k : Int) == (pc : Int) - 1) : Bool) = true := by simp; omega
    rw [e]
    clear a3
    go_enter Try.func17, Try.ntmps17
    go_wp2
    go_ret
    exact ⟨rfl, rfl⟩
  · have e : ptN k pc = 0 := by unfold ptN; rw [if_neg a1, if_neg a2, if_neg a3]
    have d3 : (((k : Int) == (pc : Int) - 1) : Bool) = false := by simp; omega
    rw [e]
    go_enter Try.func17, Try.ntmps17
    go_wp2
    go_ret
    exact ⟨rfl, rfl⟩
theorem countNext_any (ct q : Int) (hq : Hid (q = (ct + 1) % 16384)) (h0 : 0 ≤ ct) (h1 : ct ≤ 16383) (w : World) : Calls Try.prog 19 #[.int .i64 ct] w fun e w' => e = .returned (.int .i64 q) ∧ w' = w := by
  have ht : (ct + 1).tmod 16384 = q := by rw [Int.tmod_eq_emod_of_nonneg (by omega)]; exact hq.out.symm
  have hm : (ct + 1) % 16384 = q := hq.out.symm
  go_enter Try.func19, Try.ntmps19
  go_wp2
  go_ret
  exact ⟨rfl, rfl⟩
end Go.Proofs.Ytnnohgllnfmoeaa
