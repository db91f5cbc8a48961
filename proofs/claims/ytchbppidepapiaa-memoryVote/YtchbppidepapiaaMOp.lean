import Derived.Test.YtchbppidepapiaaZOp
namespace Go.Proofs.Ytchbppidepapiaa
open Go.RowKit
set_option linter.unusedVariables false

theorem mshown_int {w : World} {full : Bool} {n : Nat} {v : Value} (h : (Sh.int .i64).shown w full v n) : ∃ z, v = .int .i64 z ∧ -9223372036854775808 ≤ z ∧ z ≤ 9223372036854775807 := by
  obtain ⟨_, z, e, hz⟩ := h
  cases e
  exact ⟨z, rfl, bounds_i64 hz⟩
theorem mshown_bytes {w : World} {full : Bool} {n : Nat} {v : Value} (h : (Sh.slice 1 1 (.int .u8)).shown w full v n) : ∃ a len cap L, v = .slice a len cap ∧ Rd w a len cap L ∧ (full = true → cap ≤ 140737488351232) ∧ cap + 1 ≤ n := by
  obtain ⟨a, len, cap, L, e, hr⟩ := met_bytes h
  cases e
  exact ⟨a, len, cap, L, rfl, hr⟩
end Go.Proofs.Ytchbppidepapiaa
