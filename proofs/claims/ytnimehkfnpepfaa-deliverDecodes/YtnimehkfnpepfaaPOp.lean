import Derived.Test.YtnimehkfnpepfaaZOp
import Derived.Test.YtnimehkfnpepfaaKxMay
namespace Go.Proofs.Ytnimehkfnpepfaa
open Go.RowKit
set_option linter.unusedVariables false

theorem shown_bytes {w : World} {full : Bool} {n : Nat} {v : Value} (h : (Sh.slice 1 1 (.int .u8)).shown w full v n) : ∃ a len cap L, v = .slice a len cap ∧ Rd w a len cap L ∧ (full = true → cap ≤ 140737488351232) ∧ cap + 1 ≤ n := by
  obtain ⟨a, len, cap, L, e, hr⟩ := met_bytes h
  cases e
  exact ⟨a, len, cap, L, rfl, hr⟩
end Go.Proofs.Ytnimehkfnpepfaa
