import Derived.OpenShut
import Derived.Test.YtlmddjkplnbadaaZSh
import Derived.Test.YtlmddjkplnbadaaFB2
import Derived.Test.YtlmddjkplnbadaaKxMay
namespace Go.Proofs.Ytlmddjkplnbadaa
open Go.RowKit
set_option linter.unusedVariables false

theorem shown_int {w : World} {full : Bool} {n : Nat} {v : Value} (h : (Sh.int .i64).shown w full v n) : ∃ z, v = .int .i64 z ∧ -9223372036854775808 ≤ z ∧ z ≤ 9223372036854775807 := by
  obtain ⟨_, z, e, hz⟩ := h
  cases e
  exact ⟨z, rfl, bounds_i64 hz⟩
end Go.Proofs.Ytlmddjkplnbadaa
