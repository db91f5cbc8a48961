import Derived.Test.YtpenggkefbbopaaDoorFROver
namespace Go.Proofs.YtpenggkefbbopaaDoor
open Go.RowKit
set_option maxRecDepth 100000
set_option linter.unusedVariables false
set_option linter.unusedSimpArgs false

theorem set_app (A Z : List Nat) (i x : Nat) (h : i < A.length) : (A ++ Z).set i x = A.set i x ++ Z := by
  rw [List.set_append_left _ _ h]
end Go.Proofs.YtpenggkefbbopaaDoor
