import Derived.Test.YtnimehkfnpepfaaKxNs
import Derived.Test.YtnimehkfnpepfaaPOp
namespace Go.Proofs.Ytnimehkfnpepfaa
open Go.RowKit
set_option maxRecDepth 100000
set_option linter.unusedVariables false
set_option linter.unusedSimpArgs false

/-- is a number from l to m? -/
def kwB (n l m : Int) : Bool := decide (l ≤ n ∧ n ≤ m)
theorem kwB_t {n l m : Int} (h : l ≤ n ∧ n ≤ m) : kwB n l m = true := decide_eq_true h
theorem kwB_f {n l m : Int} (h : ¬ (l ≤ n ∧ n ≤ m)) : kwB n l m = false := decide_eq_false h
end Go.Proofs.Ytnimehkfnpepfaa
