import Derived.Test.YtlmddjkplnbadaaKxNs
import Derived.Test.YtlmddjkplnbadaaPOp
import Derived.Test.YtlmddjkplnbadaaPSam
import Derived.Test.YtlmddjkplnbadaaNSa1
namespace Go.Proofs.Ytlmddjkplnbadaa
open Go.RowKit
set_option maxRecDepth 100000
set_option linter.unusedVariables false
set_option linter.unusedSimpArgs false

def hlB (h : Int) : Bool := decide (h = 0 ∨ h = 15 ∨ h = 11 ∨ h = 19)
end Go.Proofs.Ytlmddjkplnbadaa
