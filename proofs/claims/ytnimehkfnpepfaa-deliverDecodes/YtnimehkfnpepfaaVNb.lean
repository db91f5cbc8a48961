import Derived.Lib.AppendStr
import Derived.Deep.RegionLawGrows
import Derived.Test.YtnimehkfnpepfaaVNt
import Derived.Test.YtnimehkfnpepfaaVGp
import Derived.Test.YtnimehkfnpepfaaYZi
namespace Go.Proofs.Ytnimehkfnpepfaa
open Go.RowKit
set_option maxRecDepth 100000
set_option linter.unusedVariables false
set_option linter.unusedSimpArgs false

theorem Ans.as {w : World} {lo : Nat} {a : Option Addr} {n cap : Nat} {L L' : List Nat} (h : Ans w lo a n cap L) (e : L = L') : Ans w lo a n cap L' := e ▸ h
end Go.Proofs.Ytnimehkfnpepfaa
