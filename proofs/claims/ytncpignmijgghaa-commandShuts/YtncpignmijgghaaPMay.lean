import Derived.Test.YtncpignmijgghaaFSums
import Derived.Test.YtncpignmijgghaaSRev
import Derived.Test.YtncpignmijgghaaFRow
namespace Go.Proofs.Ytncpignmijgghaa
open Go.RowKit
set_option maxRecDepth 100000
set_option linter.unusedVariables false
set_option linter.unusedSimpArgs false

/-- a packet, as a value -/
def pkV (up se : Bool) (ap pt ct : Int) (a : Option Addr) (n cap : Nat) : Value := .agg #[.bool up, .bool se, .int .i64 ap, .int .i64 pt, .int .i64 ct, .slice a n cap]
/-- why a packet may not be (0: it may) -/
def mayE (ap pt ct : Int) (n : Nat) : Nat := if (0 ≤ ap ∧ ap ≤ 2047) ∧ (0 ≤ pt ∧ pt ≤ 3) ∧ (0 ≤ ct ∧ ct ≤ 16383) then (if n = 0 ∨ 65536 < n then 1 else 0) else 2
end Go.Proofs.Ytncpignmijgghaa
