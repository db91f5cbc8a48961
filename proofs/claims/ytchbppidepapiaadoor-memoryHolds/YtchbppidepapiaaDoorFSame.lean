import Derived.Test.YtchbppidepapiaaDoorFLeft
import Derived.Laws.BytesArg
namespace Go.Proofs.YtchbppidepapiaaDoor
open Go.RowKit
set_option maxRecDepth 100000
set_option linter.unusedVariables false
set_option linter.unusedSimpArgs false

def strB (L : List Nat) : ByteArray := strOfNums (L.map fun (n : Nat) => (n : Int))
theorem getD_cast (L : List Nat) (i : Nat) : (L.map fun (n : Nat) => (n : Int)).getD i 0 = (nth L i : Nat) := by
  unfold nth
  rw [List.getD_eq_getElem?_getD, List.getD_eq_getElem?_getD, List.getElem?_map]
  cases L[i]? <;> rfl
end Go.Proofs.YtchbppidepapiaaDoor
