import Derived.Test.YtbgbohddkfaacaaFSums
namespace Go.Proofs.Ytbgbohddkfaacaa
open Go.RowKit
set_option maxRecDepth 100000
set_option linter.unusedVariables false
set_option linter.unusedSimpArgs false

/-- the value, the highest coefficient first: k rounds -/
def horN (P : List Nat) (x : Nat) : Nat → Nat
  | 0 => 0
  | k + 1 => Fld.mul (horN P x k) x ^^^ nth P (P.length - 1 - k)
def atL (P : List Nat) (x : Nat) : Nat := horN P x P.length
theorem horN_lt {P : List Nat} (hP : IsB P) (x k : Nat) : horN P x k < 256 := by
  induction k with
  | zero => simp [horN]
  | succ k ih => exact Fld.xor_lt (Fld.mul_lt _ ih) (hP.nth _)

end Go.Proofs.Ytbgbohddkfaacaa
