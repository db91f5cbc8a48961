import Derived.Test.YtnimehkfnpepfaaPTak
import Derived.Test.YtnimehkfnpepfaaZBx
namespace Go.Proofs.Ytnimehkfnpepfaa
open Go.RowKit
set_option maxRecDepth 100000
set_option linter.unusedVariables false
set_option linter.unusedSimpArgs false

/-- the number that the first k bytes make -/
def hdV (B : List Nat) : Nat → Nat
  | 0 => 0
  | k + 1 => hdV B k * 256 + nth B k
theorem hdV_lt {B : List Nat} (hB : IsB B) (k : Nat) : hdV B k < 256 ^ k := by
  induction k with
  | zero => show 0 < 1; decide
  | succ k ih =>
    have := hB.nth k
    simp only [hdV, Nat.pow_succ]
    omega
theorem hdV_step (B : List Nat) (hB : IsB B) (k : Nat) (hk : k < 6) : bits .or .u64 (IntKind.u64.wrap ((hdV B k : Int) * 256)) (nth B k : Int) = ((hdV B (k + 1) : Nat) : Int) := by
  have h1 := hdV_lt hB k
  have h2 : 256 ^ k ≤ 256 ^ 5 := Nat.pow_le_pow_right (by decide) (by omega)
  have h3 := hB.nth k
  have := put_val 8 (nth B k) (hdV B k) (by decide) (by omega) (by omega)
  rw [wrapU (nth B k : Int)] at this
  have e : (nth B k : Int) % 18446744073709551616 = (nth B k : Int) := by omega
  rw [e] at this
  exact this
end Go.Proofs.Ytnimehkfnpepfaa
