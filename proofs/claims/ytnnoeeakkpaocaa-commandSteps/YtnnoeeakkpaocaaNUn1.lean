import Derived.Test.YtnnoeeakkpaocaaKxNs
import Derived.Test.YtnnoeeakkpaocaaPDec
namespace Go.Proofs.Ytnnoeeakkpaocaa
open Go.RowKit
set_option maxRecDepth 100000
set_option linter.unusedVariables false
set_option linter.unusedSimpArgs false

/-- the number that bytes tell -/
def nuN (L : List Nat) : Nat → Nat
  | 0 => 0
  | k + 1 => nuN L k * 256 + nth L k
def numB (L : List Nat) : Nat := nuN L L.length
theorem nuN_lt {L : List Nat} (h : IsB L) (k : Nat) : nuN L k < 256 ^ k := by
  induction k with
  | zero => exact Nat.one_pos
  | succ k ih => have := h.nth k; show nuN L k * 256 + nth L k < 256 ^ (k + 1); rw [Nat.pow_succ]; omega
theorem and_name : ∀ h, h < 256 → ∀ l, l < 256 → (h * 256 + l) &&& 49153 = (h * 256 + l) / 16384 * 16384 + l % 2 := by decide +kernel
theorem and_first : ∀ h, h < 256 → ∀ l, l < 256 → (h * 256 + l) &&& 63488 = (h * 256 + l) / 2048 * 2048 := by decide +kernel
theorem name_and (x : Nat) (h : x < 65536) : bits .and .i64 (x : Int) 49153 = ((x / 16384 * 16384 + x % 2 : Nat) : Int) := by
  have e := and_name (x / 256) (by omega) (x % 256) (by omega)
  rw [show x / 256 * 256 + x % 256 = x by omega] at e
  refine (i64_and_nat x 49153 (by omega) (by decide)).trans ?_
  rw [e]; omega
theorem first_and (x : Nat) (h : x < 65536) : bits .and .i64 (x : Int) 63488 = ((x / 2048 * 2048 : Nat) : Int) := by
  have e := and_first (x / 256) (by omega) (x % 256) (by omega)
  rw [show x / 256 * 256 + x % 256 = x by omega] at e
  refine (i64_and_nat x 63488 (by omega) (by decide)).trans ?_
  rw [e]
theorem low_and (x k : Nat) (h : x < 2 ^ 62) (hk : k ≤ 16) : bits .and .i64 (x : Int) ((2 ^ k - 1 : Nat) : Int) = ((x % 2 ^ k : Nat) : Int) := by
  have : (2 : Nat) ^ k ≤ 2 ^ 16 := Nat.pow_le_pow_right (by decide) hk
  rw [i64_and_nat x (2 ^ k - 1) (by omega) (by omega), Nat.and_two_pow_sub_one_eq_mod]
end Go.Proofs.Ytnnoeeakkpaocaa
