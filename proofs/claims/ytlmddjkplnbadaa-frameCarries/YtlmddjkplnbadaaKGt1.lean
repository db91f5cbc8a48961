import Derived.Test.YtlmddjkplnbadaaKBas
namespace Go.Proofs.Ytlmddjkplnbadaa
open Go.RowKit
set_option maxRecDepth 100000
set_option linter.unusedVariables false
set_option linter.unusedSimpArgs false

theorem and_pow2 (x k : Nat) : x &&& 2 ^ k = x / 2 ^ k % 2 * 2 ^ k := by
  have h1 : (x &&& 2 ^ k) / 2 ^ k = x / 2 ^ k % 2 := by
    rw [Nat.and_div_two_pow, Nat.div_self (Nat.two_pow_pos k), Nat.and_one_is_mod]
  have h2 : (x &&& 2 ^ k) % 2 ^ k = 0 := by
    rw [Nat.and_mod_two_pow, Nat.mod_self, Nat.and_zero]
  have h3 := Nat.div_add_mod (x &&& 2 ^ k) (2 ^ k)
  rw [h1, h2, Nat.add_zero, Nat.mul_comm] at h3
  exact h3.symm
theorem i64_and_p2 (x k : Nat) (hx : x < 2 ^ 63) (hk : k < 63) : bits .and .i64 (x : Int) ((2 ^ k : Nat) : Int) = ((x / 2 ^ k % 2 * 2 ^ k : Nat) : Int) := by
  rw [i64_and_nat _ _ hx (Nat.pow_lt_pow_right (by decide) hk), and_pow2]
theorem i64_low (x k : Nat) (hx : x < 2 ^ 63) (hk : k < 63) : bits .and .i64 (x : Int) ((2 ^ k - 1 : Nat) : Int) = ((x % 2 ^ k : Nat) : Int) := by
  rw [i64_and_nat _ _ hx (Nat.lt_of_le_of_lt (Nat.sub_le _ _) (Nat.pow_lt_pow_right (by decide) hk)), Nat.and_two_pow_sub_one_eq_mod]
theorem and_form (x : Nat) (hx : x < 4294967296) : x &&& 18446744073709535488 = x / 16384 * 16384 + x / 256 % 2 * 256 := by
  have h1 : (x &&& 18446744073709535488) / 2 ^ 14 = x / 16384 := by
    rw [Nat.and_div_two_pow]
    show (x / 16384) &&& (2 ^ 50 - 1) = _
    rw [Nat.and_two_pow_sub_one_eq_mod, Nat.mod_eq_of_lt (by omega)]
  have h2 : (x &&& 18446744073709535488) % 2 ^ 14 = x / 256 % 2 * 256 := by
    rw [Nat.and_mod_two_pow]
    show (x % 16384) &&& 2 ^ 8 = _
    rw [and_pow2]
    show x % 16384 / 256 % 2 * 256 = _
    omega
  have h3 := Nat.div_add_mod (x &&& 18446744073709535488) (2 ^ 14)
  rw [h1, h2] at h3
  omega
theorem andNot_form (x : Nat) (hx : x < 4294967296) : bits .andNot .i64 (x : Int) 16127 = ((x / 16384 * 16384 + x / 256 % 2 * 256 : Nat) : Int) := by
  show IntKind.i64.wrap ((BitVec.ofInt 64 (x : Int) &&& ~~~ BitVec.ofInt 64 16127).toNat : Int) = _
  rw [BitVec.toNat_and, BitVec.toNat_not, ofInt_i64 x (by omega)]
  show IntKind.i64.wrap ((x &&& 18446744073709535488 : Nat) : Int) = _
  rw [and_form x hx, wrap_i64_in _ (by omega) (by omega)]
theorem or_nat (h x k : Nat) (hx : x < 2 ^ k) : (h * 2 ^ k) ||| x = h * 2 ^ k + x := by
  have h3 := Nat.shiftLeft_add_eq_or_of_lt hx h
  rw [Nat.shiftLeft_eq] at h3
  exact h3.symm
/-- what Guard answers -/
def guE (cr ha : Int) : Nat := if kwB cr 0 1023 && kwB ha 1 127 then 0 else 2
def guX (cr ha z : Int) : Int := if kwB cr 0 1023 && kwB ha 1 127 then z else 0
end Go.Proofs.Ytlmddjkplnbadaa
