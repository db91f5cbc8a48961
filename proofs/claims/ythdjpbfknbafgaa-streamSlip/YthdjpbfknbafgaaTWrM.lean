import Derived.Test.YthdjpbfknbafgaaTRWr
import Derived.Test.YthdjpbfknbafgaaTSy1
namespace Go.Proofs.Ythdjpbfknbafgaa
set_option linter.unusedVariables false
set_option linter.unusedSimpArgs false

/-- the newest bits behind n, as one who listens holds them; m bits from q on as a number -/
def laX (B : List Nat) : Nat → Nat
  | 0 => 0
  | n + 1 => (laX B n * 2 + nth B n % 2) % 18446744073709551616
def vB (B : List Nat) (q : Nat) : Nat → Nat
  | 0 => 0
  | m + 1 => 2 * vB B q m + nth B (q + m) % 2
theorem vB_lt (B : List Nat) (q m : Nat) : vB B q m < 2 ^ m := by
  induction m with
  | zero => exact Nat.one_pos
  | succ m ih => show 2 * vB B q m + nth B (q + m) % 2 < 2 ^ (m + 1); rw [Nat.pow_succ]; omega
theorem la_mod (B : List Nat) (q m : Nat) (hm : m ≤ 64) : laX B (q + m) % 2 ^ m = vB B q m := by
  induction m with
  | zero => simp [vB, Nat.mod_one]
  | succ m ih =>
    have h := ih (by omega)
    show (laX B (q + m) * 2 + nth B (q + m) % 2) % 18446744073709551616 % 2 ^ (m + 1) = 2 * vB B q m + nth B (q + m) % 2
    have hd : 2 ^ (m + 1) ∣ 18446744073709551616 := by
      rw [show 18446744073709551616 = 2 ^ 64 from rfl]; exact Nat.pow_dvd_pow 2 hm
    rw [Nat.mod_mod_of_dvd _ hd, Nat.pow_succ, ← h]
    generalize laX B (q + m) = x
    have hp : 0 < 2 ^ m := Nat.pow_pos (by decide)
    generalize 2 ^ m = P at hp
    have e1 : x = P * (x / P) + x % P := (Nat.div_add_mod x P).symm
    have e2 : x % P < P := Nat.mod_lt _ hp
    generalize x / P = d at e1
    generalize x % P = r at e1 e2
    have e3 : x * 2 + nth B (q + m) % 2 = (P * 2) * d + (2 * r + nth B (q + m) % 2) := by
      rw [e1, Nat.mul_right_comm]; omega
    rw [e3, Nat.mul_add_mod, Nat.mod_eq_of_lt (by omega)]
theorem vB_shift (B : List Nat) (q m k : Nat) : vB B q (m + k) / 2 ^ k = vB B q m := by
  induction k with
  | zero => simp
  | succ k ih =>
    show (2 * vB B q (m + k) + nth B (q + (m + k)) % 2) / 2 ^ (k + 1) = _
    rw [show 2 ^ (k + 1) = 2 * 2 ^ k from by rw [Nat.pow_succ, Nat.mul_comm], ← Nat.div_div_eq_div_mul, show (2 * vB B q (m + k) + nth B (q + (m + k)) % 2) / 2 = vB B q (m + k) from by omega, ih]
theorem la_part (B : List Nat) (q k : Nat) (hk : k ≤ 32) : laX B (q + (32 + k)) / 2 ^ k % 4294967296 = vB B q 32 := by
  have h := la_mod B q (32 + k) (by omega)
  have e : laX B (q + (32 + k)) % 2 ^ (32 + k) / 2 ^ k = laX B (q + (32 + k)) / 2 ^ k % 4294967296 := by
    rw [Nat.pow_add, Nat.mul_comm, Nat.mod_mul_right_div_self]
  rw [← e, h, vB_shift]
/-- bit j, and how many of the first n are set -/
theorem vB_bit (B : List Nat) (q m i : Nat) (hi : i < m) : vB B q m / 2 ^ (m - 1 - i) % 2 = nth B (q + i) % 2 := by
  have h := vB_shift B q (i + 1) (m - 1 - i)
  rw [show i + 1 + (m - 1 - i) = m from by omega] at h
  rw [h]
  show (2 * vB B q i + nth B (q + i) % 2) % 2 = _
  omega
end Go.Proofs.Ythdjpbfknbafgaa
