import Derived.Test.YtnimehkfnpepfaaFB2
import Derived.Test.YtnimehkfnpepfaaKxMay
import Derived.Test.YtnimehkfnpepfaaKxTm
import Derived.Test.YtnimehkfnpepfaaZBx
namespace Go.Proofs.Ytnimehkfnpepfaa
open Go.RowKit
set_option maxRecDepth 100000
set_option linter.unusedVariables false
set_option linter.unusedSimpArgs false

/-! the sum of bytes, bit by bit -/
def crS (s b : Nat) : Nat := (s * 2 % 65536) ^^^ ((b ^^^ s / 32768) * 4129)
def crB (B : List Nat) (i : Nat) : Nat := nth B (i / 8) / 2 ^ (7 - i % 8) % 2
def crN (B : List Nat) : Nat → Nat
  | 0 => 65535
  | i + 1 => crS (crN B i) (crB B i)
def sumB (B : List Nat) : Nat := crN B (8 * B.length)
theorem xor_bit {a b : Nat} (ha : a < 2) (hb : b < 2) : a ^^^ b < 2 := by
  obtain (rfl | rfl) : a = 0 ∨ a = 1 := by omega
  all_goals obtain (rfl | rfl) : b = 0 ∨ b = 1 := by omega
  all_goals decide
theorem xor_16 {a b : Nat} (ha : a < 65536) (hb : b < 65536) : a ^^^ b < 65536 := Nat.xor_lt_two_pow (n := 16) ha hb
theorem crS_lt (s b : Nat) (hs : s < 65536) (hb : b < 2) : crS s b < 65536 := by
  have h := xor_bit hb (show s / 32768 < 2 by omega)
  exact xor_16 (Nat.mod_lt _ (by decide)) (by omega)
theorem crB_lt (B : List Nat) (i : Nat) : crB B i < 2 := Nat.mod_lt _ (by decide)
theorem crN_lt (B : List Nat) (i : Nat) : crN B i < 65536 := by
  induction i with
  | zero => exact (by decide : (65535 : Nat) < 65536)
  | succ i ih => exact crS_lt _ _ ih (crB_lt _ _)
/-- the register with what is left of a byte -/
def crP (p : Nat) : Nat := (p * 2 % 65536) ^^^ (p / 32768 * 4129)
theorem dbl_xor (a b : Nat) : (a ^^^ b) * 2 % 65536 = (a * 2 % 65536) ^^^ (b * 2 % 65536) := by
  have e : ∀ x : Nat, x * 2 % 65536 = (x <<< 1) % 2 ^ 16 := fun x => by rw [Nat.shiftLeft_eq]
  rw [e, e, e, Nat.shiftLeft_xor_distrib, Nat.xor_mod_two_pow]
theorem top_xor (a b : Nat) : (a ^^^ b) / 32768 = (a / 32768) ^^^ (b / 32768) := by
  have e : ∀ x : Nat, x / 32768 = x >>> 15 := fun x => by rw [Nat.shiftRight_eq_div_pow]
  rw [e, e, e, Nat.shiftRight_xor_distrib]
theorem crP_xor (s y : Nat) (hs : s < 65536) (hy : y < 65536) : crP (s ^^^ y) = crS s (y / 32768) ^^^ (y * 2 % 65536) := by
  unfold crP crS
  rw [dbl_xor, top_xor, Nat.xor_comm (y / 32768) (s / 32768)]
  ac_rfl
theorem bits_left (x j : Nat) (hx : x < 256) (hj : j < 8) : x * 2 ^ (8 + j) % 65536 / 32768 = x / 2 ^ (7 - j) % 2 := by
  obtain (rfl | rfl | rfl | rfl | rfl | rfl | rfl | rfl) : j = 0 ∨ j = 1 ∨ j = 2 ∨ j = 3 ∨ j = 4 ∨ j = 5 ∨ j = 6 ∨ j = 7 := by omega
  all_goals simp only [Nat.reduceAdd, Nat.reduceSub, Nat.reducePow]
  all_goals omega
/-- what the program's register holds behind j bits of byte k -/
def crR (B : List Nat) (k j : Nat) : Nat := crN B (8 * k + j) ^^^ (nth B k * 2 ^ (8 + j) % 65536)
theorem crR_lt (B : List Nat) (k j : Nat) : crR B k j < 65536 := xor_16 (crN_lt _ _) (Nat.mod_lt _ (by decide))
theorem crR_step (B : List Nat) (k j : Nat) (hB : nth B k < 256) (hj : j < 8) : crP (crR B k j) = crR B k (j + 1) := by
  unfold crR
  rw [crP_xor _ _ (crN_lt _ _) (Nat.mod_lt _ (by decide)), bits_left _ _ hB hj]
  show _ = crN B (8 * k + j + 1) ^^^ _
  have e1 : crB B (8 * k + j) = nth B k / 2 ^ (7 - j) % 2 := by unfold crB; rw [show (8 * k + j) / 8 = k by omega, show (8 * k + j) % 8 = j by omega]
  show _ = crS (crN B (8 * k + j)) (crB B (8 * k + j)) ^^^ _
  rw [e1]
  congr 1
  rw [show 8 + (j + 1) = (8 + j) + 1 by omega, Nat.pow_succ, ← Nat.mul_assoc, Nat.mod_mul_mod]
theorem crR_end (B : List Nat) (k : Nat) : crR B k 8 = crN B (8 * (k + 1)) := by
  unfold crR
  rw [show nth B k * 2 ^ (8 + 8) % 65536 = 0 by rw [show (2 : Nat) ^ (8 + 8) = 65536 from rfl]; exact Nat.mul_mod_left _ _, Nat.xor_zero]
  rfl
theorem crR_zero (B : List Nat) (k : Nat) (hB : nth B k < 256) : crR B k 0 = crN B (8 * k) ^^^ (nth B k * 256) := by
  unfold crR
  rw [show (2 : Nat) ^ (8 + 0) = 256 from rfl, Nat.mod_eq_of_lt (by omega)]
  rfl
theorem i64_or_n (a b : Nat) (ha : a < 2 ^ 63) (hb : b < 2 ^ 63) : bits .or .i64 (a : Int) (b : Int) = ((a ||| b : Nat) : Int) := by
  have hx : a ||| b < 2 ^ 63 := Nat.or_lt_two_pow (by omega) (by omega)
  show IntKind.i64.wrap ((BitVec.ofInt 64 (a : Int) ||| BitVec.ofInt 64 (b : Int)).toNat : Int) = _
  rw [BitVec.toNat_or, ofInt_i64 a ha, ofInt_i64 b hb, wrap_i64_in _ (by omega) (by omega)]
end Go.Proofs.Ytnimehkfnpepfaa
