import Derived.Test.YtdpgblojdppfeaaRows
import Derived.Test.YtdpgblojdppfeaaFMath
import Derived.WalkKit
import Derived.WalkSpells
import Derived.WalkLawsBesides
import Derived.Laws.BitsAllLaws
import Derived.Outline
namespace Go.Proofs.Ytdpgblojdppfeaa
open Go.RowKit
set_option maxRecDepth 100000

theorem ret_int {k : IntKind} {a b : Int} (h : a = b) : Ending.returned (.int k a) = .returned (.int k b) := by rw [h]
theorem val_int {k : IntKind} {a b : Int} (h : a = b) : Value.int k a = .int k b := by rw [h]

theorem dbl_hi (a : Nat) (h : ¬ a < 128) : bits .xor .u8 ((a : Int) * 2 % 256) 135 = (Fld.dbl a : Int) := by
  have e : ((a : Int) * 2 % 256) = ((2 * a % 256 : Nat) : Int) := by omega
  rw [e]
  refine (u8_xor_nat (2 * a % 256) 135 (by omega) (by decide)).trans ?_
  unfold Fld.dbl
  rw [if_neg h]
theorem dbl_lo (a : Nat) (h : a < 128) : bits .xor .u8 ((a : Int) * 2) (bits .and .u8 135 0) = (Fld.dbl a : Int) := by
  have e : ((a : Int) * 2) = ((2 * a : Nat) : Int) := by omega
  have e0 : bits .and .u8 135 0 = ((0 : Nat) : Int) := by decide
  rw [e, e0]
  refine (u8_xor_nat (2 * a) 0 (by omega) (by decide)).trans ?_
  unfold Fld.dbl
  rw [if_pos h, Nat.xor_zero]
theorem bit_u8 (b k : Nat) (hb : b < 256) : (bits .and .u8 ((b : Int) / 2 ^ k) 1 == 1) = b.testBit k := by
  have e : ((b : Int) / 2 ^ k) = ((b / 2 ^ k : Nat) : Int) := by simp
  have hl : b / 2 ^ k < 256 := Nat.lt_of_le_of_lt (Nat.div_le_self _ _) hb
  have := u8_and_nat (b / 2 ^ k) 1 hl (by decide)
  rw [e]; simp only [Int.natCast_one] at this; rw [this, Nat.testBit_eq_decide_div_mod_eq, Nat.and_one_is_mod]
  by_cases h : b / 2 ^ k % 2 = 1
  · rw [h]; rfl
  · have h0 : b / 2 ^ k % 2 = 0 := by omega
    rw [h0]; rfl
theorem bit_one (b k : Nat) (hb : b < 256) (h : b.testBit k = true) : bits .and .u8 ((b : Int) / 2 ^ k) 1 = 1 := by
  have := bit_u8 b k hb; rw [h] at this; simpa using this
theorem bit_nought (b k : Nat) (hb : b < 256) (h : ¬ b.testBit k = true) : bits .and .u8 ((b : Int) / 2 ^ k) 1 = 0 := by
  have e : ((b : Int) / 2 ^ k) = ((b / 2 ^ k : Nat) : Int) := by simp
  have hl : b / 2 ^ k < 256 := Nat.lt_of_le_of_lt (Nat.div_le_self _ _) hb
  have := u8_and_nat (b / 2 ^ k) 1 hl (by decide)
  rw [e]; simp only [Int.natCast_one] at this; rw [this, Nat.and_one_is_mod]
  rw [Nat.testBit_eq_decide_div_mod_eq] at h
  simp at h; omega
theorem u8_and_full (a : Nat) (h : a < 256) : bits .and .u8 (a : Int) 255 = (a : Int) := by
  have := u8_and_nat a 255 h (by decide)
  refine this.trans ?_
  have e : (255 : Nat) = 2 ^ 8 - 1 := rfl
  rw [e, Nat.and_two_pow_sub_one_eq_mod, Nat.mod_eq_of_lt (by omega)]
theorem u8_and_none (a : Nat) (h : a < 256) : bits .and .u8 (a : Int) 0 = 0 := by
  have := u8_and_nat a 0 h (by decide)
  refine this.trans ?_
  simp
theorem u8_xor_none (a : Nat) (h : a < 256) : bits .xor .u8 (a : Int) 0 = (a : Int) := by
  have := u8_xor_nat a 0 h (by decide)
  refine this.trans ?_
  simp
theorem invN_lt (a : Nat) (h : a < 256) (k : Nat) : (Fld.invN a k).1 < 256 ∧ (Fld.invN a k).2 < 256 := by
  rw [(Fld.invN_eq a h k).1, (Fld.invN_eq a h k).2]; exact ⟨Fld.pw_lt _ _ h, Fld.pw_lt _ _ h⟩
/-- what Div gives -/
def divV (a b : Nat) : Nat := if b = 0 then 0 else Fld.mul a (Fld.inv b)
/-! the document's -/
theorem wrap_i64_in (n : Int) (h1 : -9223372036854775808 ≤ n) (h2 : n ≤ 9223372036854775807) : IntKind.i64.wrap n = n := by
  rw [IntKind.wrap_i64]; omega
theorem ofInt_i64 (a : Nat) (ha : a < 2 ^ 63) : (BitVec.ofInt 64 (a : Int)).toNat = a := by
  rw [BitVec.ofInt_natCast, BitVec.toNat_ofNat]; exact Nat.mod_eq_of_lt (by omega)
theorem i64_xor_nat (a b : Nat) (ha : a < 2 ^ 63) (hb : b < 2 ^ 63) : bits .xor .i64 (a : Int) (b : Int) = ((a ^^^ b : Nat) : Int) := by
  have hx : a ^^^ b < 2 ^ 63 := Nat.xor_lt_two_pow (by omega) (by omega)
  show IntKind.i64.wrap ((BitVec.ofInt 64 (a : Int) ^^^ BitVec.ofInt 64 (b : Int)).toNat : Int) = _
  rw [BitVec.toNat_xor, ofInt_i64 a ha, ofInt_i64 b hb, wrap_i64_in _ (by omega) (by omega)]
theorem i64_and_nat (a b : Nat) (ha : a < 2 ^ 63) (hb : b < 2 ^ 63) : bits .and .i64 (a : Int) (b : Int) = ((a &&& b : Nat) : Int) := by
  have hx : a &&& b < 2 ^ 63 := Nat.and_lt_two_pow _ (by omega)
  show IntKind.i64.wrap ((BitVec.ofInt 64 (a : Int) &&& BitVec.ofInt 64 (b : Int)).toNat : Int) = _
  rw [BitVec.toNat_and, ofInt_i64 a ha, ofInt_i64 b hb, wrap_i64_in _ (by omega) (by omega)]
theorem bit_i64 (b k : Nat) (hb : b < 2 ^ 63) : (bits .and .i64 ((b : Int) / 2 ^ k) 1 == 1) = b.testBit k := by
  have e : ((b : Int) / 2 ^ k) = ((b / 2 ^ k : Nat) : Int) := by simp
  have hl : b / 2 ^ k < 2 ^ 63 := Nat.lt_of_le_of_lt (Nat.div_le_self _ _) hb
  have := i64_and_nat (b / 2 ^ k) 1 hl (by decide)
  rw [e]; simp only [Int.natCast_one] at this; rw [this, Nat.testBit_eq_decide_div_mod_eq, Nat.and_one_is_mod]
  by_cases h : b / 2 ^ k % 2 = 1
  · rw [h]; rfl
  · have h0 : b / 2 ^ k % 2 = 0 := by omega
    rw [h0]; rfl
theorem clS_lt (a b k : Nat) (ha : a < 256) (hk : k ≤ 8) : Fld.clS a b k < 65536 := by
  induction k with
  | zero => simp [Fld.clS]
  | succ k ih =>
    have hs : a <<< k < 2 ^ 16 := by
      rw [Nat.shiftLeft_eq]
      have : 2 ^ k ≤ 2 ^ 7 := Nat.pow_le_pow_right (by decide) (by omega)
      have := Nat.mul_le_mul (Nat.le_of_lt ha) this
      omega
    unfold Fld.clS; split
    · exact Nat.xor_lt_two_pow (n := 16) (ih (by omega)) hs
    · exact Nat.xor_lt_two_pow (n := 16) (ih (by omega)) (by decide)
theorem redN_lt (n k : Nat) (hn : n < 65536) (hk : k ≤ 7) : Fld.redN n k < 65536 := by
  induction k with
  | zero => exact hn
  | succ k ih =>
    have hs : 391 <<< (6 - k) < 2 ^ 16 := by
      rw [Nat.shiftLeft_eq]
      have : 2 ^ (6 - k) ≤ 2 ^ 6 := Nat.pow_le_pow_right (by decide) (by omega)
      omega
    unfold Fld.redN; split
    · exact Nat.xor_lt_two_pow (n := 16) (ih (by omega)) hs
    · exact ih (by omega)
theorem xor_shl (c a k : Nat) (hc : c < 65536) (ha : a < 65536) (hk : k ≤ 8) : bits .xor .i64 (c : Int) (wrap64 ((a : Int) * 2 ^ k)) = ((c ^^^ (a <<< k) : Nat) : Int) := by
  have hs : a * 2 ^ k < 2 ^ 32 := by
    have : 2 ^ k ≤ 2 ^ 8 := Nat.pow_le_pow_right (by decide) hk
    have := Nat.mul_le_mul (Nat.le_of_lt ha) this
    omega
  have e : ((a : Int) * 2 ^ k) = ((a * 2 ^ k : Nat) : Int) := by simp
  rw [e, IntWalk.wrap64_in _ ⟨by omega, by omega⟩, i64_xor_nat _ _ (by omega) (by omega), Nat.shiftLeft_eq]
theorem mulN_lt (b n q : Nat) (hb : b < 256) (hq : q < 256) : Fld.mulN b n q < 256 := by
  rw [Fld.mulN_eq b n q hb hq]; exact Fld.mul_lt _ hq
/-! powers of 2 -/
/-- 2 to the n, n whatever -/
def pow2 (n : Int) : Nat := Fld.dblN (n % 255).toNat 1
theorem pow2_lt (n : Int) : pow2 n < 256 := Fld.dblN_lt _ (by decide)
theorem pow2_of (n : Int) (m : Nat) (e : m = (n % 255).toNat) : (Fld.dblN m 1 : Int) = (pow2 n : Int) := by rw [e]; rfl
end Go.Proofs.Ytdpgblojdppfeaa
