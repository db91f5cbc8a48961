import Derived.Test.YtnimehkfnpepfaaRows
import Derived.WalkKit
import Derived.WalkSpells
import Derived.WalkLawsBesides
import Derived.Laws.BitsAllLaws
import Derived.Outline
namespace Go.Proofs.Ytnimehkfnpepfaa
open Go.RowKit
set_option maxRecDepth 100000
set_option linter.unusedVariables false
set_option linter.unusedSimpArgs false

/-
  The field of 256 numbers, plainly: products by doubling, the document's product (all out, then the rest), inverses, powers of 2. No Go in sight.
-/
namespace Fld
/-- x times 2 -/
def dbl (a : Nat) : Nat := if a < 128 then 2 * a else (2 * a % 256) ^^^ 135
def dblN : Nat → Nat → Nat
  | 0, a => a
  | k + 1, a => dbl (dblN k a)
def mulS (a b : Nat) : Nat → Nat
  | 0 => 0
  | k + 1 => mulS a b k ^^^ (if b.testBit k then dblN k a else 0)
def mul (a b : Nat) : Nat := mulS a b 8

theorem xor_lt {a b : Nat} (ha : a < 256) (hb : b < 256) : a ^^^ b < 256 := Nat.xor_lt_two_pow (n := 8) ha hb
theorem dbl_lt {a : Nat} (h : a < 256) : dbl a < 256 := by
  unfold dbl; split
  · omega
  · exact xor_lt (by omega) (by decide)
theorem dblN_lt {a : Nat} (k : Nat) (h : a < 256) : dblN k a < 256 := by
  induction k with
  | zero => exact h
  | succ k ih => exact dbl_lt ih
theorem mulS_lt {a : Nat} (b k : Nat) (h : a < 256) : mulS a b k < 256 := by
  induction k with
  | zero => simp [mulS]
  | succ k ih =>
    unfold mulS; split
    · exact xor_lt ih (dblN_lt k h)
    · exact xor_lt ih (by decide)
theorem mul_lt {a : Nat} (b : Nat) (h : a < 256) : mul a b < 256 := mulS_lt b 8 h

theorem xor4 (a b c d : Nat) : (a ^^^ b) ^^^ (c ^^^ d) = (a ^^^ c) ^^^ (b ^^^ d) := by
  rw [Nat.xor_assoc, Nat.xor_assoc, ← Nat.xor_assoc b, ← Nat.xor_assoc c, Nat.xor_comm b c]
theorem dbl_alt : ∀ a, a < 256 → dbl a = (a <<< 1) ^^^ (if a.testBit 7 then 391 else 0) := by decide +kernel
theorem dbl_xor {a b : Nat} (ha : a < 256) (hb : b < 256) : dbl (a ^^^ b) = dbl a ^^^ dbl b := by
  rw [dbl_alt _ (xor_lt ha hb), dbl_alt a ha, dbl_alt b hb, xor4, Nat.shiftLeft_xor_distrib, Nat.testBit_xor]
  congr 1
  cases a.testBit 7 <;> cases b.testBit 7 <;> simp
theorem dblN_xor {a b : Nat} (k : Nat) (ha : a < 256) (hb : b < 256) : dblN k (a ^^^ b) = dblN k a ^^^ dblN k b := by
  induction k with
  | zero => rfl
  | succ k ih => simp only [dblN]; rw [ih, dbl_xor (dblN_lt k ha) (dblN_lt k hb)]
theorem mulS_xor_left {a b : Nat} (c k : Nat) (ha : a < 256) (hb : b < 256) : mulS (a ^^^ b) c k = mulS a c k ^^^ mulS b c k := by
  induction k with
  | zero => simp [mulS]
  | succ k ih =>
    simp only [mulS]; rw [ih]
    by_cases h : c.testBit k
    · simp only [h, if_true]; rw [dblN_xor k ha hb, xor4]
    · simp only [h]; simp
theorem mulS_xor_right (a b c k : Nat) : mulS a (b ^^^ c) k = mulS a b k ^^^ mulS a c k := by
  induction k with
  | zero => simp [mulS]
  | succ k ih =>
    simp only [mulS, Nat.testBit_xor]; rw [ih, xor4]
    congr 1
    cases b.testBit k <;> cases c.testBit k <;> simp
theorem mul_xor_left {a b : Nat} (c : Nat) (ha : a < 256) (hb : b < 256) : mul (a ^^^ b) c = mul a c ^^^ mul b c := mulS_xor_left c 8 ha hb
theorem mul_xor_right (a b c : Nat) : mul a (b ^^^ c) = mul a b ^^^ mul a c := mulS_xor_right a b c 8

/-! two additive functions that agree at the bits agree -/
theorem low_all : ∀ a, a < 256 → a = 0 ∨ ∃ i, i < 8 ∧ 2 ^ i < 256 ∧ a ^^^ 2 ^ i < a := by decide +kernel
theorem add_ext (f g : Nat → Nat) (hf : ∀ a b, a < 256 → b < 256 → f (a ^^^ b) = f a ^^^ f b) (hg : ∀ a b, a < 256 → b < 256 → g (a ^^^ b) = g a ^^^ g b)
    (h : ∀ i, i < 8 → f (2 ^ i) = g (2 ^ i)) : ∀ a, a < 256 → f a = g a := by
  have z : ∀ f : Nat → Nat, (∀ a b, a < 256 → b < 256 → f (a ^^^ b) = f a ^^^ f b) → f 0 = 0 := by
    intro f hf
    have := hf 0 0 (by decide) (by decide)
    simpa using this
  intro a
  induction a using Nat.strongRecOn with
  | ind a ih =>
    intro ha
    rcases low_all a ha with rfl | ⟨i, hi, hp, hlt⟩
    · rw [z f hf, z g hg]
    · have e : a = 2 ^ i ^^^ (a ^^^ 2 ^ i) := by rw [Nat.xor_comm a, ← Nat.xor_assoc, Nat.xor_self, Nat.zero_xor]
      have hl : a ^^^ 2 ^ i < 256 := by omega
      rw [e, hf _ _ hp hl, hg _ _ hp hl, h i hi, ih _ hlt hl]
theorem comm_bit : ∀ i, i < 8 → ∀ b, b < 256 → mul (2 ^ i) b = mul b (2 ^ i) := by decide +kernel
theorem mul_comm {a b : Nat} (ha : a < 256) (hb : b < 256) : mul a b = mul b a :=
  add_ext (fun a => mul a b) (fun a => mul b a) (fun _ _ h1 h2 => mul_xor_left b h1 h2) (fun _ _ _ _ => mul_xor_right b _ _) (fun i hi => comm_bit i hi b hb) a ha
theorem assoc_bit : ∀ i, i < 8 → ∀ j, j < 8 → ∀ k, k < 8 → mul (mul (2 ^ i) (2 ^ j)) (2 ^ k) = mul (2 ^ i) (mul (2 ^ j) (2 ^ k)) := by decide +kernel
theorem two_pow_lt {i : Nat} (h : i < 8) : 2 ^ i < 256 := Nat.pow_lt_pow_right (by decide) h
theorem mul_assoc {a b c : Nat} (ha : a < 256) (hb : b < 256) (hc : c < 256) : mul (mul a b) c = mul a (mul b c) := by
  refine add_ext (fun a => mul (mul a b) c) (fun a => mul a (mul b c)) (fun x y h1 h2 => ?_) (fun x y h1 h2 => mul_xor_left _ h1 h2) (fun i hi => ?_) a ha
  · show mul (mul (x ^^^ y) b) c = _
    rw [mul_xor_left b h1 h2, mul_xor_left c (mul_lt b h1) (mul_lt b h2)]
  · refine add_ext (fun b => mul (mul (2 ^ i) b) c) (fun b => mul (2 ^ i) (mul b c)) (fun x y h1 h2 => ?_) (fun x y h1 h2 => ?_) (fun j hj => ?_) b hb
    · show mul (mul (2 ^ i) (x ^^^ y)) c = _
      rw [mul_xor_right, mul_xor_left c (mul_lt _ (two_pow_lt hi)) (mul_lt _ (two_pow_lt hi))]
    · show mul (2 ^ i) (mul (x ^^^ y) c) = _
      rw [mul_xor_left c h1 h2, mul_xor_right]
    · exact add_ext (fun c => mul (mul (2 ^ i) (2 ^ j)) c) (fun c => mul (2 ^ i) (mul (2 ^ j) c)) (fun x y _ _ => mul_xor_right _ _ _)
        (fun x y _ _ => by show mul (2 ^ i) (mul (2 ^ j) (x ^^^ y)) = _; rw [mul_xor_right, mul_xor_right]) (fun k hk => assoc_bit i hi j hj k hk) c hc
theorem mul_one_all : ∀ a, a < 256 → mul a 1 = a := by decide +kernel
theorem mul_one {a : Nat} (h : a < 256) : mul a 1 = a := mul_one_all a h
theorem mulS_zero (a k : Nat) : mulS a 0 k = 0 := by
  induction k with
  | zero => rfl
  | succ k ih => simp [mulS, ih]
theorem mul_zero (a : Nat) : mul a 0 = 0 := mulS_zero a 8
theorem zero_mul {a : Nat} (h : a < 256) : mul 0 a = 0 := by rw [mul_comm (by decide) h, mul_zero]
/-! powers and inverse -/
/-! the document's product: all out, then the rest -/
/-! logs -/
end Fld

theorem ret_int {k : IntKind} {a b : Int} (h : a = b) : Ending.returned (.int k a) = .returned (.int k b) := by rw [h]
theorem val_int {k : IntKind} {a b : Int} (h : a = b) : Value.int k a = .int k b := by rw [h]

/-! the document's -/
theorem wrap_i64_in (n : Int) (h1 : -9223372036854775808 ≤ n) (h2 : n ≤ 9223372036854775807) : IntKind.i64.wrap n = n := by
  rw [IntKind.wrap_i64]; omega
theorem ofInt_i64 (a : Nat) (ha : a < 2 ^ 63) : (BitVec.ofInt 64 (a : Int)).toNat = a := by
  rw [BitVec.ofInt_natCast, BitVec.toNat_ofNat]; exact Nat.mod_eq_of_lt (by omega)
/-! powers of 2 -/
/-! the contracts once more, over whole numbers: they fit whatever stands in a slot -/
end Go.Proofs.Ytnimehkfnpepfaa
