import Derived.Test.YthdjpbfknbafgaaRows
import Derived.WalkKit
import Derived.WalkSpells
import Derived.WalkLawsBesides
import Derived.Laws.BitsAllLaws
import Derived.Outline
namespace Go.Proofs.Ythdjpbfknbafgaa
open Go.RowKit
set_option maxRecDepth 100000
set_option linter.unusedVariables false
set_option linter.unusedSimpArgs false

/-
  The field of 256 numbers, plainly: products by doubling, the document's product (all out, then the rest), inverses, powers of 2. No Go in sight.
-/
namespace Fld
/-- x times 2 -/
def dbl (a : Nat) : Nat := if a < 128 then 2 * a else (2 * a % 256) ^^^ 135
def dblN : Nat → Nat → Nat
  | 0, a => a
  | k + 1, a => dbl (dblN k a)
def mulS (a b : Nat) : Nat → Nat
  | 0 => 0
  | k + 1 => mulS a b k ^^^ (if b.testBit k then dblN k a else 0)
def mul (a b : Nat) : Nat := mulS a b 8

theorem xor_lt {a b : Nat} (ha : a < 256) (hb : b < 256) : a ^^^ b < 256 := Nat.xor_lt_two_pow (n := 8) ha hb
theorem dbl_lt {a : Nat} (h : a < 256) : dbl a < 256 := by
  unfold dbl; split
  · omega
  · exact xor_lt (by omega) (by decide)
theorem dblN_lt {a : Nat} (k : Nat) (h : a < 256) : dblN k a < 256 := by
  induction k with
  | zero => exact h
  | succ k ih => exact dbl_lt ih
theorem mulS_lt {a : Nat} (b k : Nat) (h : a < 256) : mulS a b k < 256 := by
  induction k with
  | zero => simp [mulS]
  | succ k ih =>
    unfold mulS; split
    · exact xor_lt ih (dblN_lt k h)
    · exact xor_lt ih (by decide)
theorem mul_lt {a : Nat} (b : Nat) (h : a < 256) : mul a b < 256 := mulS_lt b 8 h

theorem xor4 (a b c d : Nat) : (a ^^^ b) ^^^ (c ^^^ d) = (a ^^^ c) ^^^ (b ^^^ d) := by
  rw [Nat.xor_assoc, Nat.xor_assoc, ← Nat.xor_assoc b, ← Nat.xor_assoc c, Nat.xor_comm b c]
theorem dbl_alt : ∀ a, a < 256 → dbl a = (a <<< 1) ^^^ (if a.testBit 7 then 391 else 0) := by decide +kernel
theorem dbl_xor {a b : Nat} (ha : a < 256) (hb : b < 256) : dbl (a ^^^ b) = dbl a ^^^ dbl b := by
  rw [dbl_alt _ (xor_lt ha hb), dbl_alt a ha, dbl_alt b hb, xor4, Nat.shiftLeft_xor_distrib, Nat.testBit_xor]
  congr 1
  cases a.testBit 7 <;> cases b.testBit 7 <;> simp
theorem dblN_xor {a b : Nat} (k : Nat) (ha : a < 256) (hb : b < 256) : dblN k (a ^^^ b) = dblN k a ^^^ dblN k b := by
  induction k with
  | zero => rfl
  | succ k ih => simp only [dblN]; rw [ih, dbl_xor (dblN_lt k ha) (dblN_lt k hb)]
theorem mulS_xor_left {a b : Nat} (c k : Nat) (ha : a < 256) (hb : b < 256) : mulS (a ^^^ b) c k = mulS a c k ^^^ mulS b c k := by
  induction k with
  | zero => simp [mulS]
  | succ k ih =>
    simp only [mulS]; rw [ih]
    by_cases h : c.testBit k
    · simp only [h, if_true]; rw [dblN_xor k ha hb, xor4]
    · simp only [h]; simp
theorem mulS_xor_right (a b c k : Nat) : mulS a (b ^^^ c) k = mulS a b k ^^^ mulS a c k := by
  induction k with
  | zero => simp [mulS]
  | succ k ih =>
    simp only [mulS, Nat.testBit_xor]; rw [ih, xor4]
    congr 1
    cases b.testBit k <;> cases c.testBit k <;> simp
theorem mul_xor_left {a b : Nat} (c : Nat) (ha : a < 256) (hb : b < 256) : mul (a ^^^ b) c = mul a c ^^^ mul b c := mulS_xor_left c 8 ha hb
theorem mul_xor_right (a b c : Nat) : mul a (b ^^^ c) = mul a b ^^^ mul a c := mulS_xor_right a b c 8

/-! two additive functions that agree at the bits agree -/
theorem low_all : ∀ a, a < 256 → a = 0 ∨ ∃ i, i < 8 ∧ 2 ^ i < 256 ∧ a ^^^ 2 ^ i < a := by decide +kernel
theorem add_ext (f g : Nat → Nat) (hf : ∀ a b, a < 256 → b < 256 → f (a ^^^ b) = f a ^^^ f b) (hg : ∀ a b, a < 256 → b < 256 → g (a ^^^ b) = g a ^^^ g b)
    (h : ∀ i, i < 8 → f (2 ^ i) = g (2 ^ i)) : ∀ a, a < 256 → f a = g a := by
  have z : ∀ f : Nat → Nat, (∀ a b, a < 256 → b < 256 → f (a ^^^ b) = f a ^^^ f b) → f 0 = 0 := by
    intro f hf
    have := hf 0 0 (by decide) (by decide)
    simpa using this
  intro a
  induction a using Nat.strongRecOn with
  | ind a ih =>
    intro ha
    rcases low_all a ha with rfl | ⟨i, hi, hp, hlt⟩
    · rw [z f hf, z g hg]
    · have e : a = 2 ^ i ^^^ (a ^^^ 2 ^ i) := by rw [Nat.xor_comm a, ← Nat.xor_assoc, Nat.xor_self, Nat.zero_xor]
      have hl : a ^^^ 2 ^ i < 256 := by omega
      rw [e, hf _ _ hp hl, hg _ _ hp hl, h i hi, ih _ hlt hl]
theorem comm_bit : ∀ i, i < 8 → ∀ b, b < 256 → mul (2 ^ i) b = mul b (2 ^ i) := by decide +kernel
theorem mul_comm {a b : Nat} (ha : a < 256) (hb : b < 256) : mul a b = mul b a :=
  add_ext (fun a => mul a b) (fun a => mul b a) (fun _ _ h1 h2 => mul_xor_left b h1 h2) (fun _ _ _ _ => mul_xor_right b _ _) (fun i hi => comm_bit i hi b hb) a ha
theorem assoc_bit : ∀ i, i < 8 → ∀ j, j < 8 → ∀ k, k < 8 → mul (mul (2 ^ i) (2 ^ j)) (2 ^ k) = mul (2 ^ i) (mul (2 ^ j) (2 ^ k)) := by decide +kernel
theorem two_pow_lt {i : Nat} (h : i < 8) : 2 ^ i < 256 := Nat.pow_lt_pow_right (by decide) h
theorem mul_assoc {a b c : Nat} (ha : a < 256) (hb : b < 256) (hc : c < 256) : mul (mul a b) c = mul a (mul b c) := by
  refine add_ext (fun a => mul (mul a b) c) (fun a => mul a (mul b c)) (fun x y h1 h2 => ?_) (fun x y h1 h2 => mul_xor_left _ h1 h2) (fun i hi => ?_) a ha
  · show mul (mul (x ^^^ y) b) c = _
    rw [mul_xor_left b h1 h2, mul_xor_left c (mul_lt b h1) (mul_lt b h2)]
  · refine add_ext (fun b => mul (mul (2 ^ i) b) c) (fun b => mul (2 ^ i) (mul b c)) (fun x y h1 h2 => ?_) (fun x y h1 h2 => ?_) (fun j hj => ?_) b hb
    · show mul (mul (2 ^ i) (x ^^^ y)) c = _
      rw [mul_xor_right, mul_xor_left c (mul_lt _ (two_pow_lt hi)) (mul_lt _ (two_pow_lt hi))]
    · show mul (2 ^ i) (mul (x ^^^ y) c) = _
      rw [mul_xor_left c h1 h2, mul_xor_right]
    · exact add_ext (fun c => mul (mul (2 ^ i) (2 ^ j)) c) (fun c => mul (2 ^ i) (mul (2 ^ j) c)) (fun x y _ _ => mul_xor_right _ _ _)
        (fun x y _ _ => by show mul (2 ^ i) (mul (2 ^ j) (x ^^^ y)) = _; rw [mul_xor_right, mul_xor_right]) (fun k hk => assoc_bit i hi j hj k hk) c hc
theorem mul_one_all : ∀ a, a < 256 → mul a 1 = a := by decide +kernel
theorem mul_one {a : Nat} (h : a < 256) : mul a 1 = a := mul_one_all a h
theorem one_mul {a : Nat} (h : a < 256) : mul 1 a = a := by rw [mul_comm (by decide) h, mul_one h]
theorem mulS_zero (a k : Nat) : mulS a 0 k = 0 := by
  induction k with
  | zero => rfl
  | succ k ih => simp [mulS, ih]
theorem mul_zero (a : Nat) : mul a 0 = 0 := mulS_zero a 8
theorem zero_mul {a : Nat} (h : a < 256) : mul 0 a = 0 := by rw [mul_comm (by decide) h, mul_zero]
theorem two_mul_all : ∀ a, a < 256 → mul a 2 = dbl a := by decide +kernel
theorem mul_two {a : Nat} (h : a < 256) : mul a 2 = dbl a := two_mul_all a h

/-! powers and inverse -/
def pw (b : Nat) : Nat → Nat
  | 0 => 1
  | n + 1 => mul (pw b n) b
theorem pw_lt (b n : Nat) : b < 256 → pw b n < 256 := by
  intro hb
  cases n with
  | zero => show 1 < 256; decide
  | succ n => exact mul_lt _ (pw_lt b n hb)
theorem pw_add (b m n : Nat) (hb : b < 256) : pw b (m + n) = mul (pw b m) (pw b n) := by
  induction n with
  | zero => show pw b m = mul (pw b m) 1; rw [mul_one (pw_lt b m hb)]
  | succ n ih => show mul (pw b (m + n)) b = mul (pw b m) (mul (pw b n) b); rw [ih, mul_assoc (pw_lt b m hb) (pw_lt b n hb) hb]
/-- seven squares: (the square, the product) -/
def invN (a : Nat) : Nat → Nat × Nat
  | 0 => (a, 1)
  | k + 1 => (mul (invN a k).1 (invN a k).1, mul (invN a k).2 (mul (invN a k).1 (invN a k).1))
def inv (a : Nat) : Nat := (invN a 7).2
theorem invN_eq (a : Nat) (h : a < 256) : ∀ k, (invN a k).1 = pw a (2 ^ k) ∧ (invN a k).2 = pw a (2 ^ (k + 1) - 2) := by
  intro k
  induction k with
  | zero => exact ⟨by show a = mul 1 a; rw [one_mul h], rfl⟩
  | succ k ih =>
    obtain ⟨h1, h2⟩ := ih
    have e : (invN a (k + 1)).1 = pw a (2 ^ (k + 1)) := by
      show mul (invN a k).1 (invN a k).1 = _
      rw [h1, ← pw_add a _ _ h]; congr 1; rw [Nat.pow_succ]; omega
    refine ⟨e, ?_⟩
    show mul (invN a k).2 (invN a (k + 1)).1 = _
    rw [h2, e, ← pw_add a _ _ h]; congr 1
    have : 2 ≤ 2 ^ (k + 1) := by rw [Nat.pow_succ]; have := Nat.one_le_two_pow (n := k); omega
    rw [Nat.pow_succ 2 (k + 1)]; omega
theorem inv_eq {a : Nat} (h : a < 256) : inv a = pw a 254 := (invN_eq a h 7).2
theorem inv_lt {a : Nat} (h : a < 256) : inv a < 256 := by rw [inv_eq h]; exact pw_lt _ _ h
theorem inv_all : ∀ a, a < 256 → a ≠ 0 → mul (inv a) a = 1 := by decide +kernel
theorem inv_mul {a : Nat} (h : a < 256) (h0 : a ≠ 0) : mul (inv a) a = 1 := inv_all a h h0
theorem mul_inv {a : Nat} (h : a < 256) (h0 : a ≠ 0) : mul a (inv a) = 1 := by rw [mul_comm h (inv_lt h), inv_mul h h0]
theorem mul_eq_zero {a b : Nat} (ha : a < 256) (hb : b < 256) (h : mul a b = 0) : a = 0 ∨ b = 0 := by
  by_cases h0 : b = 0
  · exact .inr h0
  · left
    have e : mul (mul a b) (inv b) = a := by rw [mul_assoc ha hb (inv_lt hb), mul_inv hb h0, mul_one ha]
    rw [h, zero_mul (inv_lt hb)] at e
    exact e.symm
/-- q * b, n times -/
def mulN (b : Nat) : Nat → Nat → Nat
  | 0, q => q
  | n + 1, q => mul (mulN b n q) b
theorem mulN_eq (b n q : Nat) (hb : b < 256) (hq : q < 256) : mulN b n q = mul q (pw b n) := by
  induction n with
  | zero => show q = mul q 1; rw [mul_one hq]
  | succ n ih => show mul (mulN b n q) b = mul q (mul (pw b n) b); rw [ih, mul_assoc hq (pw_lt b n hb) hb]

/-! the document's product: all out, then the rest -/
def clS (a b : Nat) : Nat → Nat
  | 0 => 0
  | k + 1 => clS a b k ^^^ (if b.testBit k then a <<< k else 0)
/-- k rounds: i = 14, 13, .. -/
def redN (n : Nat) : Nat → Nat
  | 0 => n
  | k + 1 => if (redN n k).testBit (14 - k) then redN n k ^^^ (391 <<< (6 - k)) else redN n k
def rmul (a b : Nat) : Nat := redN (clS a b 8) 7 % 256
theorem clS_xor_left (a b c k : Nat) : clS (a ^^^ b) c k = clS a c k ^^^ clS b c k := by
  induction k with
  | zero => simp [clS]
  | succ k ih =>
    simp only [clS]; rw [ih]
    by_cases h : c.testBit k
    · simp only [h, if_true]; rw [Nat.shiftLeft_xor_distrib, xor4]
    · simp only [h]; simp
theorem redN_xor (m n k : Nat) : redN (m ^^^ n) k = redN m k ^^^ redN n k := by
  induction k with
  | zero => rfl
  | succ k ih =>
    simp only [redN]; rw [ih, Nat.testBit_xor]
    generalize redN m k = x; generalize redN n k = y; generalize 391 <<< (6 - k) = z; generalize 14 - k = j
    cases x.testBit j <;> cases y.testBit j <;> simp
    · rw [Nat.xor_assoc]
    · rw [Nat.xor_assoc, Nat.xor_assoc, Nat.xor_comm y z]
    · rw [xor4, Nat.xor_self]; simp
theorem mod_xor (a b : Nat) : (a ^^^ b) % 256 = (a % 256) ^^^ (b % 256) := Nat.xor_mod_two_pow (n := 8)
theorem rmul_bit : ∀ i, i < 8 → ∀ b, b < 256 → rmul (2 ^ i) b = mul (2 ^ i) b := by decide +kernel
theorem rmul_eq {a b : Nat} (ha : a < 256) (hb : b < 256) : rmul a b = mul a b :=
  add_ext (fun a => rmul a b) (fun a => mul a b) (fun x y _ _ => by show redN (clS (x ^^^ y) b 8) 7 % 256 = _; rw [clS_xor_left, redN_xor, mod_xor]; rfl) (fun _ _ h1 h2 => mul_xor_left b h1 h2) (fun i hi => rmul_bit i hi b hb) a ha

/-! logs -/
theorem dblN_add (m n a : Nat) : dblN (m + n) a = dblN m (dblN n a) := by
  induction m with
  | zero => rw [Nat.zero_add]; rfl
  | succ m ih => rw [Nat.succ_add]; show dbl (dblN (m + n) a) = dbl (dblN m (dblN n a)); rw [ih]
theorem dblN_eq (n a : Nat) (h : a < 256) : dblN n a = mul a (dblN n 1) := by
  induction n with
  | zero => show a = mul a 1; rw [mul_one h]
  | succ n ih =>
    show dbl (dblN n a) = mul a (dbl (dblN n 1))
    have h1 := dblN_lt n (show 1 < 256 by decide)
    rw [← mul_two (dblN_lt n h), ← mul_two h1, ih, mul_assoc h h1 (by decide)]
theorem period : dblN 255 1 = 1 := by decide +kernel
theorem dblN_mod (n : Nat) : dblN (n % 255) 1 = dblN n 1 := by
  have h : ∀ q r, dblN (r + 255 * q) 1 = dblN r 1 := by
    intro q r
    induction q with
    | zero => rfl
    | succ q ih => rw [Nat.mul_succ, ← Nat.add_assoc, dblN_add, period, ih]
  conv => rhs; rw [← Nat.mod_add_div n 255]
  rw [h]
theorem pow_mul (m n : Nat) : mul (dblN m 1) (dblN n 1) = dblN (n + m) 1 := by
  rw [dblN_add, dblN_eq n (dblN m 1) (dblN_lt m (by decide))]
/-- the first n < k with 2^n = a -/
def logN (a : Nat) : Nat → Option Nat
  | 0 => none
  | k + 1 => match logN a k with
    | some n => some n
    | none => if dblN k 1 = a then some k else none
theorem nonzero_all : ∀ n, n < 255 → dblN n 1 ≠ 0 := by decide +kernel
theorem pow_ne_zero (n : Nat) : dblN n 1 ≠ 0 := by rw [← dblN_mod]; exact nonzero_all _ (Nat.mod_lt _ (by decide))
theorem pow_ne_one : ∀ n, n < 254 → dblN (n + 1) 1 ≠ 1 := by decide +kernel
theorem pow_inj {m n : Nat} (hm : m < n) (hn : n < 255) : dblN m 1 ≠ dblN n 1 := by
  intro h
  have e := dblN_add (n - m) m 1
  rw [show n - m + m = n by omega, ← h, dblN_eq (n - m) _ (dblN_lt m (by decide))] at e
  have hl := dblN_lt m (show 1 < 256 by decide)
  have h1 : mul (inv (dblN m 1)) (dblN m 1) = mul (mul (inv (dblN m 1)) (dblN m 1)) (dblN (n - m) 1) := by
    rw [mul_assoc (inv_lt hl) hl (dblN_lt _ (by decide)), ← e]
  rw [inv_mul hl (pow_ne_zero m), one_mul (dblN_lt _ (by decide))] at h1
  have := pow_ne_one (n - m - 1) (by omega)
  rw [show n - m - 1 + 1 = n - m by omega] at this
  exact this h1.symm
/-- the powers, one behind the other: does a come among the k from p on? -/
def comes (a : Nat) : Nat → Nat → Bool
  | 0, _ => false
  | k + 1, p => p == a || comes a k (dbl p)
theorem comes_all : ∀ a, a < 256 → a = 0 ∨ comes a 255 1 = true := by decide +kernel
theorem of_comes (a k p : Nat) (h : comes a k p = true) : ∃ n, n < k ∧ dblN n p = a := by
  induction k generalizing p with
  | zero => cases h
  | succ k ih =>
    simp only [comes, Bool.or_eq_true, beq_iff_eq] at h
    rcases h with h | h
    · exact ⟨0, by omega, h⟩
    · obtain ⟨n, hn, e⟩ := ih _ h
      exact ⟨n + 1, by omega, by rw [dblN_add n 1]; exact e⟩
theorem some_log {a : Nat} (h : a < 256) (h0 : a ≠ 0) : ∃ n, n < 255 ∧ dblN n 1 = a := by
  rcases comes_all a h with e | e
  · exact absurd e h0
  · exact of_comes a 255 1 e
end Fld

theorem ret_int {k : IntKind} {a b : Int} (h : a = b) : Ending.returned (.int k a) = .returned (.int k b) := by rw [h]
theorem val_int {k : IntKind} {a b : Int} (h : a = b) : Value.int k a = .int k b := by rw [h]

theorem dbl_hi (a : Nat) (h : ¬ a < 128) : bits .xor .u8 ((a : Int) * 2 % 256) 135 = (Fld.dbl a : Int) := by
  have e : ((a : Int) * 2 % 256) = ((2 * a % 256 : Nat) : Int) := by omega
  rw [e]
  refine (u8_xor_nat (2 * a % 256) 135 (by omega) (by decide)).trans ?_
  unfold Fld.dbl
  rw [if_neg h]
theorem dbl_lo (a : Nat) (h : a < 128) : bits .xor .u8 ((a : Int) * 2) (bits .and .u8 135 0) = (Fld.dbl a : Int) := by
  have e : ((a : Int) * 2) = ((2 * a : Nat) : Int) := by omega
  have e0 : bits .and .u8 135 0 = ((0 : Nat) : Int) := by decide
  rw [e, e0]
  refine (u8_xor_nat (2 * a) 0 (by omega) (by decide)).trans ?_
  unfold Fld.dbl
  rw [if_pos h, Nat.xor_zero]
theorem bit_u8 (b k : Nat) (hb : b < 256) : (bits .and .u8 ((b : Int) / 2 ^ k) 1 == 1) = b.testBit k := by
  have e : ((b : Int) / 2 ^ k) = ((b / 2 ^ k : Nat) : Int) := by simp
  have hl : b / 2 ^ k < 256 := Nat.lt_of_le_of_lt (Nat.div_le_self _ _) hb
  have := u8_and_nat (b / 2 ^ k) 1 hl (by decide)
  rw [e]; simp only [Int.natCast_one] at this; rw [this, Nat.testBit_eq_decide_div_mod_eq, Nat.and_one_is_mod]
  by_cases h : b / 2 ^ k % 2 = 1
  · rw [h]; rfl
  · have h0 : b / 2 ^ k % 2 = 0 := by omega
    rw [h0]; rfl
theorem bit_one (b k : Nat) (hb : b < 256) (h : b.testBit k = true) : bits .and .u8 ((b : Int) / 2 ^ k) 1 = 1 := by
  have := bit_u8 b k hb; rw [h] at this; simpa using this
theorem bit_nought (b k : Nat) (hb : b < 256) (h : ¬ b.testBit k = true) : bits .and .u8 ((b : Int) / 2 ^ k) 1 = 0 := by
  have e : ((b : Int) / 2 ^ k) = ((b / 2 ^ k : Nat) : Int) := by simp
  have hl : b / 2 ^ k < 256 := Nat.lt_of_le_of_lt (Nat.div_le_self _ _) hb
  have := u8_and_nat (b / 2 ^ k) 1 hl (by decide)
  rw [e]; simp only [Int.natCast_one] at this; rw [this, Nat.and_one_is_mod]
  rw [Nat.testBit_eq_decide_div_mod_eq] at h
  simp at h; omega
theorem u8_and_full (a : Nat) (h : a < 256) : bits .and .u8 (a : Int) 255 = (a : Int) := by
  have := u8_and_nat a 255 h (by decide)
  refine this.trans ?_
  have e : (255 : Nat) = 2 ^ 8 - 1 := rfl
  rw [e, Nat.and_two_pow_sub_one_eq_mod, Nat.mod_eq_of_lt (by omega)]
theorem u8_and_none (a : Nat) (h : a < 256) : bits .and .u8 (a : Int) 0 = 0 := by
  have := u8_and_nat a 0 h (by decide)
  refine this.trans ?_
  simp
theorem u8_xor_none (a : Nat) (h : a < 256) : bits .xor .u8 (a : Int) 0 = (a : Int) := by
  have := u8_xor_nat a 0 h (by decide)
  refine this.trans ?_
  simp
theorem invN_lt (a : Nat) (h : a < 256) (k : Nat) : (Fld.invN a k).1 < 256 ∧ (Fld.invN a k).2 < 256 := by
  rw [(Fld.invN_eq a h k).1, (Fld.invN_eq a h k).2]; exact ⟨Fld.pw_lt _ _ h, Fld.pw_lt _ _ h⟩
/-- what Div gives -/
def divV (a b : Nat) : Nat := if b = 0 then 0 else Fld.mul a (Fld.inv b)
/-! the document's -/
theorem wrap_i64_in (n : Int) (h1 : -9223372036854775808 ≤ n) (h2 : n ≤ 9223372036854775807) : IntKind.i64.wrap n = n := by
  rw [IntKind.wrap_i64]; omega
theorem ofInt_i64 (a : Nat) (ha : a < 2 ^ 63) : (BitVec.ofInt 64 (a : Int)).toNat = a := by
  rw [BitVec.ofInt_natCast, BitVec.toNat_ofNat]; exact Nat.mod_eq_of_lt (by omega)
theorem i64_xor_nat (a b : Nat) (ha : a < 2 ^ 63) (hb : b < 2 ^ 63) : bits .xor .i64 (a : Int) (b : Int) = ((a ^^^ b : Nat) : Int) := by
  have hx : a ^^^ b < 2 ^ 63 := Nat.xor_lt_two_pow (by omega) (by omega)
  show IntKind.i64.wrap ((BitVec.ofInt 64 (a : Int) ^^^ BitVec.ofInt 64 (b : Int)).toNat : Int) = _
  rw [BitVec.toNat_xor, ofInt_i64 a ha, ofInt_i64 b hb, wrap_i64_in _ (by omega) (by omega)]
theorem i64_and_nat (a b : Nat) (ha : a < 2 ^ 63) (hb : b < 2 ^ 63) : bits .and .i64 (a : Int) (b : Int) = ((a &&& b : Nat) : Int) := by
  have hx : a &&& b < 2 ^ 63 := Nat.and_lt_two_pow _ (by omega)
  show IntKind.i64.wrap ((BitVec.ofInt 64 (a : Int) &&& BitVec.ofInt 64 (b : Int)).toNat : Int) = _
  rw [BitVec.toNat_and, ofInt_i64 a ha, ofInt_i64 b hb, wrap_i64_in _ (by omega) (by omega)]
theorem bit_i64 (b k : Nat) (hb : b < 2 ^ 63) : (bits .and .i64 ((b : Int) / 2 ^ k) 1 == 1) = b.testBit k := by
  have e : ((b : Int) / 2 ^ k) = ((b / 2 ^ k : Nat) : Int) := by simp
  have hl : b / 2 ^ k < 2 ^ 63 := Nat.lt_of_le_of_lt (Nat.div_le_self _ _) hb
  have := i64_and_nat (b / 2 ^ k) 1 hl (by decide)
  rw [e]; simp only [Int.natCast_one] at this; rw [this, Nat.testBit_eq_decide_div_mod_eq, Nat.and_one_is_mod]
  by_cases h : b / 2 ^ k % 2 = 1
  · rw [h]; rfl
  · have h0 : b / 2 ^ k % 2 = 0 := by omega
    rw [h0]; rfl
theorem clS_lt (a b k : Nat) (ha : a < 256) (hk : k ≤ 8) : Fld.clS a b k < 65536 := by
  induction k with
  | zero => simp [Fld.clS]
  | succ k ih =>
    have hs : a <<< k < 2 ^ 16 := by
      rw [Nat.shiftLeft_eq]
      have : 2 ^ k ≤ 2 ^ 7 := Nat.pow_le_pow_right (by decide) (by omega)
      have := Nat.mul_le_mul (Nat.le_of_lt ha) this
      omega
    unfold Fld.clS; split
    · exact Nat.xor_lt_two_pow (n := 16) (ih (by omega)) hs
    · exact Nat.xor_lt_two_pow (n := 16) (ih (by omega)) (by decide)
theorem redN_lt (n k : Nat) (hn : n < 65536) (hk : k ≤ 7) : Fld.redN n k < 65536 := by
  induction k with
  | zero => exact hn
  | succ k ih =>
    have hs : 391 <<< (6 - k) < 2 ^ 16 := by
      rw [Nat.shiftLeft_eq]
      have : 2 ^ (6 - k) ≤ 2 ^ 6 := Nat.pow_le_pow_right (by decide) (by omega)
      omega
    unfold Fld.redN; split
    · exact Nat.xor_lt_two_pow (n := 16) (ih (by omega)) hs
    · exact ih (by omega)
theorem xor_shl (c a k : Nat) (hc : c < 65536) (ha : a < 65536) (hk : k ≤ 8) : bits .xor .i64 (c : Int) (wrap64 ((a : Int) * 2 ^ k)) = ((c ^^^ (a <<< k) : Nat) : Int) := by
  have hs : a * 2 ^ k < 2 ^ 32 := by
    have : 2 ^ k ≤ 2 ^ 8 := Nat.pow_le_pow_right (by decide) hk
    have := Nat.mul_le_mul (Nat.le_of_lt ha) this
    omega
  have e : ((a : Int) * 2 ^ k) = ((a * 2 ^ k : Nat) : Int) := by simp
  rw [e, IntWalk.wrap64_in _ ⟨by omega, by omega⟩, i64_xor_nat _ _ (by omega) (by omega), Nat.shiftLeft_eq]
theorem mulN_lt (b n q : Nat) (hb : b < 256) (hq : q < 256) : Fld.mulN b n q < 256 := by
  rw [Fld.mulN_eq b n q hb hq]; exact Fld.mul_lt _ hq
/-! powers of 2 -/
/-- 2 to the n, n whatever -/
def pow2 (n : Int) : Nat := Fld.dblN (n % 255).toNat 1
theorem pow2_lt (n : Int) : pow2 n < 256 := Fld.dblN_lt _ (by decide)
theorem pow2_of (n : Int) (m : Nat) (e : m = (n % 255).toNat) : (Fld.dblN m 1 : Int) = (pow2 n : Int) := by rw [e]; rfl
/-! the contracts once more, over whole numbers: they fit whatever stands in a slot -/
def mulI (x y : Int) : Int := (Fld.mul x.toNat y.toNat : Nat)
theorem mulI_nat (a b : Nat) : mulI a b = (Fld.mul a b : Nat) := by simp [mulI]
theorem mulI_bd (x y : Int) (hx : 0 ≤ x) (hx' : x < 256) : 0 ≤ mulI x y ∧ mulI x y < 256 := by
  have := Fld.mul_lt y.toNat (a := x.toNat) (by omega)
  unfold mulI; omega
def divI (x y : Int) : Int := (divV x.toNat y.toNat : Nat)
def nzB (x : Int) : Bool := !(x.toNat == 0)
theorem divV_lt (a b : Nat) (ha : a < 256) : divV a b < 256 := by
  unfold divV; split
  · decide
  · exact Fld.mul_lt _ ha
theorem divI_bd (x y : Int) (hx : 0 ≤ x) (hx' : x < 256) : 0 ≤ divI x y ∧ divI x y < 256 := by
  have := divV_lt x.toNat y.toNat (by omega)
  unfold divI; omega
def logV (a : Nat) : Nat := (Fld.logN a 255).getD 0
theorem logN_none (a k : Nat) (h : ∀ m, m < k → Fld.dblN m 1 ≠ a) : Fld.logN a k = none := by
  induction k with
  | zero => rfl
  | succ k ih =>
    unfold Fld.logN
    rw [ih (fun m hm => h m (by omega))]
    exact if_neg (h k (by omega))
theorem logN_some (a k n : Nat) (hn : n < k) (e : Fld.dblN n 1 = a) (h : ∀ m, m < n → Fld.dblN m 1 ≠ a) : Fld.logN a k = some n := by
  induction k with
  | zero => omega
  | succ k ih =>
    unfold Fld.logN
    by_cases hk : n < k
    · rw [ih hk]
    · obtain rfl : n = k := by omega
      rw [logN_none a n h]
      exact if_pos e
theorem logV_zero : logV 0 = 0 := by
  unfold logV
  rw [logN_none 0 255 (fun m _ => Fld.pow_ne_zero m)]
  rfl
theorem logV_some (a : Nat) (ha : a < 256) (h0 : a ≠ 0) : logV a < 255 ∧ Fld.dblN (logV a) 1 = a := by
  obtain ⟨n, hn, e⟩ := Fld.some_log ha h0
  unfold logV
  rw [logN_some a 255 n hn e (fun m hm => by rw [← e]; exact Fld.pow_inj hm hn)]
  exact ⟨hn, e⟩
theorem logV_pow (n : Nat) (hn : n < 255) : logV (Fld.dblN n 1) = n := by
  obtain ⟨h1, h2⟩ := logV_some (Fld.dblN n 1) (Fld.dblN_lt n (by decide)) (Fld.pow_ne_zero n)
  rcases Nat.lt_trichotomy (logV (Fld.dblN n 1)) n with h | h | h
  · exact absurd h2 (Fld.pow_inj h hn)
  · exact h
  · exact absurd h2.symm (Fld.pow_inj h h1)
def logI (x : Int) : Int := (logV x.toNat : Nat)
theorem divV_back (a b : Nat) (ha : a < 256) (hb : b < 256) (h0 : b ≠ 0) : Fld.mul (divV a b) b = a := by
  unfold divV; rw [if_neg h0, Fld.mul_assoc ha (Fld.inv_lt hb) hb, Fld.inv_mul hb h0, Fld.mul_one ha]
end Go.Proofs.Ythdjpbfknbafgaa
