import Derived.Test.YtchbppidepapiaaDoorFInt
namespace Go.Proofs.YtchbppidepapiaaDoor
open Go.RowKit
set_option maxRecDepth 100000
set_option linter.unusedVariables false
set_option linter.unusedSimpArgs false

/-- how many of a number's lowest bits are ones -/
def pcN : Nat → Nat → Nat
  | 0, _ => 0
  | k + 1, x => x % 2 + pcN k (x / 2)
theorem pcN_le (k x : Nat) : pcN k x ≤ k := by
  induction k generalizing x with
  | zero => exact Nat.le_refl _
  | succ k ih => have := ih (x / 2); unfold pcN; omega
theorem pcN_succ (k x : Nat) : pcN (k + 1) x = pcN k x + x / 2 ^ k % 2 := by
  induction k generalizing x with
  | zero => simp [pcN]
  | succ k ih =>
    have h := ih (x / 2)
    have e : pcN (k + 1 + 1) x = x % 2 + pcN (k + 1) (x / 2) := rfl
    have e2 : pcN (k + 1) x = x % 2 + pcN k (x / 2) := rfl
    rw [e, h, e2, Nat.div_div_eq_div_mul, ← Nat.pow_succ', Nat.add_assoc]
theorem pcN_eight (j x : Nat) : pcN (j + 8) x = pcN 8 x + pcN j (x / 256) := by
  have e : pcN (j + 8) x = x % 2 + (x / 2 % 2 + (x / 2 / 2 % 2 + (x / 2 / 2 / 2 % 2 + (x / 2 / 2 / 2 / 2 % 2 + (x / 2 / 2 / 2 / 2 / 2 % 2 + (x / 2 / 2 / 2 / 2 / 2 / 2 % 2 + (x / 2 / 2 / 2 / 2 / 2 / 2 / 2 % 2 + pcN j (x / 2 / 2 / 2 / 2 / 2 / 2 / 2 / 2)))))))) := rfl
  have e2 : pcN 8 x = x % 2 + (x / 2 % 2 + (x / 2 / 2 % 2 + (x / 2 / 2 / 2 % 2 + (x / 2 / 2 / 2 / 2 % 2 + (x / 2 / 2 / 2 / 2 / 2 % 2 + (x / 2 / 2 / 2 / 2 / 2 / 2 % 2 + (x / 2 / 2 / 2 / 2 / 2 / 2 / 2 % 2 + 0))))))) := rfl
  have e3 : x / 2 / 2 / 2 / 2 / 2 / 2 / 2 / 2 = x / 256 := by simp only [Nat.div_div_eq_div_mul]
  rw [e, e2, e3]
  omega
theorem pcN_mod (x : Nat) : pcN 8 x = pcN 8 (x % 256) := by
  have e2 : ∀ x, pcN 8 x = x % 2 + (x / 2 % 2 + (x / 2 / 2 % 2 + (x / 2 / 2 / 2 % 2 + (x / 2 / 2 / 2 / 2 % 2 + (x / 2 / 2 / 2 / 2 / 2 % 2 + (x / 2 / 2 / 2 / 2 / 2 / 2 % 2 + (x / 2 / 2 / 2 / 2 / 2 / 2 / 2 % 2 + 0))))))) := fun _ => rfl
  rw [e2, e2]
  omega
/-- a mask of k bytes m -/
def mkB (m : Nat) : Nat → Nat
  | 0 => 0
  | k + 1 => 256 * mkB m k + m
theorem mkB_succ (m k : Nat) : mkB m (k + 1) = 256 * mkB m k + m := rfl
theorem and_split (y b Y m : Nat) (hb : b < 256) (hm : m < 256) : (256 * y + b) &&& (256 * Y + m) = 256 * (y &&& Y) + (b &&& m) := by
  have h1 : ((256 * y + b) &&& (256 * Y + m)) / 2 ^ 8 = y &&& Y := by
    rw [Nat.and_div_two_pow]
    rw [show (256 * y + b) / 2 ^ 8 = y by omega, show (256 * Y + m) / 2 ^ 8 = Y by omega]
  have h2 : ((256 * y + b) &&& (256 * Y + m)) % 2 ^ 8 = b &&& m := by
    rw [Nat.and_mod_two_pow]
    rw [show (256 * y + b) % 2 ^ 8 = b by omega, show (256 * Y + m) % 2 ^ 8 = m by omega]
  have h3 := Nat.div_add_mod ((256 * y + b) &&& (256 * Y + m)) (2 ^ 8)
  rw [h1, h2] at h3
  omega
def sw1 (k x : Nat) : Nat := (x / 2 &&& mkB 85 k) + (x &&& mkB 85 k)
def sw2 (k x : Nat) : Nat := (x / 4 &&& mkB 51 k) + (x &&& mkB 51 k)
def sw3 (k x : Nat) : Nat := (x / 16 + x) &&& mkB 15 k
def b1 (b : Nat) : Nat := (b / 2 &&& 85) + (b &&& 85)
def b2 (b : Nat) : Nat := (b / 4 &&& 51) + (b &&& 51)
theorem sw1_split (k y b : Nat) (hb : b < 256) : sw1 (k + 1) (256 * y + b) = 256 * sw1 k y + b1 b := by
  have h1 : (256 * y + b) / 2 = 256 * (y / 2) + (128 * (y % 2) + b / 2) := by omega
  have h2 : ∀ z, z < 2 → ∀ b, b < 256 → (128 * z + b / 2) &&& 85 = b / 2 &&& 85 := by decide +kernel
  unfold sw1 b1
  rw [mkB_succ, h1, and_split _ _ _ _ (by omega) (by omega), and_split _ _ _ _ hb (by omega), h2 _ (by omega) _ hb]
  omega
theorem sw2_split (k y b : Nat) (hb : b < 256) : sw2 (k + 1) (256 * y + b) = 256 * sw2 k y + b2 b := by
  have h1 : (256 * y + b) / 4 = 256 * (y / 4) + (64 * (y % 4) + b / 4) := by omega
  have h2 : ∀ z, z < 4 → ∀ b, b < 256 → (64 * z + b / 4) &&& 51 = b / 4 &&& 51 := by decide +kernel
  unfold sw2 b2
  rw [mkB_succ, h1, and_split _ _ _ _ (by omega) (by omega), and_split _ _ _ _ hb (by omega), h2 _ (by omega) _ hb]
  omega
theorem b12 : ∀ b, b < 256 → b1 b < 256 ∧ b2 (b1 b) % 16 ≤ 4 ∧ b2 (b1 b) / 16 ≤ 4 ∧ b2 (b1 b) % 16 + b2 (b1 b) / 16 = pcN 8 b := by decide +kernel
theorem and15 (x : Nat) : x &&& 15 = x % 16 := Nat.and_two_pow_sub_one_eq_mod x 4
theorem sw3_split (k y b : Nat) (hy : y % 16 ≤ 4) (hl : b % 16 ≤ 4) (hh : b / 16 ≤ 4) : sw3 (k + 1) (256 * y + b) = 256 * sw3 k y + (b % 16 + b / 16) := by
  have h1 : (256 * y + b) / 16 + (256 * y + b) = 256 * (y / 16 + y) + (16 * (y % 16) + b / 16 + b) := by omega
  unfold sw3
  rw [mkB_succ, h1, and_split _ _ _ _ (by omega) (by omega), and15]
  omega
/-- the ones of each byte -/
def pbN : Nat → Nat → Nat
  | 0, _ => 0
  | k + 1, x => 256 * pbN k (x / 256) + pcN 8 (x % 256)
theorem swar (k x : Nat) : sw3 k (sw2 k (sw1 k x)) = pbN k x ∧ sw2 k (sw1 k x) % 16 ≤ 4 := by
  induction k generalizing x with
  | zero => simp [sw1, sw2, sw3, mkB, pbN]
  | succ k ih =>
    obtain ⟨h1, h2⟩ := ih (x / 256)
    obtain ⟨q1, q2, q3, q4⟩ := b12 (x % 256) (by omega)
    have e : x = 256 * (x / 256) + x % 256 := by omega
    have e1 : sw1 (k + 1) x = 256 * sw1 k (x / 256) + b1 (x % 256) := by
      have := sw1_split k (x / 256) (x % 256) (by omega)
      rw [← e] at this
      exact this
    rw [e1, sw2_split _ _ _ q1, sw3_split _ _ _ h2 q2 q3, h1, q4]
    refine ⟨rfl, ?_⟩
    omega
theorem pb_eight (x : Nat) (h : x < 18446744073709551616) : ∃ p0 p1 p2 p3 p4 p5 p6 p7 : Nat, pbN 8 x = p0 + 256 * p1 + 65536 * p2 + 16777216 * p3 + 4294967296 * p4 + 1099511627776 * p5 + 281474976710656 * p6 + 72057594037927936 * p7 ∧ p0 ≤ 8 ∧ p1 ≤ 8 ∧ p2 ≤ 8 ∧ p3 ≤ 8 ∧ p4 ≤ 8 ∧ p5 ≤ 8 ∧ p6 ≤ 8 ∧ p7 ≤ 8 ∧ pcN 64 x = p0 + p1 + p2 + p3 + p4 + p5 + p6 + p7 := by
  have e := fun x j => pcN_eight j x
  refine ⟨pcN 8 x, pcN 8 (x / 256), pcN 8 (x / 256 / 256), pcN 8 (x / 256 / 256 / 256), pcN 8 (x / 256 / 256 / 256 / 256), pcN 8 (x / 256 / 256 / 256 / 256 / 256), pcN 8 (x / 256 / 256 / 256 / 256 / 256 / 256), pcN 8 (x / 256 / 256 / 256 / 256 / 256 / 256 / 256), ?_, pcN_le _ _, pcN_le _ _, pcN_le _ _, pcN_le _ _, pcN_le _ _, pcN_le _ _, pcN_le _ _, pcN_le _ _, ?_⟩
  · simp only [pbN, ← pcN_mod]
    omega
  · rw [e x 56, e _ 48, e _ 40, e _ 32, e _ 24, e _ 16, e _ 8]
    omega
/-- what is left of the reckoning, by bytes -/
theorem sw_end (y p0 p1 p2 p3 p4 p5 p6 p7 : Nat) (hy : y = p0 + 256 * p1 + 65536 * p2 + 16777216 * p3 + 4294967296 * p4 + 1099511627776 * p5 + 281474976710656 * p6 + 72057594037927936 * p7) (h0 : p0 ≤ 8) (h1 : p1 ≤ 8) (h2 : p2 ≤ 8) (h3 : p3 ≤ 8) (h4 : p4 ≤ 8) (h5 : p5 ≤ 8) (h6 : p6 ≤ 8) (h7 : p7 ≤ 8) :
    let a := y + y / 256; let b := a + a / 65536; let c := b + b / 4294967296
    c < 18446744073709551616 ∧ c % 128 = p0 + p1 + p2 + p3 + p4 + p5 + p6 + p7 := by
  intro a b c
  obtain ⟨A, hA⟩ : ∃ A, A = a := ⟨_, rfl⟩
  have ea : A = (p0 + p1) + 256 * (p1 + p2) + 65536 * (p2 + p3) + 16777216 * (p3 + p4) + 4294967296 * (p4 + p5) + 1099511627776 * (p5 + p6) + 281474976710656 * (p6 + p7) + 72057594037927936 * p7 := by
    rw [hA]; show y + y / 256 = _; omega
  have eb : b = (p0 + p1 + p2 + p3) + 256 * (p1 + p2 + p3 + p4) + 65536 * (p2 + p3 + p4 + p5) + 16777216 * (p3 + p4 + p5 + p6) + 4294967296 * (p4 + p5 + p6 + p7) + 1099511627776 * (p5 + p6 + p7) + 281474976710656 * (p6 + p7) + 72057594037927936 * p7 := by
    show a + a / 65536 = _; rw [← hA]; omega
  have ec : c = b + b / 4294967296 := rfl
  clear_value a b c
  clear hA ea
  have ed : b / 4294967296 = (p4 + p5 + p6 + p7) + 256 * (p5 + p6 + p7) + 65536 * (p6 + p7) + 16777216 * p7 := by omega
  rw [ed, eb] at ec
  clear ed eb
  constructor <;> omega
end Go.Proofs.YtchbppidepapiaaDoor
