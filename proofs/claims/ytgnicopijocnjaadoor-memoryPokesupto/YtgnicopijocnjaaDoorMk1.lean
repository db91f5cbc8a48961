import Derived.Test.YtgnicopijocnjaaDoorMk0
import Derived.OwnWalk
namespace Go.Proofs.YtgnicopijocnjaaDoor
open Go.RowKit
set_option maxRecDepth 100000
set_option linter.unusedVariables false
set_option linter.unusedSimpArgs false

section
/-- how many of a number's lowest bits are ones -/
def pcN : Nat → Nat → Nat
  | 0, _ => 0
  | k + 1, x => x % 2 + pcN k (x / 2)
theorem pcN_le (k x : Nat) : pcN k x ≤ k := by
  induction k generalizing x with
  | zero => exact Nat.le_refl _
  | succ k ih => have := ih (x / 2); unfold pcN; omega
theorem pcN_succ (k x : Nat) : pcN (k + 1) x = pcN k x + x / 2 ^ k % 2 := by
  induction k generalizing x with
  | zero => simp [pcN]
  | succ k ih =>
    have h := ih (x / 2)
    have e : pcN (k + 1 + 1) x = x % 2 + pcN (k + 1) (x / 2) := rfl
    have e2 : pcN (k + 1) x = x % 2 + pcN k (x / 2) := rfl
    rw [e, h, e2, Nat.div_div_eq_div_mul, ← Nat.pow_succ', Nat.add_assoc]
theorem pcN_eight (j x : Nat) : pcN (j + 8) x = pcN 8 x + pcN j (x / 256) := by
  have e : pcN (j + 8) x = x % 2 + (x / 2 % 2 + (x / 2 / 2 % 2 + (x / 2 / 2 / 2 % 2 + (x / 2 / 2 / 2 / 2 % 2 + (x / 2 / 2 / 2 / 2 / 2 % 2 + (x / 2 / 2 / 2 / 2 / 2 / 2 % 2 + (x / 2 / 2 / 2 / 2 / 2 / 2 / 2 % 2 + pcN j (x / 2 / 2 / 2 / 2 / 2 / 2 / 2 / 2)))))))) := rfl
  have e2 : pcN 8 x = x % 2 + (x / 2 % 2 + (x / 2 / 2 % 2 + (x / 2 / 2 / 2 % 2 + (x / 2 / 2 / 2 / 2 % 2 + (x / 2 / 2 / 2 / 2 / 2 % 2 + (x / 2 / 2 / 2 / 2 / 2 / 2 % 2 + (x / 2 / 2 / 2 / 2 / 2 / 2 / 2 % 2 + 0))))))) := rfl
  have e3 : x / 2 / 2 / 2 / 2 / 2 / 2 / 2 / 2 = x / 256 := by simp only [Nat.div_div_eq_div_mul]
  rw [e, e2, e3]
  omega
theorem pcN_mod (x : Nat) : pcN 8 x = pcN 8 (x % 256) := by
  have e2 : ∀ x, pcN 8 x = x % 2 + (x / 2 % 2 + (x / 2 / 2 % 2 + (x / 2 / 2 / 2 % 2 + (x / 2 / 2 / 2 / 2 % 2 + (x / 2 / 2 / 2 / 2 / 2 % 2 + (x / 2 / 2 / 2 / 2 / 2 / 2 % 2 + (x / 2 / 2 / 2 / 2 / 2 / 2 / 2 % 2 + 0))))))) := fun _ => rfl
  rw [e2, e2]
  omega
/-- a mask of k bytes m -/
def mkB (m : Nat) : Nat → Nat
  | 0 => 0
  | k + 1 => 256 * mkB m k + m
theorem mkB_succ (m k : Nat) : mkB m (k + 1) = 256 * mkB m k + m := rfl
theorem and_split (y b Y m : Nat) (hb : b < 256) (hm : m < 256) : (256 * y + b) &&& (256 * Y + m) = 256 * (y &&& Y) + (b &&& m) := by
  have h1 : ((256 * y + b) &&& (256 * Y + m)) / 2 ^ 8 = y &&& Y := by
    rw [Nat.and_div_two_pow]
    rw [show (256 * y + b) / 2 ^ 8 = y by omega, show (256 * Y + m) / 2 ^ 8 = Y by omega]
  have h2 : ((256 * y + b) &&& (256 * Y + m)) % 2 ^ 8 = b &&& m := by
    rw [Nat.and_mod_two_pow]
    rw [show (256 * y + b) % 2 ^ 8 = b by omega, show (256 * Y + m) % 2 ^ 8 = m by omega]
  have h3 := Nat.div_add_mod ((256 * y + b) &&& (256 * Y + m)) (2 ^ 8)
  rw [h1, h2] at h3
  omega
def sw1 (k x : Nat) : Nat := (x / 2 &&& mkB 85 k) + (x &&& mkB 85 k)
def sw2 (k x : Nat) : Nat := (x / 4 &&& mkB 51 k) + (x &&& mkB 51 k)
def sw3 (k x : Nat) : Nat := (x / 16 + x) &&& mkB 15 k
def b1 (b : Nat) : Nat := (b / 2 &&& 85) + (b &&& 85)
def b2 (b : Nat) : Nat := (b / 4 &&& 51) + (b &&& 51)
theorem sw1_split (k y b : Nat) (hb : b < 256) : sw1 (k + 1) (256 * y + b) = 256 * sw1 k y + b1 b := by
  have h1 : (256 * y + b) / 2 = 256 * (y / 2) + (128 * (y % 2) + b / 2) := by omega
  have h2 : ∀ z, z < 2 → ∀ b, b < 256 → (128 * z + b / 2) &&& 85 = b / 2 &&& 85 := by decide +kernel
  unfold sw1 b1
  rw [mkB_succ, h1, and_split _ _ _ _ (by omega) (by omega), and_split _ _ _ _ hb (by omega), h2 _ (by omega) _ hb]
  omega
theorem sw2_split (k y b : Nat) (hb : b < 256) : sw2 (k + 1) (256 * y + b) = 256 * sw2 k y + b2 b := by
  have h1 : (256 * y + b) / 4 = 256 * (y / 4) + (64 * (y % 4) + b / 4) := by omega
  have h2 : ∀ z, z < 4 → ∀ b, b < 256 → (64 * z + b / 4) &&& 51 = b / 4 &&& 51 := by decide +kernel
  unfold sw2 b2
  rw [mkB_succ, h1, and_split _ _ _ _ (by omega) (by omega), and_split _ _ _ _ hb (by omega), h2 _ (by omega) _ hb]
  omega
theorem b12 : ∀ b, b < 256 → b1 b < 256 ∧ b2 (b1 b) % 16 ≤ 4 ∧ b2 (b1 b) / 16 ≤ 4 ∧ b2 (b1 b) % 16 + b2 (b1 b) / 16 = pcN 8 b := by decide +kernel
theorem and15 (x : Nat) : x &&& 15 = x % 16 := Nat.and_two_pow_sub_one_eq_mod x 4
theorem sw3_split (k y b : Nat) (hy : y % 16 ≤ 4) (hl : b % 16 ≤ 4) (hh : b / 16 ≤ 4) : sw3 (k + 1) (256 * y + b) = 256 * sw3 k y + (b % 16 + b / 16) := by
  have h1 : (256 * y + b) / 16 + (256 * y + b) = 256 * (y / 16 + y) + (16 * (y % 16) + b / 16 + b) := by omega
  unfold sw3
  rw [mkB_succ, h1, and_split _ _ _ _ (by omega) (by omega), and15]
  omega
/-- the ones of each byte -/
def pbN : Nat → Nat → Nat
  | 0, _ => 0
  | k + 1, x => 256 * pbN k (x / 256) + pcN 8 (x % 256)
theorem swar (k x : Nat) : sw3 k (sw2 k (sw1 k x)) = pbN k x ∧ sw2 k (sw1 k x) % 16 ≤ 4 := by
  induction k generalizing x with
  | zero => simp [sw1, sw2, sw3, mkB, pbN]
  | succ k ih =>
    obtain ⟨h1, h2⟩ := ih (x / 256)
    obtain ⟨q1, q2, q3, q4⟩ := b12 (x % 256) (by omega)
    have e : x = 256 * (x / 256) + x % 256 := by omega
    have e1 : sw1 (k + 1) x = 256 * sw1 k (x / 256) + b1 (x % 256) := by
      have := sw1_split k (x / 256) (x % 256) (by omega)
      rw [← e] at this
      exact this
    rw [e1, sw2_split _ _ _ q1, sw3_split _ _ _ h2 q2 q3, h1, q4]
    refine ⟨rfl, ?_⟩
    omega
theorem pb_eight (x : Nat) (h : x < 18446744073709551616) : ∃ p0 p1 p2 p3 p4 p5 p6 p7 : Nat, pbN 8 x = p0 + 256 * p1 + 65536 * p2 + 16777216 * p3 + 4294967296 * p4 + 1099511627776 * p5 + 281474976710656 * p6 + 72057594037927936 * p7 ∧ p0 ≤ 8 ∧ p1 ≤ 8 ∧ p2 ≤ 8 ∧ p3 ≤ 8 ∧ p4 ≤ 8 ∧ p5 ≤ 8 ∧ p6 ≤ 8 ∧ p7 ≤ 8 ∧ pcN 64 x = p0 + p1 + p2 + p3 + p4 + p5 + p6 + p7 := by
  have e := fun x j => pcN_eight j x
  refine ⟨pcN 8 x, pcN 8 (x / 256), pcN 8 (x / 256 / 256), pcN 8 (x / 256 / 256 / 256), pcN 8 (x / 256 / 256 / 256 / 256), pcN 8 (x / 256 / 256 / 256 / 256 / 256), pcN 8 (x / 256 / 256 / 256 / 256 / 256 / 256), pcN 8 (x / 256 / 256 / 256 / 256 / 256 / 256 / 256), ?_, pcN_le _ _, pcN_le _ _, pcN_le _ _, pcN_le _ _, pcN_le _ _, pcN_le _ _, pcN_le _ _, pcN_le _ _, ?_⟩
  · simp only [pbN, ← pcN_mod]
    omega
  · rw [e x 56, e _ 48, e _ 40, e _ 32, e _ 24, e _ 16, e _ 8]
    omega
/-- what is left of the reckoning, by bytes -/
theorem sw_end (y p0 p1 p2 p3 p4 p5 p6 p7 : Nat) (hy : y = p0 + 256 * p1 + 65536 * p2 + 16777216 * p3 + 4294967296 * p4 + 1099511627776 * p5 + 281474976710656 * p6 + 72057594037927936 * p7) (h0 : p0 ≤ 8) (h1 : p1 ≤ 8) (h2 : p2 ≤ 8) (h3 : p3 ≤ 8) (h4 : p4 ≤ 8) (h5 : p5 ≤ 8) (h6 : p6 ≤ 8) (h7 : p7 ≤ 8) :
    let a := y + y / 256; let b := a + a / 65536; let c := b + b / 4294967296
    c < 18446744073709551616 ∧ c % 128 = p0 + p1 + p2 + p3 + p4 + p5 + p6 + p7 := by
  intro a b c
  obtain ⟨A, hA⟩ : ∃ A, A = a := ⟨_, rfl⟩
  have ea : A = (p0 + p1) + 256 * (p1 + p2) + 65536 * (p2 + p3) + 16777216 * (p3 + p4) + 4294967296 * (p4 + p5) + 1099511627776 * (p5 + p6) + 281474976710656 * (p6 + p7) + 72057594037927936 * p7 := by
    rw [hA]; show y + y / 256 = _; omega
  have eb : b = (p0 + p1 + p2 + p3) + 256 * (p1 + p2 + p3 + p4) + 65536 * (p2 + p3 + p4 + p5) + 16777216 * (p3 + p4 + p5 + p6) + 4294967296 * (p4 + p5 + p6 + p7) + 1099511627776 * (p5 + p6 + p7) + 281474976710656 * (p6 + p7) + 72057594037927936 * p7 := by
    show a + a / 65536 = _; rw [← hA]; omega
  have ec : c = b + b / 4294967296 := rfl
  clear_value a b c
  clear hA ea
  have ed : b / 4294967296 = (p4 + p5 + p6 + p7) + 256 * (p5 + p6 + p7) + 65536 * (p6 + p7) + 16777216 * p7 := by omega
  rw [ed, eb] at ec
  clear ed eb
  constructor <;> omega
end

section
theorem u64_in (n : Nat) (h : n < 18446744073709551616) : IntKind.u64.wrap (n : Int) = (n : Int) := by rw [IntKind.wrap_u64]; omega
theorem o64_1 (x : Nat) (hx : x < 18446744073709551616) : IntKind.u64.wrap (bits BinOp.and IntKind.u64 ((x : Int) / 2) 6148914691236517205 + bits BinOp.and IntKind.u64 (x : Int) 6148914691236517205) = (sw1 8 x : Nat) ∧ sw1 8 x < 18446744073709551616 := by
  have e0 : ((x : Int) / 2) = ((x / 2 : Nat) : Int) := by omega
  have e1 : bits BinOp.and IntKind.u64 ((x / 2 : Nat) : Int) 6148914691236517205 = ((x / 2 &&& 6148914691236517205 : Nat) : Int) := u64_and_nat (x / 2) 6148914691236517205 (by omega) (by decide)
  have e2 : bits BinOp.and IntKind.u64 (x : Int) 6148914691236517205 = ((x &&& 6148914691236517205 : Nat) : Int) := u64_and_nat x 6148914691236517205 hx (by decide)
  have l1 : x / 2 &&& 6148914691236517205 ≤ 6148914691236517205 := Nat.and_le_right
  have l2 : x &&& 6148914691236517205 ≤ 6148914691236517205 := Nat.and_le_right
  have em : sw1 8 x = (x / 2 &&& 6148914691236517205) + (x &&& 6148914691236517205) := rfl
  rw [e0, e1, e2, em]
  exact ⟨u64_in _ (by omega), by omega⟩
theorem o64_2 (x : Nat) (hx : x < 18446744073709551616) : IntKind.u64.wrap (bits BinOp.and IntKind.u64 ((x : Int) / 4) 3689348814741910323 + bits BinOp.and IntKind.u64 (x : Int) 3689348814741910323) = (sw2 8 x : Nat) ∧ sw2 8 x < 8000000000000000000 := by
  have e0 : ((x : Int) / 4) = ((x / 4 : Nat) : Int) := by omega
  have e1 : bits BinOp.and IntKind.u64 ((x / 4 : Nat) : Int) 3689348814741910323 = ((x / 4 &&& 3689348814741910323 : Nat) : Int) := u64_and_nat (x / 4) 3689348814741910323 (by omega) (by decide)
  have e2 : bits BinOp.and IntKind.u64 (x : Int) 3689348814741910323 = ((x &&& 3689348814741910323 : Nat) : Int) := u64_and_nat x 3689348814741910323 hx (by decide)
  have l1 : x / 4 &&& 3689348814741910323 ≤ 3689348814741910323 := Nat.and_le_right
  have l2 : x &&& 3689348814741910323 ≤ 3689348814741910323 := Nat.and_le_right
  have em : sw2 8 x = (x / 4 &&& 3689348814741910323) + (x &&& 3689348814741910323) := rfl
  rw [e0, e1, e2, em]
  exact ⟨u64_in _ (by omega), by omega⟩
theorem o64_3 (x : Nat) (hx : x < 8000000000000000000) : bits BinOp.and IntKind.u64 (IntKind.u64.wrap ((x : Int) / 16 + (x : Int))) 1085102592571150095 = (sw3 8 x : Nat) := by
  have e0 : ((x : Int) / 16 + (x : Int)) = ((x / 16 + x : Nat) : Int) := by omega
  have e1 : bits BinOp.and IntKind.u64 ((x / 16 + x : Nat) : Int) 1085102592571150095 = (((x / 16 + x) &&& 1085102592571150095 : Nat) : Int) := u64_and_nat (x / 16 + x) 1085102592571150095 (by omega) (by decide)
  have em : sw3 8 x = (x / 16 + x) &&& 1085102592571150095 := rfl
  rw [e0, u64_in _ (by omega), e1, em]
theorem o64_4 (y d : Nat) (h : y + y / d < 18446744073709551616) : IntKind.u64.wrap ((y : Int) + (y : Int) / (d : Int)) = ((y + y / d : Nat) : Int) := by
  rw [← u64_in _ h]
  simp
theorem o64_7 (C : Nat) (h : C < 18446744073709551616) : bits BinOp.and IntKind.i64 (IntKind.i64.wrap (C : Int)) 127 = (C % 128 : Nat) := by
  show IntKind.i64.wrap ((BitVec.ofInt 64 (IntKind.i64.wrap (C : Int)) &&& BitVec.ofInt 64 127).toNat : Int) = _
  rw [BitVec.toNat_and, BitVec.toNat_ofInt, BitVec.toNat_ofInt]
  have e1 : ((IntKind.i64.wrap (C : Int)) % ((2 ^ 64 : Nat) : Int)).toNat = C := by rw [IntKind.wrap_i64]; omega
  have e2 : C &&& 127 = C % 128 := Nat.and_two_pow_sub_one_eq_mod C 7
  rw [e1]
  show IntKind.i64.wrap ((C &&& 127 : Nat) : Int) = _
  rw [e2, IntKind.wrap_i64]
  omega
theorem o64_all (x : Nat) (hx : x < 18446744073709551616) : ∃ X1 X2 X3 A B C : Nat, IntKind.u64.wrap (bits BinOp.and IntKind.u64 ((x : Int) / 2) 6148914691236517205 + bits BinOp.and IntKind.u64 (x : Int) 6148914691236517205) = (X1 : Int) ∧
    IntKind.u64.wrap (bits BinOp.and IntKind.u64 ((X1 : Int) / 4) 3689348814741910323 + bits BinOp.and IntKind.u64 (X1 : Int) 3689348814741910323) = (X2 : Int) ∧
    bits BinOp.and IntKind.u64 (IntKind.u64.wrap ((X2 : Int) / 16 + (X2 : Int))) 1085102592571150095 = (X3 : Int) ∧
    IntKind.u64.wrap ((X3 : Int) + (X3 : Int) / 256) = (A : Int) ∧ IntKind.u64.wrap ((A : Int) + (A : Int) / 65536) = (B : Int) ∧ IntKind.u64.wrap ((B : Int) + (B : Int) / 4294967296) = (C : Int) ∧
    bits BinOp.and IntKind.i64 (IntKind.i64.wrap (C : Int)) 127 = (pcN 64 x : Nat) := by
  obtain ⟨f1, g1⟩ := o64_1 x hx
  obtain ⟨f2, g2⟩ := o64_2 (sw1 8 x) g1
  have f3 := o64_3 (sw2 8 (sw1 8 x)) g2
  rw [(swar 8 x).1] at f3
  obtain ⟨p0, p1, p2, p3, p4, p5, p6, p7, hy, h0, h1, h2, h3, h4, h5, h6, h7, hc⟩ := pb_eight x hx
  obtain ⟨k1, k2⟩ := sw_end _ p0 p1 p2 p3 p4 p5 p6 p7 hy h0 h1 h2 h3 h4 h5 h6 h7
  rw [← hc] at k2
  clear hy hc
  have kb := Nat.lt_of_le_of_lt (Nat.le_add_right _ _) k1
  have ka := Nat.lt_of_le_of_lt (Nat.le_add_right _ _) kb
  refine ⟨_, _, _, _, _, _, f1, f2, f3, o64_4 _ 256 ka, o64_4 _ 65536 kb, o64_4 _ 4294967296 k1, ?_⟩
  rw [← k2]
  exact o64_7 _ k1
theorem ones64_all (x : Nat) (hx : x < 18446744073709551616) (w : World) : Calls Tryd.prog 40 #[.int .u64 x] w fun e w' => e = .returned (.int .i64 (pcN 64 x : Nat)) ∧ w' = w := by
  obtain ⟨X1, X2, X3, A, B, C, f1, f2, f3, f4, f5, f6, f7⟩ := o64_all x hx
  go_enter Tryd.func40, Tryd.ntmps40
  go_wp2
  go_ret
  refine ⟨ret_int ?_, rfl⟩
  rw [← IntWalk.i64_left]
  exact f7
end

section
/-- has a place a bit of the word? -/
def isW (p : Nat) : Bool := p &&& (p - 1) != 0
/-- how many of the lower places have one -/
def cntW : Nat → Nat
  | 0 => 0
  | k + 1 => if isW k then cntW k + 1 else cntW k
/-- a word's bits, spread over their places -/
def spW (n : Nat) : Nat → Nat
  | 0 => 0
  | k + 1 => if isW k then spW n k ||| (n / 2 ^ cntW k % 2) <<< k else spW n k
/-- the word whose bits stand at their places -/
def gaW (c : Nat) : Nat → Nat
  | 0 => 0
  | k + 1 => if isW k then gaW c k ||| (c / 2 ^ k % 2) <<< cntW k else gaW c k
/-- the sum of the places that have a one -/
def xsW (c : Nat) : Nat → Nat
  | 0 => 0
  | k + 1 => if c.testBit k then xsW c k ^^^ k else xsW c k
/-- with the bits that check others -/
def ckW (c s : Nat) : Nat → Nat
  | 0 => c
  | i + 1 => if s.testBit i then ckW c s i ||| 1 <<< 2 ^ i else ckW c s i
theorem cntW_le : ∀ k, k < 40 → cntW k ≤ 32 := by decide +kernel
theorem shl_ltM (a k : Nat) (m : Nat) (h : k < m) : (a % 2) <<< k < 2 ^ m := by
  rw [Nat.shiftLeft_eq]
  have h1 : a % 2 * 2 ^ k ≤ 1 * 2 ^ k := Nat.mul_le_mul_right _ (by omega)
  have h2 : 2 ^ k < 2 ^ m := Nat.pow_lt_pow_right (by decide) h
  omega
theorem spW_lt (n k : Nat) : spW n k < 2 ^ k := by
  induction k with
  | zero => exact Nat.zero_lt_one
  | succ k ih =>
    have h2 : 2 ^ k < 2 ^ (k + 1) := Nat.pow_lt_pow_right (by decide) (by omega)
    unfold spW
    split
    · exact Nat.or_lt_two_pow (by omega) (shl_ltM _ _ _ (by omega))
    · omega
theorem gaW_lt (c k : Nat) : gaW c k < 2 ^ cntW k := by
  induction k with
  | zero => exact Nat.zero_lt_one
  | succ k ih =>
    have e : cntW (k + 1) = if isW k then cntW k + 1 else cntW k := rfl
    unfold gaW
    rw [e]
    split
    · have h2 : 2 ^ cntW k < 2 ^ (cntW k + 1) := Nat.pow_lt_pow_right (by decide) (by omega)
      exact Nat.or_lt_two_pow (by omega) (shl_ltM _ _ _ (by omega))
    · exact ih
theorem xsW_lt (c k : Nat) (hk : k ≤ 64) : xsW c k < 64 := by
  induction k with
  | zero => exact Nat.zero_lt_succ _
  | succ k ih =>
    unfold xsW
    split
    · exact Nat.xor_lt_two_pow (n := 6) (ih (by omega)) (by omega)
    · exact ih (by omega)
theorem ckW_lt (c s i : Nat) (hc : c < 549755813888) (hi : i ≤ 6) : ckW c s i < 549755813888 := by
  induction i with
  | zero => exact hc
  | succ i ih =>
    unfold ckW
    split
    · refine Nat.or_lt_two_pow (n := 39) (ih (by omega)) ?_
      have : ∀ i, i < 6 → 1 <<< 2 ^ i < 2 ^ 39 := by decide +kernel
      exact this i (by omega)
    · exact ih (by omega)
theorem i64_or_nat (a b : Nat) (ha : a < 2 ^ 63) (hb : b < 2 ^ 63) : bits .or .i64 (a : Int) (b : Int) = ((a ||| b : Nat) : Int) := by
  have hx : a ||| b < 2 ^ 63 := Nat.or_lt_two_pow (by omega) (by omega)
  show IntKind.i64.wrap ((BitVec.ofInt 64 (a : Int) ||| BitVec.ofInt 64 (b : Int)).toNat : Int) = _
  rw [BitVec.toNat_or, ofInt_i64 a ha, ofInt_i64 b hb, wrap_i64_in _ (by omega) (by omega)]
theorem ofWord_num : ∀ p : Nat, p < 39 → (bits .and .i64 (p : Int) ((p : Int) - 1) != 0) = isW p := by decide +kernel
theorem ofWord_any (p : Nat) (hp : p < 39) (w : World) : Calls Tryd.prog 33 #[.int .i64 p] w fun e w' => e = .returned (.bool (isW p)) ∧ w' = w := by
  have h := ofWord_num p hp
  go_enter Tryd.func33, Tryd.ntmps33
  go_wp2
  go_ret
  exact ⟨by rw [← h]; rfl, rfl⟩
/-- one bit, moved to its place -/
theorem bit_to (n k : Nat) (hn : n < 2 ^ 63) (hk : k < 40) : wrap64 (bits .and .i64 (n : Int) 1 * 2 ^ k) = (((n % 2) <<< k : Nat) : Int) := by
  have e : bits .and .i64 (n : Int) 1 = ((n % 2 : Nat) : Int) := by
    have := i64_and_nat n 1 hn (by decide)
    rw [Nat.and_one_is_mod] at this
    exact this
  have h := shl_ltM n k 40 hk
  rw [e, Nat.shiftLeft_eq]
  rw [Nat.shiftLeft_eq] at h
  have e2 : (((n % 2 : Nat) : Int) * 2 ^ k) = ((n % 2 * 2 ^ k : Nat) : Int) := by simp
  rw [e2]
  exact IntWalk.wrap64_in _ ⟨by omega, by omega⟩
theorem half_cnt (n k : Nat) (h : isW k = true) : n / 2 ^ cntW k / 2 = n / 2 ^ cntW (k + 1) := by
  have : cntW (k + 1) = cntW k + 1 := if_pos h
  rw [this, Nat.div_div_eq_div_mul, Nat.pow_succ]
theorem pow_div_lt (n k : Nat) (hn : n < 2 ^ 63) : n / 2 ^ k < 2 ^ 63 := Nat.lt_of_le_of_lt (Nat.div_le_self _ _) hn
theorem sp_yes (n k : Nat) (h : isW k = true) : n / 2 ^ cntW (k + 1) = n / 2 ^ cntW k / 2 ∧ spW n (k + 1) = spW n k ||| (n / 2 ^ cntW k % 2) <<< k := ⟨(half_cnt n k h).symm, if_pos h⟩
theorem sp_no (n k : Nat) (h : isW k = false) : n / 2 ^ cntW (k + 1) = n / 2 ^ cntW k ∧ spW n (k + 1) = spW n k := ⟨by rw [show cntW (k + 1) = cntW k by simp [cntW, h]], by simp [spW, h]⟩
theorem ga_yes (c k : Nat) (h : isW k = true) : cntW (k + 1) = cntW k + 1 ∧ gaW c (k + 1) = gaW c k ||| (c / 2 ^ k % 2) <<< cntW k := ⟨if_pos h, if_pos h⟩
theorem ga_no (c k : Nat) (h : isW k = false) : cntW (k + 1) = cntW k ∧ gaW c (k + 1) = gaW c k := ⟨by simp [cntW, h], by simp [gaW, h]⟩
theorem lt63 {a k : Nat} (h : a < 2 ^ k) (hk : k ≤ 63) : a < 2 ^ 63 := Nat.lt_of_lt_of_le h (Nat.pow_le_pow_right (by decide) hk)
theorem spread_any (n : Nat) (hn : n < 2 ^ 63) (w : World) : Calls Tryd.prog 35 #[.int .i64 n] w fun e w' => e = .returned (.int .i64 (spW n 39 : Nat)) ∧ w' = w := by
  go_enter Tryd.func35, Tryd.ntmps35
  go_wp2
  go_loop [0, 3, 5] (fun mv c i => ∃ k m s : Nat, k ≤ 39 ∧ i = .int .i64 k ∧ mv = .int .i64 m ∧ c = .int .i64 s ∧ Hid (m = n / 2 ^ cntW k) ∧ Hid (s = spW n k)) (fun _ _ i => 39 - (intOf i).toNat)
  case atStart => exact ⟨0, n, 0, by omega, rfl, rfl, rfl, by show _ = _; simp [cntW], rfl⟩
  case round =>
    obtain ⟨k, m, s, hk, rfl, rfl, rfl, hm, hs⟩ := hrel
    by_cases hlt : k < 39
    · have HW := fun w => ofWord_any k hlt w
      have hp : m < 2 ^ 63 := by rw [hm.out]; exact pow_div_lt _ _ hn
      have hs63 : s < 2 ^ 63 := by rw [hs.out]; exact lt63 (spW_lt n k) (by omega)
      have hb := bit_to m k hp (by omega)
      have ho := i64_or_nat s ((m % 2) <<< k) hs63 (lt63 (shl_ltM m k 40 (by omega)) (by decide))
      have hd : ((m : Int) / 2) = ((m / 2 : Nat) : Int) := by omega
      have HY := sp_yes n k
      have HN := sp_no n k
      rw [← hm.out, ← hs.out] at HY HN
      generalize (m % 2) <<< k = q at hb ho HY
      generalize m / 2 = m' at hd HY
      generalize s ||| q = s' at ho HY
      cases hw : isW k
      · rw [hw] at HW
        have HN : Hid _ := HN hw
        clear hb ho HY hd
        go_wp2_with (go_at_call 33; refine (HW _).mono ?_; rintro e w' ⟨rfl, rfl⟩)
        go_round
        case rel => exact ⟨k + 1, m, s, by omega, by go_num, rfl, rfl, HN.out.1.symm, HN.out.2.symm⟩
        case measure => simp [intOf]; omega
      · rw [hw] at HW
        have HY : Hid _ := HY hw
        clear HN
        go_wp2_with (go_at_call 33; refine (HW _).mono ?_; rintro e w' ⟨rfl, rfl⟩)
        go_round
        case rel => exact ⟨k + 1, m', s', by omega, by go_num, rfl, rfl, HY.out.1.symm, HY.out.2.symm⟩
        case measure => simp [intOf]; omega
    · obtain rfl : k = 39 := by omega
      go_wp2
      go_ret
      exact ⟨by rw [← hs.out]; rfl, rfl⟩
theorem bit_at (c k t : Nat) (hc : c < 2 ^ 63) (ht : t < 40) : wrap64 (bits .and .i64 ((c : Int) / 2 ^ k) 1 * 2 ^ t) = (((c / 2 ^ k % 2) <<< t : Nat) : Int) := by
  have e : ((c : Int) / 2 ^ k) = ((c / 2 ^ k : Nat) : Int) := by simp
  rw [e]
  exact bit_to _ t (pow_div_lt _ _ hc) ht
theorem gathered_any (c : Nat) (hc : c < 549755813888) (w : World) : Calls Tryd.prog 21 #[.int .i64 c] w fun e w' => e = .returned (.int .i64 (gaW c 39 : Nat)) ∧ w' = w := by
  go_enter Tryd.func21, Tryd.ntmps21
  go_wp2
  go_loop [3, 4, 6] (fun nv bv i => ∃ k t s : Nat, k ≤ 39 ∧ i = .int .i64 k ∧ bv = .int .i64 t ∧ nv = .int .i64 s ∧ t ≤ 32 ∧ Hid (t = cntW k) ∧ Hid (s = gaW c k)) (fun _ _ i => 39 - (intOf i).toNat)
  case atStart => exact ⟨0, 0, 0, by omega, rfl, rfl, rfl, by omega, rfl, rfl⟩
  case round =>
    obtain ⟨k, t, s, hk, rfl, rfl, rfl, htl, ht, hs⟩ := hrel
    by_cases hlt : k < 39
    · have HW := fun w => ofWord_any k hlt w
      have hs63 : s < 2 ^ 63 := by rw [hs.out]; exact lt63 (gaW_lt c k) (by rw [← ht.out]; omega)
      have hb := bit_at c k t (by omega) (by omega)
      have ho := i64_or_nat s ((c / 2 ^ k % 2) <<< t) hs63 (lt63 (shl_ltM (c / 2 ^ k) t 40 (by omega)) (by decide))
      have HY := ga_yes c k
      have HN := ga_no c k
      have hl1 := cntW_le (k + 1) (by omega)
      rw [← ht.out, ← hs.out] at HY HN
      generalize (c / 2 ^ k % 2) <<< t = q at hb ho HY
      generalize s ||| q = s' at ho HY
      cases hw : isW k
      · rw [hw] at HW
        have HN : Hid _ := HN hw
        clear hb ho HY hl1
        go_wp2_with (go_at_call 33; refine (HW _).mono ?_; rintro e w' ⟨rfl, rfl⟩)
        go_round
        case rel => exact ⟨k + 1, t, s, by omega, by go_num, rfl, rfl, htl, HN.out.1.symm, HN.out.2.symm⟩
        case measure => simp [intOf]; omega
      · rw [hw] at HW
        have hl2 : t + 1 ≤ 32 := by rw [← (HY hw).1]; exact hl1
        have HY : Hid _ := HY hw
        clear HN hl1
        go_wp2_with (go_at_call 33; refine (HW _).mono ?_; rintro e w' ⟨rfl, rfl⟩)
        go_round
        case rel => exact ⟨k + 1, t + 1, s', by omega, by go_num, by go_num, rfl, hl2, HY.out.1.symm, HY.out.2.symm⟩
        case measure => simp [intOf]; omega
    · obtain rfl : k = 39 := by omega
      go_wp2
      go_ret
      exact ⟨by rw [← hs.out]; rfl, rfl⟩
theorem xs_yes (c k : Nat) (h : c.testBit k = true) : xsW c (k + 1) = xsW c k ^^^ k := if_pos h
theorem xs_no (c k : Nat) (h : c.testBit k = false) : xsW c (k + 1) = xsW c k := by simp [xsW, h]
theorem placeSum_any (c : Nat) (hc : c < 549755813888) (w : World) : Calls Tryd.prog 38 #[.int .i64 c] w fun e w' => e = .returned (.int .i64 (xsW c 39 : Nat)) ∧ w' = w := by
  go_enter Tryd.func38, Tryd.ntmps38
  go_wp2
  go_loop [3, 5] (fun sv i => ∃ k s : Nat, k ≤ 39 ∧ i = .int .i64 k ∧ sv = .int .i64 s ∧ Hid (s = xsW c k)) (fun _ i => 39 - (intOf i).toNat)
  case atStart => exact ⟨0, 0, by omega, rfl, rfl, rfl⟩
  case round =>
    obtain ⟨k, s, hk, rfl, rfl, hs⟩ := hrel
    by_cases hlt : k < 39
    · have hs64 : s < 64 := by rw [hs.out]; exact xsW_lt _ _ (by omega)
      have ho := i64_xor_nat s k (by omega) (by omega)
      have hz := bit_i64 c k (by omega)
      have HY := xs_yes c k
      have HN := xs_no c k
      rw [← hs.out] at HY HN
      generalize s ^^^ k = s' at ho HY
      cases hw : c.testBit k
      · have HN : Hid _ := HN hw
        rw [hw] at hz
        clear ho HY hw
        go_wp2
        go_round
        case rel => exact ⟨k + 1, s, by omega, by go_num, rfl, HN.out.symm⟩
        case measure => simp [intOf]; omega
      · have HY : Hid _ := HY hw
        rw [hw] at hz
        clear HN hw
        go_wp2
        go_round
        case rel => exact ⟨k + 1, s', by omega, by go_num, rfl, HY.out.symm⟩
        case measure => simp [intOf]; omega
    · obtain rfl : k = 39 := by omega
      go_wp2
      go_ret
      exact ⟨by rw [← hs.out]; rfl, rfl⟩
theorem pcN_stop (k j c : Nat) (h : c < 2 ^ k) : pcN (k + j) c = pcN k c := by
  induction j with
  | zero => rfl
  | succ j ih =>
    rw [← Nat.add_assoc, pcN_succ, ih, Nat.div_eq_of_lt (Nat.lt_of_lt_of_le h (Nat.pow_le_pow_right (by decide) (by omega)))]
    rfl
/-- is the number of ones odd? -/
def odW (c : Nat) : Bool := pcN 39 c % 2 == 1
theorem odd_any (c : Nat) (hc : c < 549755813888) (w : World) : Calls Tryd.prog 39 #[.int .i64 c] w fun e w' => e = .returned (.bool (odW c)) ∧ w' = w := by
  have e1 : pcN 64 c = pcN 39 c := pcN_stop 39 25 c hc
  have H := fun w => ones64_all c (by omega) w
  have hl := pcN_le 39 c
  rw [e1] at H
  unfold odW
  generalize pcN 39 c = p at H hl
  clear e1
  go_enter Tryd.func39, Tryd.ntmps39
  go_wp2_with (go_at_call 40; refine (H _).mono ?_; rintro e w' ⟨rfl, rfl⟩)
  go_ret
  refine ⟨congrArg (fun b => Ending.returned (Value.bool b)) ?_, rfl⟩
  by_cases h : p % 2 = 1
  · rw [show ((p : Int) % 2) = 1 by omega, h]; rfl
  · rw [show ((p : Int) % 2) = 0 by omega, show p % 2 = 0 by omega]; rfl
theorem ck_bit : ∀ s : Nat, s < 64 → ∀ i : Nat, i < 6 → (bits .and .i64 (s : Int) ((2 ^ i : Nat) : Int) != 0) = s.testBit i := by decide +kernel
theorem ck_yes (c s i : Nat) (h : s.testBit i = true) : ckW c s (i + 1) = ckW c s i ||| 1 <<< 2 ^ i := if_pos h
theorem ck_no (c s i : Nat) (h : s.testBit i = false) : ckW c s (i + 1) = ckW c s i := by simp [ckW, h]
theorem checked_any (c : Nat) (hc : c < 549755813888) (w : World) : Calls Tryd.prog 34 #[.int .i64 c] w fun e w' => e = .returned (.int .i64 (ckW c (xsW c 39) 6 ||| (odW (ckW c (xsW c 39) 6)).toNat : Nat)) ∧ w' = w := by
  have HP := fun w => placeSum_any c hc w
  have hs := xsW_lt c 39 (by omega)
  generalize xsW c 39 = s at HP hs
  go_enter Tryd.func34, Tryd.ntmps34
  go_wp2_with (go_at_call 38; refine (HP _).mono ?_; rintro e w' ⟨rfl, rfl⟩)
  go_loop [0, 4] (fun cv pv => ∃ i d P : Nat, i ≤ 6 ∧ P = 2 ^ i ∧ pv = .int .i64 (P : Int) ∧ cv = .int .i64 d ∧ Hid (d = ckW c s i)) (fun _ pv => 64 - (intOf pv).toNat)
  case atStart => exact ⟨0, c, 1, by omega, rfl, rfl, rfl, rfl⟩
  case round =>
    obtain ⟨i, d, P, hi, hP, rfl, rfl, hd⟩ := hrel
    have hdl : d < 549755813888 := by rw [hd.out]; exact ckW_lt _ _ _ hc hi
    by_cases hlt : i < 6
    · have hb := ck_bit s hs i hlt
      have HY := ck_yes c s i
      have HN := ck_no c s i
      rw [← hd.out] at HY HN
      have ho := i64_or_nat d (1 <<< 2 ^ i) (by omega) (by
        have : ∀ i, i < 6 → 1 <<< 2 ^ i < 2 ^ 63 := by decide +kernel
        exact this i hlt)
      generalize d ||| 1 <<< 2 ^ i = d' at ho HY
      cases hw : s.testBit i
      · have HN : Hid _ := HN hw
        rw [hw] at hb
        clear HY ho hw
        have e : i = 0 ∨ i = 1 ∨ i = 2 ∨ i = 3 ∨ i = 4 ∨ i = 5 := by omega
        rcases e with rfl | rfl | rfl | rfl | rfl | rfl
        all_goals
          simp at hP hb
          subst hP
          go_wp2
          go_round
          case rel => exact ⟨_, d, _, by omega, rfl, by go_num, rfl, HN.out.symm⟩
          case measure => simp [intOf]
      · have HY : Hid _ := HY hw
        rw [hw] at hb
        clear HN hw
        have e : i = 0 ∨ i = 1 ∨ i = 2 ∨ i = 3 ∨ i = 4 ∨ i = 5 := by omega
        rcases e with rfl | rfl | rfl | rfl | rfl | rfl
        all_goals
          simp at hP hb
          simp only [Nat.reducePow, Nat.reduceShiftLeft] at ho
          subst hP
          go_wp2
          go_round
          case rel => exact ⟨_, d', _, by omega, rfl, by go_num, val_int ho, HY.out.symm⟩
          case measure => simp [intOf]
    · obtain rfl : i = 6 := by omega
      obtain rfl : P = 64 := hP
      have HO := fun w => odd_any d hdl w
      have e1 := i64_or_nat d 1 (by omega) (by omega)
      have hd' : Hid (∀ x, odW d = x → ckW c s 6 ||| (odW (ckW c s 6)).toNat = d ||| x.toNat) := by
        intro x hx
        rw [← hd.out, hx]
      clear hd
      cases hb : odW d
      · rw [hb] at HO
        have HE : Hid _ := hd'.out _ hb
        clear hb hd'
        go_wp2_with (go_at_call 39; refine (HO _).mono ?_; rintro e w' ⟨rfl, rfl⟩)
        go_ret
        exact ⟨ret_int (by rw [HE.out]; simp), rfl⟩
      · rw [hb] at HO
        have HE : Hid _ := hd'.out _ hb
        clear hb hd'
        go_wp2_with (go_at_call 39; refine (HO _).mono ?_; rintro e w' ⟨rfl, rfl⟩)
        go_ret
        exact ⟨ret_int (by rw [HE.out]; exact e1), rfl⟩
end

section
/-- the code of a word -/
def coN (n : Nat) : Nat := ckW (spW n 39) (xsW (spW n 39) 39) 6 ||| (odW (ckW (spW n 39) (xsW (spW n 39) 39) 6)).toNat
theorem odW_le (b : Bool) : b.toNat ≤ 1 := by cases b <;> decide
theorem coN_lt (n : Nat) : coN n < 549755813888 := by
  have h := ckW_lt (spW n 39) (xsW (spW n 39) 39) 6 (spW_lt n 39) (by omega)
  have h2 := odW_le (odW (ckW (spW n 39) (xsW (spW n 39) 39) 6))
  exact Nat.or_lt_two_pow (n := 39) h (by omega)
/-- may a number be? -/
def inN (z m : Int) : Bool := decide (0 ≤ z ∧ z ≤ m)
theorem inN_t {z m : Int} (h : 0 ≤ z ∧ z ≤ m) : inN z m = true := decide_eq_true h
theorem inN_f {z m : Int} (h : ¬ (0 ≤ z ∧ z ≤ m)) : inN z m = false := decide_eq_false h
theorem inN_ok {z m : Int} (h : inN z m = true) : 0 ≤ z ∧ z ≤ m := of_decide_eq_true h
theorem mwithin_any (z m : Int) (w : World) : Calls Tryd.prog 23 #[.int .i64 z, .int .i64 m] w fun e w' => e = .returned (.bool (inN z m)) ∧ w' = w := by
  by_cases h : 0 ≤ z ∧ z ≤ m
  · rw [inN_t h]
    have h1 := h.1
    have h2 := h.2
    go_enter Tryd.func23, Tryd.ntmps23
    go_wp2
    go_ret
    exact ⟨rfl, rfl⟩
  · rw [inN_f h]
    by_cases h1 : 0 ≤ z
    · have h2 : ¬ z ≤ m := fun h2 => h ⟨h1, h2⟩
      go_enter Tryd.func23, Tryd.ntmps23
      go_wp2
      go_ret
      exact ⟨rfl, rfl⟩
    · go_enter Tryd.func23, Tryd.ntmps23
      go_wp2
      go_ret
      exact ⟨rfl, rfl⟩
def cdV (z : Int) : Nat := if inN z 4294967295 then coN z.toNat else 0
def cdE (z : Int) : Nat := if inN z 4294967295 then 0 else 2
theorem code_any (z : Int) (w : World) : Calls Tryd.prog 22 #[.int .i64 z] w fun e w' => e = .returned (.tuple #[.int .i64 (cdV z : Nat), .int .i64 (cdE z : Nat)]) ∧ w' = w := by
  have HI := fun w => mwithin_any z 4294967295 w
  unfold cdV cdE
  cases h : inN z 4294967295
  · rw [h] at HI
    go_enter Tryd.func22, Tryd.ntmps22
    go_wp2_with (go_at_call 23; refine (HI _).mono ?_; rintro e w' ⟨rfl, rfl⟩)
    go_ret2
    exact ⟨rfl, rfl⟩
  · rw [h] at HI
    obtain ⟨n, rfl⟩ : ∃ n : Nat, z = n := ⟨z.toNat, by have := inN_ok h; omega⟩
    have hn := inN_ok h
    have HS := fun w => spread_any n (by omega) w
    have HC := fun w => checked_any (spW n 39) (spW_lt n 39) w
    rw [if_pos rfl, if_pos rfl, Int.toNat_natCast]
    unfold coN
    generalize ckW (spW n 39) (xsW (spW n 39) 39) 6 ||| (odW (ckW (spW n 39) (xsW (spW n 39) 39) 6)).toNat = r at HC ⊢
    generalize spW n 39 = s at HS HC
    clear h
    go_enter Tryd.func22, Tryd.ntmps22
    go_wp2_with (first | (go_at_call 23; refine (HI _).mono ?_; rintro e w' ⟨rfl, rfl⟩) | (go_at_call 35; refine (HS _).mono ?_; rintro e w' ⟨rfl, rfl⟩) | (go_at_call 34; refine (HC _).mono ?_; rintro e w' ⟨rfl, rfl⟩))
    go_ret2
    exact ⟨rfl, rfl⟩
/-- what is wrong with a code: 0 nothing, 1 one bit, 2 more -/
def wrW (c : Nat) : Nat := if odW c then (if xsW c 39 < 39 then 1 else 2) else (if xsW c 39 = 0 then 0 else 2)
/-- a code without its wrong bit -/
def riW (c : Nat) : Nat := if wrW c = 0 then c else if wrW c = 1 then c ^^^ 1 <<< xsW c 39 else 0
def riE (c : Nat) : Nat := if wrW c = 2 then 18 else 0
theorem riW_lt (c : Nat) (hc : c < 549755813888) : riW c < 549755813888 := by
  unfold riW
  split
  · exact hc
  · split
    · rename_i h1 h2
      have hx : xsW c 39 < 39 := by
        unfold wrW at h2
        by_cases h : xsW c 39 < 39
        · exact h
        · rw [if_neg h] at h2
          have hz : ¬ xsW c 39 = 0 := by omega
          rw [if_neg hz] at h2
          cases ho : odW c <;> rw [ho] at h2 <;> simp at h2
      refine Nat.xor_lt_two_pow (n := 39) hc ?_
      rw [Nat.shiftLeft_eq, Nat.one_mul]
      exact Nat.pow_lt_pow_right (by decide) hx
    · omega
theorem shl_one (s : Nat) (hs : s < 39) : wrap64 (2 ^ s) = ((1 <<< s : Nat) : Int) := by
  have : ∀ s : Nat, s < 39 → wrap64 (2 ^ s) = ((1 <<< s : Nat) : Int) := by decide +kernel
  exact this s hs
theorem ri_0 {c : Nat} (ho : odW c = false) (hs : xsW c 39 = 0) : riW c = c ∧ (wrW c == 1) = false ∧ riE c = 0 := by
  have h : wrW c = 0 := by simp [wrW, ho, hs]
  simp [riW, riE, h]
theorem ri_1 {c : Nat} (ho : odW c = true) (hs : xsW c 39 < 39) : riW c = c ^^^ 1 <<< xsW c 39 ∧ (wrW c == 1) = true ∧ riE c = 0 := by
  have h : wrW c = 1 := by simp [wrW, ho, hs]
  simp [riW, riE, h]
theorem ri_2 {c : Nat} (ho : odW c = false) (hs : ¬ xsW c 39 = 0) : riW c = 0 ∧ (wrW c == 1) = false ∧ riE c = 18 := by
  have h : wrW c = 2 := by simp [wrW, ho, hs]
  simp [riW, riE, h]
theorem ri_3 {c : Nat} (ho : odW c = true) (hs : ¬ xsW c 39 < 39) : riW c = 0 ∧ (wrW c == 1) = false ∧ riE c = 18 := by
  have h : wrW c = 2 := by simp [wrW, ho, hs]
  simp [riW, riE, h]
theorem righted_any (c : Nat) (hc : c < 549755813888) (w : World) : Calls Tryd.prog 32 #[.int .i64 c] w fun e w' => e = .returned (.tuple #[.int .i64 (riW c : Nat), .bool (wrW c == 1), .int .i64 (riE c : Nat)]) ∧ w' = w := by
  have HP := fun w => placeSum_any c hc w
  have HO := fun w => odd_any c hc w
  have hx := xsW_lt c 39 (by omega)
  cases hb : odW c
  · rw [hb] at HO
    by_cases h0 : xsW c 39 = 0
    · obtain ⟨e1, e2, e3⟩ := ri_0 hb h0
      rw [e1, e2, e3]
      rw [h0] at HP
      clear hx hb h0 e1 e2 e3
      go_enter Tryd.func32, Tryd.ntmps32
      go_wp2_with (first | (go_at_call 38; refine (HP _).mono ?_; rintro e w' ⟨rfl, rfl⟩) | (go_at_call 39; refine (HO _).mono ?_; rintro e w' ⟨rfl, rfl⟩))
      go_ret3
      exact ⟨rfl, rfl⟩
    · obtain ⟨e1, e2, e3⟩ := ri_2 hb h0
      rw [e1, e2, e3]
      clear e1 e2 e3 hb
      generalize xsW c 39 = s at HP hx h0
      have hz : ((s : Int) == 0) = false := by simp; omega
      go_enter Tryd.func32, Tryd.ntmps32
      go_wp2_with (first | (go_at_call 38; refine (HP _).mono ?_; rintro e w' ⟨rfl, rfl⟩) | (go_at_call 39; refine (HO _).mono ?_; rintro e w' ⟨rfl, rfl⟩))
      go_ret3
      exact ⟨rfl, rfl⟩
  · rw [hb] at HO
    by_cases h0 : xsW c 39 < 39
    · obtain ⟨e1, e2, e3⟩ := ri_1 hb h0
      rw [e1, e2, e3]
      clear e1 e2 e3 hb
      generalize xsW c 39 = s at HP hx h0 ⊢
      have e1 := shl_one s h0
      have e2 : 1 <<< s < 2 ^ 63 := by
        rw [Nat.shiftLeft_eq, Nat.one_mul]
        exact Nat.pow_lt_pow_right (by decide) (by omega)
      have e3 := i64_xor_nat c (1 <<< s) (by omega) e2
      rw [← e1] at e3
      generalize c ^^^ 1 <<< s = r at e3 ⊢
      clear e1 e2
      go_enter Tryd.func32, Tryd.ntmps32
      go_wp2_with (first | (go_at_call 38; refine (HP _).mono ?_; rintro e w' ⟨rfl, rfl⟩) | (go_at_call 39; refine (HO _).mono ?_; rintro e w' ⟨rfl, rfl⟩))
      go_ret3
      exact ⟨rfl, rfl⟩
    · obtain ⟨e1, e2, e3⟩ := ri_3 hb h0
      rw [e1, e2, e3]
      clear e1 e2 e3 hb
      generalize xsW c 39 = s at HP hx h0
      have hz : ¬ ((s : Int) < 39) := by omega
      go_enter Tryd.func32, Tryd.ntmps32
      go_wp2_with (first | (go_at_call 38; refine (HP _).mono ?_; rintro e w' ⟨rfl, rfl⟩) | (go_at_call 39; refine (HO _).mono ?_; rintro e w' ⟨rfl, rfl⟩))
      go_ret3
      exact ⟨rfl, rfl⟩
def mdV (z : Int) : Nat := if inN z 549755813887 then gaW (riW z.toNat) 39 else 0
def mdB (z : Int) : Bool := inN z 549755813887 && wrW z.toNat == 1
def mdE (z : Int) : Nat := if inN z 549755813887 then riE z.toNat else 2
theorem mend_any (z : Int) (w : World) : Calls Tryd.prog 25 #[.int .i64 z] w fun e w' => e = .returned (.tuple #[.int .i64 (mdV z : Nat), .bool (mdB z), .int .i64 (mdE z : Nat)]) ∧ w' = w := by
  have HI := fun w => mwithin_any z 549755813887 w
  unfold mdV mdB mdE
  cases h : inN z 549755813887
  · rw [h] at HI
    go_enter Tryd.func25, Tryd.ntmps25
    go_wp2_with (go_at_call 23; refine (HI _).mono ?_; rintro e w' ⟨rfl, rfl⟩)
    go_ret3
    exact ⟨rfl, rfl⟩
  · rw [h] at HI
    obtain ⟨n, rfl⟩ : ∃ n : Nat, z = n := ⟨z.toNat, by have := inN_ok h; omega⟩
    have hn := inN_ok h
    have HS := fun w => righted_any n (by omega) w
    have HC := fun w => gathered_any (riW n) (riW_lt n (by omega)) w
    rw [if_pos rfl, if_pos rfl, Int.toNat_natCast]
    generalize gaW (riW n) 39 = r at HC ⊢
    generalize riW n = s at HS HC
    generalize riE n = t at HS ⊢
    rw [Bool.true_and]
    generalize (wrW n == 1) = u at HS ⊢
    clear h
    go_enter Tryd.func25, Tryd.ntmps25
    go_wp2_with (first | (go_at_call 23; refine (HI _).mono ?_; rintro e w' ⟨rfl, rfl⟩) | (go_at_call 32; refine (HS _).mono ?_; rintro e w' ⟨rfl, rfl⟩) | (go_at_call 21; refine (HC _).mono ?_; rintro e w' ⟨rfl, rfl⟩))
    go_ret3
    exact ⟨rfl, rfl⟩
end
end Go.Proofs.YtgnicopijocnjaaDoor
