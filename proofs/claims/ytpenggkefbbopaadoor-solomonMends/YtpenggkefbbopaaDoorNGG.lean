import Derived.Test.YtpenggkefbbopaaDoorSDecM
import Derived.Test.YtpenggkefbbopaaDoorSDecode
namespace Go.Proofs.YtpenggkefbbopaaDoor
set_option maxRecDepth 100000
set_option linter.unusedVariables false
set_option linter.unusedSimpArgs false

/-! the field of 256 numbers, without side conditions -/
structure GF where
  v : Nat
  h : v < 256
theorem GF.ext {a b : GF} (e : a.v = b.v) : a = b := by cases a; cases b; cases e; rfl
structure GL [Add GF] [Mul GF] [OfNat GF 0] [OfNat GF 1] : Prop where
  add : ∀ a b : GF, (a + b).v = a.v ^^^ b.v
  mul : ∀ a b : GF, (a * b).v = Fld.mul a.v b.v
  zero : (0 : GF).v = 0
  one : (1 : GF).v = 1
namespace GF
theorem add_v [Add GF] [Mul GF] [OfNat GF 0] [OfNat GF 1] [L : Nonempty GL] (a b : GF) : (a + b).v = a.v ^^^ b.v := L.elim fun h => h.add a b
theorem mul_v [Add GF] [Mul GF] [OfNat GF 0] [OfNat GF 1] [L : Nonempty GL] (a b : GF) : (a * b).v = Fld.mul a.v b.v := L.elim fun h => h.mul a b
theorem zero_v [Add GF] [Mul GF] [OfNat GF 0] [OfNat GF 1] [L : Nonempty GL] : (0 : GF).v = 0 := L.elim fun h => h.zero
theorem one_v [Add GF] [Mul GF] [OfNat GF 0] [OfNat GF 1] [L : Nonempty GL] : (1 : GF).v = 1 := L.elim fun h => h.one
theorem add_comm [Add GF] [Mul GF] [OfNat GF 0] [OfNat GF 1] [L : Nonempty GL] (a b : GF) : a + b = b + a := ext (by rw [add_v, add_v, Nat.xor_comm])
theorem add_assoc [Add GF] [Mul GF] [OfNat GF 0] [OfNat GF 1] [L : Nonempty GL] (a b c : GF) : a + b + c = a + (b + c) := ext (by rw [add_v, add_v, add_v, add_v, Nat.xor_assoc])
theorem mul_comm [Add GF] [Mul GF] [OfNat GF 0] [OfNat GF 1] [L : Nonempty GL] (a b : GF) : a * b = b * a := ext (by rw [mul_v, mul_v, Fld.mul_comm a.h b.h])
theorem mul_assoc [Add GF] [Mul GF] [OfNat GF 0] [OfNat GF 1] [L : Nonempty GL] (a b c : GF) : a * b * c = a * (b * c) := ext (by rw [mul_v, mul_v, mul_v, mul_v, Fld.mul_assoc a.h b.h c.h])
theorem add_zero [Add GF] [Mul GF] [OfNat GF 0] [OfNat GF 1] [L : Nonempty GL] (a : GF) : a + 0 = a := ext (by rw [add_v, zero_v, Nat.xor_zero])
theorem zero_add [Add GF] [Mul GF] [OfNat GF 0] [OfNat GF 1] [L : Nonempty GL] (a : GF) : 0 + a = a := ext (by rw [add_v, zero_v, Nat.zero_xor])
theorem add_self [Add GF] [Mul GF] [OfNat GF 0] [OfNat GF 1] [L : Nonempty GL] (a : GF) : a + a = 0 := ext (by rw [add_v, zero_v, Nat.xor_self])
theorem mul_one [Add GF] [Mul GF] [OfNat GF 0] [OfNat GF 1] [L : Nonempty GL] (a : GF) : a * 1 = a := ext (by rw [mul_v, one_v, Fld.mul_one a.h])
theorem one_mul [Add GF] [Mul GF] [OfNat GF 0] [OfNat GF 1] [L : Nonempty GL] (a : GF) : 1 * a = a := ext (by rw [mul_v, one_v, Fld.one_mul a.h])
theorem mul_zero [Add GF] [Mul GF] [OfNat GF 0] [OfNat GF 1] [L : Nonempty GL] (a : GF) : a * 0 = 0 := ext (by rw [mul_v, zero_v]; exact Fld.mul_zero _)
theorem zero_mul [Add GF] [Mul GF] [OfNat GF 0] [OfNat GF 1] [L : Nonempty GL] (a : GF) : 0 * a = 0 := ext (by rw [mul_v, zero_v]; exact Fld.zero_mul a.h)
theorem mul_add [Add GF] [Mul GF] [OfNat GF 0] [OfNat GF 1] [L : Nonempty GL] (a b c : GF) : a * (b + c) = a * b + a * c := ext (by rw [mul_v, add_v, add_v, mul_v, mul_v]; exact Fld.mul_xor_right _ _ _)
theorem add_mul [Add GF] [Mul GF] [OfNat GF 0] [OfNat GF 1] [L : Nonempty GL] (a b c : GF) : (a + b) * c = a * c + b * c := ext (by rw [mul_v, add_v, add_v, mul_v, mul_v]; exact Fld.mul_xor_left _ a.h b.h)
theorem aA [Add GF] [Mul GF] [OfNat GF 0] [OfNat GF 1] [L : Nonempty GL] : Std.Associative (α := GF) (· + ·) := ⟨add_assoc⟩
theorem aC [Add GF] [Mul GF] [OfNat GF 0] [OfNat GF 1] [L : Nonempty GL] : Std.Commutative (α := GF) (· + ·) := ⟨add_comm⟩
theorem mA [Add GF] [Mul GF] [OfNat GF 0] [OfNat GF 1] [L : Nonempty GL] : Std.Associative (α := GF) (· * ·) := ⟨mul_assoc⟩
theorem mC [Add GF] [Mul GF] [OfNat GF 0] [OfNat GF 1] [L : Nonempty GL] : Std.Commutative (α := GF) (· * ·) := ⟨mul_comm⟩
theorem mul_eq_zero [Add GF] [Mul GF] [OfNat GF 0] [OfNat GF 1] [L : Nonempty GL] {a b : GF} (e : a * b = 0) : a = 0 ∨ b = 0 := by
  rcases Fld.mul_eq_zero a.h b.h (by have := congrArg GF.v e; rw [mul_v, zero_v] at this; exact this) with h | h
  · exact .inl (ext (by rw [zero_v]; exact h))
  · exact .inr (ext (by rw [zero_v]; exact h))
theorem mul_ne_zero [Add GF] [Mul GF] [OfNat GF 0] [OfNat GF 1] [L : Nonempty GL] {a b : GF} (ha : a ≠ 0) (hb : b ≠ 0) : a * b ≠ 0 := fun e => (mul_eq_zero e).elim ha hb
theorem add_eq_zero [Add GF] [Mul GF] [OfNat GF 0] [OfNat GF 1] [L : Nonempty GL] {a b : GF} (e : a + b = 0) : a = b := by
  have : a + b + b = b := by rw [e, zero_add]
  rwa [add_assoc, add_self, add_zero] at this
theorem eq_add [Add GF] [Mul GF] [OfNat GF 0] [OfNat GF 1] [L : Nonempty GL] {a b c : GF} (e : a = b + c) : a + b = c := by rw [e, add_comm b c, add_assoc, add_self, add_zero]
theorem mul_cancel [Add GF] [Mul GF] [OfNat GF 0] [OfNat GF 1] [L : Nonempty GL] {a b c : GF} (ha : a ≠ 0) (e : a * b = a * c) : b = c := by
  have h : a * (b + c) = 0 := by rw [mul_add, e, add_self]
  rcases mul_eq_zero h with h | h
  · exact absurd h ha
  · exact add_eq_zero h
theorem ne_v [Add GF] [Mul GF] [OfNat GF 0] [OfNat GF 1] [L : Nonempty GL] {a : GF} (h : a ≠ 0) : a.v ≠ 0 := fun e => h (ext (by rw [zero_v]; exact e))
theorem v_ne [Add GF] [Mul GF] [OfNat GF 0] [OfNat GF 1] [L : Nonempty GL] {a : GF} (h : a.v ≠ 0) : a ≠ 0 := fun e => h (by rw [e]; exact zero_v)
theorem one_ne [Add GF] [Mul GF] [OfNat GF 0] [OfNat GF 1] [L : Nonempty GL] : (1 : GF) ≠ 0 := v_ne (by rw [one_v]; decide)
def inv [Add GF] [Mul GF] [OfNat GF 0] [OfNat GF 1] [L : Nonempty GL] (a : GF) : GF := ⟨Fld.inv a.v, Fld.inv_lt a.h⟩
theorem mul_inv [Add GF] [Mul GF] [OfNat GF 0] [OfNat GF 1] [L : Nonempty GL] {a : GF} (h : a ≠ 0) : a * inv a = 1 := ext (by rw [mul_v, one_v]; exact Fld.mul_inv a.h (ne_v h))
def pw [Add GF] [Mul GF] [OfNat GF 0] [OfNat GF 1] [L : Nonempty GL] (x : GF) (n : Nat) : GF := ⟨Fld.pw x.v n, Fld.pw_lt _ _ x.h⟩
theorem pw_zero [Add GF] [Mul GF] [OfNat GF 0] [OfNat GF 1] [L : Nonempty GL] (x : GF) : pw x 0 = 1 := ext (by rw [one_v]; rfl)
theorem pw_add [Add GF] [Mul GF] [OfNat GF 0] [OfNat GF 1] [L : Nonempty GL] (x : GF) (m n : Nat) : pw x (m + n) = pw x m * pw x n := ext (by rw [mul_v]; exact Fld.pw_add x.v m n x.h)
theorem pw_one [Add GF] [Mul GF] [OfNat GF 0] [OfNat GF 1] [L : Nonempty GL] (x : GF) : pw x 1 = x := by
  apply ext
  show Fld.pw x.v 1 = x.v
  first
    | (show Fld.mul 1 x.v = x.v; exact Fld.one_mul x.h)
    | (show Fld.mul x.v 1 = x.v; exact Fld.mul_one x.h)
theorem pw_succ [Add GF] [Mul GF] [OfNat GF 0] [OfNat GF 1] [L : Nonempty GL] (x : GF) (n : Nat) : pw x (n + 1) = pw x n * x := by rw [pw_add, pw_one]
theorem pw_ne [Add GF] [Mul GF] [OfNat GF 0] [OfNat GF 1] [L : Nonempty GL] {x : GF} (h : x ≠ 0) (n : Nat) : pw x n ≠ 0 := by
  induction n with
  | zero => rw [pw_zero]; exact one_ne
  | succ n ih => rw [pw_succ]; exact mul_ne_zero ih h
theorem mul_pw [Add GF] [Mul GF] [OfNat GF 0] [OfNat GF 1] [L : Nonempty GL] (x y : GF) (n : Nat) : pw (x * y) n = pw x n * pw y n := by
  induction n with
  | zero => rw [pw_zero, pw_zero, pw_zero, mul_one]
  | succ n ih => rw [pw_succ, pw_succ, pw_succ, ih]; (haveI := aA; haveI := aC; haveI := mA; haveI := mC; ac_rfl)
/-- sums and products -/
def sum [Add GF] [Mul GF] [OfNat GF 0] [OfNat GF 1] [L : Nonempty GL] (n : Nat) (F : Nat → GF) : GF := match n with
  | 0 => 0
  | n + 1 => sum n F + F n
def prod [Add GF] [Mul GF] [OfNat GF 0] [OfNat GF 1] [L : Nonempty GL] (n : Nat) (F : Nat → GF) : GF := match n with
  | 0 => 1
  | n + 1 => prod n F * F n
theorem sum_v [Add GF] [Mul GF] [OfNat GF 0] [OfNat GF 1] [L : Nonempty GL] (n : Nat) (F : Nat → GF) : (sum n F).v = xsum (fun i => (F i).v) n := by
  induction n with
  | zero => exact zero_v
  | succ n ih => show (sum n F + F n).v = xsum (fun i => (F i).v) n ^^^ (F n).v; rw [add_v, ih]
theorem sum_congr [Add GF] [Mul GF] [OfNat GF 0] [OfNat GF 1] [L : Nonempty GL] {n : Nat} {F G : Nat → GF} (h : ∀ i, i < n → F i = G i) : sum n F = sum n G := by
  induction n with
  | zero => rfl
  | succ n ih => show sum n F + F n = sum n G + G n; rw [ih (fun i hi => h i (by omega)), h n (by omega)]
theorem prod_congr [Add GF] [Mul GF] [OfNat GF 0] [OfNat GF 1] [L : Nonempty GL] {n : Nat} {F G : Nat → GF} (h : ∀ i, i < n → F i = G i) : prod n F = prod n G := by
  induction n with
  | zero => rfl
  | succ n ih => show prod n F * F n = prod n G * G n; rw [ih (fun i hi => h i (by omega)), h n (by omega)]
theorem sum_add [Add GF] [Mul GF] [OfNat GF 0] [OfNat GF 1] [L : Nonempty GL] (n : Nat) (F G : Nat → GF) : sum n (fun i => F i + G i) = sum n F + sum n G := by
  induction n with
  | zero => exact (add_zero 0).symm
  | succ n ih => show sum n _ + (F n + G n) = sum n F + F n + (sum n G + G n); rw [ih]; (haveI := aA; haveI := aC; haveI := mA; haveI := mC; ac_rfl)
theorem sum_mul [Add GF] [Mul GF] [OfNat GF 0] [OfNat GF 1] [L : Nonempty GL] (n : Nat) (F : Nat → GF) (a : GF) : sum n F * a = sum n (fun i => F i * a) := by
  induction n with
  | zero => exact zero_mul a
  | succ n ih => show (sum n F + F n) * a = sum n _ + F n * a; rw [add_mul, ih]
theorem mul_sum [Add GF] [Mul GF] [OfNat GF 0] [OfNat GF 1] [L : Nonempty GL] (n : Nat) (F : Nat → GF) (a : GF) : a * sum n F = sum n (fun i => a * F i) := by
  rw [mul_comm, sum_mul]; exact sum_congr fun i _ => mul_comm _ _
theorem sum_zero [Add GF] [Mul GF] [OfNat GF 0] [OfNat GF 1] [L : Nonempty GL] {n : Nat} {F : Nat → GF} (h : ∀ i, i < n → F i = 0) : sum n F = 0 := by
  induction n with
  | zero => rfl
  | succ n ih => show sum n F + F n = 0; rw [ih (fun i hi => h i (by omega)), h n (by omega), add_zero]
theorem sum_one [Add GF] [Mul GF] [OfNat GF 0] [OfNat GF 1] [L : Nonempty GL] {n : Nat} {F : Nat → GF} (k : Nat) (hk : k < n) (h : ∀ i, i < n → i ≠ k → F i = 0) : sum n F = F k := by
  induction n with
  | zero => omega
  | succ n ih =>
    show sum n F + F n = F k
    by_cases e : k = n
    · subst e; rw [sum_zero (fun i hi => h i (by omega) (by omega)), zero_add]
    · rw [ih (by omega) (fun i hi => h i (by omega)), h n (by omega) (by omega), add_zero]
theorem sum_swap [Add GF] [Mul GF] [OfNat GF 0] [OfNat GF 1] [L : Nonempty GL] (m n : Nat) (F : Nat → Nat → GF) : sum m (fun i => sum n (fun j => F i j)) = sum n (fun j => sum m (fun i => F i j)) := by
  induction m with
  | zero => exact (sum_zero (fun _ _ => rfl)).symm
  | succ m ih =>
    show sum m (fun i => sum n (fun j => F i j)) + sum n (fun j => F m j) = sum n (fun j => sum m (fun i => F i j) + F m j)
    rw [ih, sum_add]
theorem sum_front [Add GF] [Mul GF] [OfNat GF 0] [OfNat GF 1] [L : Nonempty GL] (n : Nat) (F : Nat → GF) : sum (n + 1) F = F 0 + sum n (fun i => F (i + 1)) := by
  induction n with
  | zero => show 0 + F 0 = F 0 + 0; rw [zero_add, add_zero]
  | succ n ih =>
    show sum (n + 1) F + F (n + 1) = F 0 + (sum n (fun i => F (i + 1)) + F (n + 1))
    rw [ih]; (haveI := aA; haveI := aC; haveI := mA; haveI := mC; ac_rfl)
theorem sum_rev [Add GF] [Mul GF] [OfNat GF 0] [OfNat GF 1] [L : Nonempty GL] (n : Nat) (F : Nat → GF) : sum n F = sum n (fun i => F (n - 1 - i)) := by
  induction n with
  | zero => rfl
  | succ n ih =>
    rw [sum_front n (fun i => F (n + 1 - 1 - i))]
    show sum n F + F n = F (n + 1 - 1 - 0) + _
    have e : sum n (fun i => F (n + 1 - 1 - (i + 1))) = sum n F := by
      rw [ih]; exact sum_congr fun i hi => by congr 1; omega
    rw [e, show n + 1 - 1 - 0 = n by omega, add_comm]
theorem prod_mul [Add GF] [Mul GF] [OfNat GF 0] [OfNat GF 1] [L : Nonempty GL] (n : Nat) (F G : Nat → GF) : prod n (fun i => F i * G i) = prod n F * prod n G := by
  induction n with
  | zero => exact (mul_one 1).symm
  | succ n ih => show prod n _ * (F n * G n) = prod n F * F n * (prod n G * G n); rw [ih]; (haveI := aA; haveI := aC; haveI := mA; haveI := mC; ac_rfl)
theorem prod_zero [Add GF] [Mul GF] [OfNat GF 0] [OfNat GF 1] [L : Nonempty GL] {n : Nat} {F : Nat → GF} (k : Nat) (hk : k < n) (h : F k = 0) : prod n F = 0 := by
  induction n with
  | zero => omega
  | succ n ih =>
    show prod n F * F n = 0
    by_cases e : k = n
    · subst e; rw [h, mul_zero]
    · rw [ih (by omega), zero_mul]
theorem prod_ne [Add GF] [Mul GF] [OfNat GF 0] [OfNat GF 1] [L : Nonempty GL] {n : Nat} {F : Nat → GF} (h : ∀ i, i < n → F i ≠ 0) : prod n F ≠ 0 := by
  induction n with
  | zero => show (1 : GF) ≠ 0; exact one_ne
  | succ n ih => exact mul_ne_zero (ih (fun i hi => h i (by omega))) (h n (by omega))
/-- one factor taken out -/
theorem prod_out [Add GF] [Mul GF] [OfNat GF 0] [OfNat GF 1] [L : Nonempty GL] {n : Nat} (F : Nat → GF) (k : Nat) (hk : k < n) : prod n F = F k * prod n (fun i => if i = k then 1 else F i) := by
  induction n with
  | zero => omega
  | succ n ih =>
    show prod n F * F n = F k * (prod n (fun i => if i = k then 1 else F i) * (if n = k then 1 else F n))
    by_cases e : n = k
    · subst e
      rw [if_pos rfl, mul_one, mul_comm]
      congr 1
      exact prod_congr fun i hi => by rw [if_neg (by omega)]
    · rw [if_neg e, ih (by omega)]; (haveI := aA; haveI := aC; haveI := mA; haveI := mC; ac_rfl)
theorem geo [Add GF] [Mul GF] [OfNat GF 0] [OfNat GF 1] [L : Nonempty GL] (y : GF) (c : Nat) : (1 + y) * sum c (fun j => pw y j) = 1 + pw y c := by
  induction c with
  | zero => show (1 + y) * 0 = 1 + pw y 0; rw [mul_zero, pw_zero, add_self]
  | succ c ih =>
    show (1 + y) * (sum c (fun j => pw y j) + pw y c) = 1 + pw y (c + 1)
    rw [mul_add, ih, add_mul, one_mul, pw_succ, mul_comm y]
    have e : 1 + pw y c + (pw y c + pw y c * y) = 1 + (pw y c + pw y c) + pw y c * y := by (haveI := aA; haveI := aC; haveI := mA; haveI := mC; ac_rfl)
    rw [e, add_self, add_zero]
/-- powers of 2 -/
def al [Add GF] [Mul GF] [OfNat GF 0] [OfNat GF 1] [L : Nonempty GL] (k : Int) : GF := ⟨pow2 k, pow2_lt k⟩
theorem al_add [Add GF] [Mul GF] [OfNat GF 0] [OfNat GF 1] [L : Nonempty GL] (a b : Int) : al (a + b) = al a * al b := by
  apply ext
  rw [mul_v]
  show pow2 (a + b) = Fld.mul (pow2 a) (pow2 b)
  unfold pow2
  rw [Fld.pow_mul, ← Fld.dblN_mod ((b % 255).toNat + (a % 255).toNat)]
  congr 1
  omega
theorem al_zero [Add GF] [Mul GF] [OfNat GF 0] [OfNat GF 1] [L : Nonempty GL] : al 0 = 1 := ext (by rw [one_v]; rfl)
theorem al_ne [Add GF] [Mul GF] [OfNat GF 0] [OfNat GF 1] [L : Nonempty GL] (k : Int) : al k ≠ 0 := v_ne (pow2_ne k)
theorem al_inj [Add GF] [Mul GF] [OfNat GF 0] [OfNat GF 1] [L : Nonempty GL] {a b : Int} (h : al a = al b) : a % 255 = b % 255 := pow2_inj (congrArg GF.v h)
theorem al_pw [Add GF] [Mul GF] [OfNat GF 0] [OfNat GF 1] [L : Nonempty GL] (a : Int) (n : Nat) : al (a * n) = pw (al a) n := by
  induction n with
  | zero => rw [pw_zero, Int.natCast_zero, Int.mul_zero]; exact al_zero
  | succ n ih => rw [pw_succ, ← ih, ← al_add]; congr 1; rw [Int.natCast_succ, Int.mul_add, Int.mul_one]
/-- the value of a list -/
def at' [Add GF] [Mul GF] [OfNat GF 0] [OfNat GF 1] [L : Nonempty GL] (P : List Nat) (hP : IsB P) (x : GF) : GF := ⟨atL P x.v, horN_lt hP x.v _⟩
theorem at_sum [Add GF] [Mul GF] [OfNat GF 0] [OfNat GF 1] [L : Nonempty GL] {P : List Nat} (hP : IsB P) (x : GF) (n : Nat) (hn : P.length ≤ n) : at' P hP x = sum n (fun i => ⟨nth P i, hP.nth i⟩ * pw x i) := by
  apply ext
  rw [sum_v]
  show atL P x.v = _
  rw [atL_ev hP x.v n x.h hn]
  refine xsum_congr n (fun i _ => ?_)
  rw [mul_v]; rfl
end GF
end Go.Proofs.YtpenggkefbbopaaDoor
namespace Go.Proofs.YtpenggkefbbopaaDoor
set_option maxRecDepth 100000
set_option linter.unusedVariables false
set_option linter.unusedSimpArgs false
open GF

/-! functions that are polynomials of so many numbers -/
def IsP [Add GF] [Mul GF] [OfNat GF 0] [OfNat GF 1] [L : Nonempty GL] (F : GF → GF) (d : Nat) : Prop := ∃ P : List Nat, IsB P ∧ P.length ≤ d ∧ ∀ x : GF, (F x).v = atL P x.v
theorem IsP.le [Add GF] [Mul GF] [OfNat GF 0] [OfNat GF 1] [L : Nonempty GL] {F : GF → GF} {d e : Nat} (h : IsP F d) (hde : d ≤ e) : IsP F e := by
  obtain ⟨P, h1, h2, h3⟩ := h; exact ⟨P, h1, by omega, h3⟩
theorem isP_congr [Add GF] [Mul GF] [OfNat GF 0] [OfNat GF 1] [L : Nonempty GL] {F G : GF → GF} {d : Nat} (h : IsP F d) (e : ∀ x, G x = F x) : IsP G d := by
  obtain ⟨P, h1, h2, h3⟩ := h; exact ⟨P, h1, h2, fun x => by rw [e x]; exact h3 x⟩
theorem isP_list [Add GF] [Mul GF] [OfNat GF 0] [OfNat GF 1] [L : Nonempty GL] {P : List Nat} (hP : IsB P) : IsP (at' P hP) P.length := ⟨P, hP, Nat.le_refl _, fun _ => rfl⟩
theorem timR_short [Add GF] [Mul GF] [OfNat GF 0] [OfNat GF 1] [L : Nonempty GL] {A B : List Nat} (hA : IsB A) (hB : IsB B) : (timR A B).length ≤ A.length + B.length - 1 := by
  unfold timR; split
  · refine trimL_short _ (fun j hj => ?_)
    rw [nth_timL hA hB]
    unfold pc
    exact xsum_zero _ (fun i hi => by
      split
      · rw [nth_out B _ (by omega)]; exact Fld.zero_mul (hA.nth _)
      · rfl)
  · simp
theorem isP_mul [Add GF] [Mul GF] [OfNat GF 0] [OfNat GF 1] [L : Nonempty GL] {F G : GF → GF} {d e : Nat} (hF : IsP F d) (hG : IsP G e) (hd : d ≤ 512) (he : e ≤ 512) : IsP (fun x => F x * G x) (d + e - 1) := by
  obtain ⟨P, p1, p2, p3⟩ := hF
  obtain ⟨Q, q1, q2, q3⟩ := hG
  refine ⟨timR P Q, isB_timR p1 q1, Nat.le_trans (timR_short p1 q1) (by omega), fun x => ?_⟩
  rw [at_times p1 q1 x.v x.h (by omega) (by omega), ← p3, ← q3]; exact mul_v _ _
theorem isP_add [Add GF] [Mul GF] [OfNat GF 0] [OfNat GF 1] [L : Nonempty GL] {F G : GF → GF} {d : Nat} (hF : IsP F d) (hG : IsP G d) : IsP (fun x => F x + G x) d := by
  obtain ⟨P, p1, p2, p3⟩ := hF
  obtain ⟨Q, q1, q2, q3⟩ := hG
  refine ⟨trimL (sumL P Q), isB_trimL (isB_sumL p1 q1), Nat.le_trans (sumL_le P Q) (by omega), fun x => ?_⟩
  rw [Go.Proofs.YtpenggkefbbopaaDoor.at_sum p1 q1 x.v x.h, ← p3, ← q3]; exact add_v _ _
theorem isP_zero [Add GF] [Mul GF] [OfNat GF 0] [OfNat GF 1] [L : Nonempty GL] (d : Nat) : IsP (fun _ => 0) d := ⟨[], (fun x hx => by cases hx), by simp, fun x => zero_v⟩
theorem at_single [Add GF] [Mul GF] [OfNat GF 0] [OfNat GF 1] [L : Nonempty GL] (a : Nat) (ha : a < 256) (x : Nat) (hx : x < 256) : atL [a] x = a := by
  have hB : IsB [a] := fun y hy => by simp at hy; omega
  rw [atL_eq hB x hx]
  show 0 ^^^ Fld.mul a (Fld.pw x 0) = a
  rw [Nat.zero_xor, show Fld.pw x 0 = 1 from rfl, Fld.mul_one ha]
theorem isP_const [Add GF] [Mul GF] [OfNat GF 0] [OfNat GF 1] [L : Nonempty GL] (a : GF) : IsP (fun _ => a) 1 := ⟨[a.v], (fun y hy => by simp at hy; rw [hy]; exact a.h), by simp, fun x => (at_single a.v a.h x.v x.h).symm⟩
theorem at_lin [Add GF] [Mul GF] [OfNat GF 0] [OfNat GF 1] [L : Nonempty GL] (a x : GF) : atL [1, a.v] x.v = (1 + a * x).v := by
  have hB := isB_pair 1 a.v (by decide) a.h
  rw [atL_eq hB x.v x.h]
  rw [add_v, one_v, mul_v]
  show (0 ^^^ Fld.mul 1 (Fld.pw x.v 0)) ^^^ Fld.mul a.v (Fld.pw x.v 1) = 1 ^^^ Fld.mul a.v x.v
  have e : Fld.pw x.v 1 = x.v := congrArg GF.v (pw_one x)
  rw [e, Nat.zero_xor, show Fld.pw x.v 0 = 1 from rfl, show Fld.mul 1 1 = 1 by decide +kernel]
theorem isP_lin [Add GF] [Mul GF] [OfNat GF 0] [OfNat GF 1] [L : Nonempty GL] (a : GF) : IsP (fun x => 1 + a * x) 2 := ⟨[1, a.v], isB_pair 1 a.v (by decide) a.h, by simp, fun x => (at_lin a x).symm⟩
theorem isP_sum [Add GF] [Mul GF] [OfNat GF 0] [OfNat GF 1] [L : Nonempty GL] {n d : Nat} {F : Nat → GF → GF} (h : ∀ i, i < n → IsP (F i) d) : IsP (fun x => sum n (fun i => F i x)) d := by
  induction n with
  | zero => exact isP_zero d
  | succ n ih => exact isP_add (ih (fun i hi => h i (by omega))) (h n (by omega))
/-- how many of the first n are so -/
def cn (B : Nat → Bool) : Nat → Nat
  | 0 => 0
  | n + 1 => if B n then cn B n + 1 else cn B n
theorem cn_le (B : Nat → Bool) (n : Nat) : cn B n ≤ n := by
  induction n with
  | zero => exact Nat.le_refl _
  | succ n ih => unfold cn; split <;> omega
theorem isP_prod [Add GF] [Mul GF] [OfNat GF 0] [OfNat GF 1] [L : Nonempty GL] (B : Nat → Bool) (X : Nat → GF) (n : Nat) (hn : n ≤ 500) : IsP (fun x => prod n (fun p => if B p then 1 + X p * x else 1)) (cn B n + 1) := by
  induction n with
  | zero => exact isP_const 1
  | succ n ih =>
    have hle := cn_le B n
    show IsP (fun x => prod n (fun p => if B p then 1 + X p * x else 1) * (if B n then 1 + X n * x else 1)) _
    by_cases e : B n = true
    · simp only [cn, e, if_true]
      exact (isP_mul (ih (by omega)) (isP_lin (X n)) (by omega) (by omega)).le (by omega)
    · have e' : B n = false := by simpa using e
      simp only [cn, e']
      exact isP_congr (ih (by omega)) (fun x => by show _ * 1 = _; rw [mul_one])
def xc (c : Nat) : List Nat := List.replicate c 0 ++ [1]
theorem isB_xc (c : Nat) : IsB (xc c) := isB_append (isB_zeros _) (fun x hx => by simp at hx; omega)
theorem nth_xc_low (c i : Nat) (h : i < c) : nth (xc c) i = 0 := by
  unfold xc; rw [nth_append_left _ _ _ (by simpa using h), nth_zeros]
theorem nth_xc_top (c : Nat) : nth (xc c) c = 1 := by
  unfold xc nth
  rw [List.getD_eq_getElem?_getD, List.getElem?_append_right (by simp)]
  simp
theorem at_xc [Add GF] [Mul GF] [OfNat GF 0] [OfNat GF 1] [L : Nonempty GL] (c : Nat) (x : GF) : atL (xc c) x.v = (pw x c).v := by
  rw [atL_ev (isB_xc c) x.v (c + 1) x.h (by simp [xc])]
  show xsum _ c ^^^ Fld.mul (nth (xc c) c) (Fld.pw x.v c) = _
  rw [xsum_zero c (fun i hi => by rw [nth_xc_low c i hi]; exact Fld.zero_mul (Fld.pw_lt _ _ x.h)), nth_xc_top, Nat.zero_xor, Fld.one_mul (Fld.pw_lt _ _ x.h)]
  rfl
theorem nth_range (n i : Nat) (h : i < n) : nth (List.range n) i = i := by
  unfold nth; rw [List.getD_eq_getElem?_getD, List.getElem?_range h]; rfl
/-- lists of up to 256 numbers with the same values everywhere are the same -/
theorem same_vals {P Q : List Nat} (hP : IsB P) (hQ : IsB Q) (h1 : P.length ≤ 256) (h2 : Q.length ≤ 256) (h : ∀ x, x < 256 → atL P x = atL Q x) (j : Nat) : nth P j = nth Q j := by
  have hX : IsB (List.range 256) := fun x hx => List.mem_range.1 hx
  have hz := roots_zero hX 256 (fun i j hji hi he => by rw [nth_range _ _ hi, nth_range _ _ (by omega)] at he; omega) (fun i => nth P i ^^^ nth Q i) (fun i => Fld.xor_lt (hP.nth i) (hQ.nth i))
    (fun i hi => by show nth P i ^^^ nth Q i = 0; rw [nth_out P i (by omega), nth_out Q i (by omega)]; rfl) (fun i hi => by
      rw [nth_range _ _ hi, ev_xor (f := nth P) (g := nth Q) _ _ hP.nth hQ.nth, ← atL_ev hP i 257 hi (by omega), ← atL_ev hQ i 257 hi (by omega), h i hi, Nat.xor_self]) j
  exact xor_eq hz
theorem isP_all [Add GF] [Mul GF] [OfNat GF 0] [OfNat GF 1] [L : Nonempty GL] {F : GF → GF} {d : Nat} (hF : IsP F d) (hd : d ≤ 256) (c m : Nat) {M : GF → GF} (hM : IsP M m) (hm : c + m ≤ 256) (hdc : d ≤ c) (h : ∀ x, F x = pw x c * M x) : ∀ x, F x = 0 := by
  obtain ⟨P, p1, p2, p3⟩ := hF
  obtain ⟨Q, q1, q2, q3⟩ := hM
  have hxl : (xc c).length = c + 1 := by simp [xc]
  have hR := isB_timR (isB_xc c) q1
  have hRl := timR_short (isB_xc c) q1
  have key := same_vals p1 hR (by omega) (by omega) (fun x hx => by
    rw [at_times (isB_xc c) q1 x hx (by omega) (by omega)]
    have e := congrArg GF.v (h ⟨x, hx⟩)
    rw [p3] at e
    rw [show atL P x = _ from e]
    refine (mul_v (pw ⟨x, hx⟩ c) (M ⟨x, hx⟩)).trans ?_
    rw [q3, ← at_xc c ⟨x, hx⟩])
  intro x
  apply GF.ext
  rw [p3 x, atL_ev p1 x.v 256 x.h (by omega), zero_v]
  refine xsum_zero _ (fun j hj => ?_)
  have e : nth P j = 0 := by
    by_cases hjc : j < c
    · rw [key j, nth_timR (isB_xc c) q1 (by omega) (by omega)]
      unfold pc
      exact xsum_zero _ (fun i hi => by
        split
        · rw [nth_xc_low c i (by omega)]; exact Fld.mul_zero _
        · rfl)
    · exact nth_out P j (by omega)
  rw [e]; exact Fld.zero_mul (Fld.pw_lt _ _ x.h)
/-- equal but at one point: equal there too -/
theorem isP_off [Add GF] [Mul GF] [OfNat GF 0] [OfNat GF 1] [L : Nonempty GL] {F : GF → GF} {d : Nat} (hF : IsP F d) (hd : d ≤ 255) (x0 : GF) (h : ∀ x, x ≠ x0 → F x = 0) : F x0 = 0 := by
  obtain ⟨P, p1, p2, p3⟩ := hF
  have hX : IsB ((List.range 256).erase x0.v) := fun x hx => List.mem_range.1 (List.mem_of_mem_erase hx)
  have hXl : ((List.range 256).erase x0.v).length = 255 := by rw [List.length_erase_of_mem (List.mem_range.2 x0.h)]; simp
  have hnd : ((List.range 256).erase x0.v).Nodup := List.Nodup.erase _ List.nodup_range
  have hget : ∀ i (hi : i < 255), nth ((List.range 256).erase x0.v) i = ((List.range 256).erase x0.v)[i]'(by omega) := fun i hi => by
    unfold nth; rw [List.getD_eq_getElem?_getD, List.getElem?_eq_getElem (by omega)]; rfl
  have hz := roots_zero hX 255 (fun i j hji hi he => by
      rw [hget i hi, hget j (by omega)] at he
      exact List.pairwise_iff_getElem.1 hnd j i (by omega) (by omega) hji he) (nth P) p1.nth (fun j hj => nth_out P j (by omega)) (fun i hi => by
      rw [hget i hi]
      have hm := List.getElem_mem (l := (List.range 256).erase x0.v) (n := i) (by omega)
      obtain ⟨y, hy⟩ : ∃ y, y = ((List.range 256).erase x0.v)[i]'(by omega) := ⟨_, rfl⟩
      rw [← hy] at hm ⊢
      have hyl : y < 256 := List.mem_range.1 (List.mem_of_mem_erase hm)
      have hne : (⟨y, hyl⟩ : GF) ≠ x0 := fun e => by
        have h2 := (List.Nodup.mem_erase_iff List.nodup_range).1 hm
        exact h2.1 (congrArg GF.v e)
      have e := congrArg GF.v (h ⟨y, hyl⟩ hne)
      rw [p3] at e
      rw [← atL_ev p1 y 256 hyl (by omega)]
      exact e.trans zero_v)
  apply GF.ext
  rw [p3 x0, atL_eq p1 x0.v x0.h, zero_v]
  exact xsum_zero _ (fun j _ => by rw [hz j]; exact Fld.zero_mul (Fld.pw_lt _ _ x0.h))
end Go.Proofs.YtpenggkefbbopaaDoor
namespace Go.Proofs.YtpenggkefbbopaaDoor
set_option maxRecDepth 100000
set_option linter.unusedVariables false
set_option linter.unusedSimpArgs false
open GF

/-- the value of a list, whatever it holds -/
def gv [Add GF] [Mul GF] [OfNat GF 0] [OfNat GF 1] [L : Nonempty GL] (P : List Nat) (x : GF) : GF := ⟨atL P x.v % 256, Nat.mod_lt _ (by decide)⟩
theorem gv_v [Add GF] [Mul GF] [OfNat GF 0] [OfNat GF 1] [L : Nonempty GL] {P : List Nat} (hP : IsB P) (x : GF) : (gv P x).v = atL P x.v := Nat.mod_eq_of_lt (horN_lt hP x.v _)
theorem gv_mul [Add GF] [Mul GF] [OfNat GF 0] [OfNat GF 1] [L : Nonempty GL] {P Q : List Nat} (hP : IsB P) (hQ : IsB Q) (h1 : P.length ≤ 512) (h2 : Q.length ≤ 512) (x : GF) : gv (timR P Q) x = gv P x * gv Q x := by
  apply GF.ext
  rw [gv_v (isB_timR hP hQ), at_times hP hQ x.v x.h h1 h2]
  rw [mul_v]
  rw [gv_v hP, gv_v hQ]
theorem gv_add [Add GF] [Mul GF] [OfNat GF 0] [OfNat GF 1] [L : Nonempty GL] {P Q : List Nat} (hP : IsB P) (hQ : IsB Q) (x : GF) : gv (trimL (sumL P Q)) x = gv P x + gv Q x := by
  apply GF.ext
  rw [gv_v (isB_trimL (isB_sumL hP hQ)), Go.Proofs.YtpenggkefbbopaaDoor.at_sum hP hQ x.v x.h]
  rw [add_v]
  rw [gv_v hP, gv_v hQ]
theorem gv_congr [Add GF] [Mul GF] [OfNat GF 0] [OfNat GF 1] [L : Nonempty GL] {P Q : List Nat} (hP : IsB P) (hQ : IsB Q) (h : ∀ i, nth P i = nth Q i) (x : GF) : gv P x = gv Q x := by
  apply GF.ext; rw [gv_v hP, gv_v hQ]; exact atL_congr hP hQ x.v x.h h
theorem gv_isP [Add GF] [Mul GF] [OfNat GF 0] [OfNat GF 1] [L : Nonempty GL] {P : List Nat} (hP : IsB P) : IsP (gv P) P.length := ⟨P, hP, Nat.le_refl _, fun x => gv_v hP x⟩
theorem gv_over [Add GF] [Mul GF] [OfNat GF 0] [OfNat GF 1] [L : Nonempty GL] {P Q : List Nat} (hP : IsB P) (hQ : IsB Q) (h1 : P.length ≤ 512) (h2 : Q.length ≤ 512) (hz : trimN Q Q.length ≠ 0) (x : GF) : gv P x = gv (ovQ P Q) x * gv Q x + gv (ovT P Q) x := by
  have HS := div_sum hP hQ h1 h2 hz
  have hq := ovQ_small (P := P) hz
  have hQB := isB_ovQ hP hQ
  have hTB := isB_ovT hP hQ
  have e : gv (trimL (sumL P [])) x = gv P x := gv_congr (isB_trimL (isB_sumL hP (fun x hx => by cases hx))) hP (fun i => by rw [nth_trimL, nth_sumL, nth_nil, Nat.xor_zero]) x
  rw [← e, ← HS, gv_add (isB_timR hQB hQ) hTB, gv_mul hQB hQ (by omega) h2]
theorem gv_nil [Add GF] [Mul GF] [OfNat GF 0] [OfNat GF 1] [L : Nonempty GL] (x : GF) : gv [] x = 0 := GF.ext (by rw [zero_v]; rfl)
theorem gv_one [Add GF] [Mul GF] [OfNat GF 0] [OfNat GF 1] [L : Nonempty GL] (x : GF) : gv [1] x = 1 := by
  apply GF.ext
  rw [gv_v (fun y hy => by simp at hy; omega)]
  rw [one_v]; exact at_single 1 (by decide) x.v x.h

/-! Euclid's way, by values -/
structure WInv [Add GF] [Mul GF] [OfNat GF 0] [OfNat GF 1] [L : Nonempty GL] (c : Nat) (T : GF → GF) (l r b f : List Nat) : Prop where
  det : ∀ x, gv f x * gv l x + gv b x * gv r x = pw x c
  bez : ∃ g gb : GF → GF, IsP g f.length ∧ IsP gb f.length ∧ ∀ x, gv r x = gv f x * T x + pw x c * g x ∧ gv l x = gv b x * T x + pw x c * gb x
theorem WInv.step [Add GF] [Mul GF] [OfNat GF 0] [OfNat GF 1] [L : Nonempty GL] {c h : Nat} {T : GF → GF} {l r b f : List Nat} (i : WInv c T l r b f) (e : EInv c h l r b f) (hc : c ≤ 64) (hr : c + h + 2 ≤ 2 * r.length) : WInv c T r (ovT l r) f (trimL (sumL b (timR (ovQ l r) f))) := by
  have tr := e.top hr
  have f0 := e.tf.1
  have h0 := e.sum
  have h9 := e.lt
  have r0 := tr.1
  have h10 := e.lb
  obtain ⟨q1, q2, q3, q4⟩ := over_top e.bl e.br e.tl tr (by omega) (by omega)
  have hQB := isB_ovQ e.bl e.br
  obtain ⟨t1, t2⟩ := top_times hQB e.bf q1 e.tf (by omega) (by omega)
  obtain ⟨s1, s2⟩ := top_sum (A := b) t2 (by omega)
  have hv : ∀ x, gv (ovT l r) x = gv l x + gv (ovQ l r) x * gv r x := fun x => by
    have := gv_over e.bl e.br (by omega) (by omega) (top_z tr) x
    have h2 := eq_add this
    rw [← h2]
  have hf : ∀ x, gv (trimL (sumL b (timR (ovQ l r) f))) x = gv b x + gv (ovQ l r) x * gv f x := fun x => by
    rw [gv_add e.bb (isB_timR hQB e.bf), gv_mul hQB e.bf (by omega) (by omega)]
  obtain ⟨g, gb, g1, g2, g3⟩ := i.bez
  refine ⟨fun x => ?_, fun x => gb x + gv (ovQ l r) x * g x, g, ?_, ?_, fun x => ⟨?_, ?_⟩⟩
  · rw [hv x, hf x, ← i.det x]
    generalize gv b x = B; generalize gv (ovQ l r) x = Q; generalize gv f x = F; generalize gv r x = R; generalize gv l x = L
    rw [add_mul, mul_add]
    have e1 : Q * F * R = F * (Q * R) := by (haveI := aA; haveI := aC; haveI := mA; haveI := mC; ac_rfl)
    rw [e1]
    have e2 : B * R + F * (Q * R) + (F * L + F * (Q * R)) = F * L + B * R + (F * (Q * R) + F * (Q * R)) := by (haveI := aA; haveI := aC; haveI := mA; haveI := mC; ac_rfl)
    rw [e2, add_self, add_zero]
  · exact isP_add (g2.le (by omega)) ((isP_mul (gv_isP hQB) g1 (by omega) (by omega)).le (by omega))
  · exact g1.le (by omega)
  · show _ = _ + pw x c * (gb x + gv (ovQ l r) x * g x)
    rw [hv x, hf x]
    obtain ⟨k1, k2⟩ := g3 x
    rw [k1, k2]
    generalize gv b x = B; generalize gv (ovQ l r) x = Q; generalize gv f x = F; generalize g x = G1; generalize gb x = G2; generalize T x = T1; generalize pw x c = X
    simp only [add_mul, mul_add]
    have e1 : Q * (F * T1) = Q * F * T1 := by (haveI := aA; haveI := aC; haveI := mA; haveI := mC; ac_rfl)
    have e2 : Q * (X * G1) = X * (Q * G1) := by (haveI := aA; haveI := aC; haveI := mA; haveI := mC; ac_rfl)
    rw [e1, e2]
    (haveI := aA; haveI := aC; haveI := mA; haveI := mC; ac_rfl)
  · exact (g3 x).1
theorem euc_w [Add GF] [Mul GF] [OfNat GF 0] [OfNat GF 1] [L : Nonempty GL] {c h : Nat} {T : GF → GF} (hc : c ≤ 64) : ∀ (k : Nat) (l r b f : List Nat), EInv c h l r b f → WInv c T l r b f → r.length ≤ k → ∃ l' b', EInv c h l' (euc c h k l r b f).2 b' (euc c h k l r b f).1 ∧ WInv c T l' (euc c h k l r b f).2 b' (euc c h k l r b f).1 ∧ 2 * (euc c h k l r b f).2.length < c + h + 2 := by
  intro k
  induction k with
  | zero => intro l r b f e i hk; exact ⟨l, b, e, i, by show 2 * r.length < _; omega⟩
  | succ k ih =>
    intro l r b f e i hk
    by_cases hr : c + h + 2 ≤ 2 * r.length
    · obtain ⟨e2, h2⟩ := e.step hc hr
      have := ih _ _ _ _ e2 (i.step e hc hr) (by omega)
      simp only [euc, if_pos hr]
      exact this
    · simp only [euc, if_neg hr]
      exact ⟨l, b, e, i, by omega⟩
theorem w_start [Add GF] [Mul GF] [OfNat GF 0] [OfNat GF 1] [L : Nonempty GL] (c : Nat) (K : List Nat) (hK : IsB K) : WInv c (gv K) (List.replicate c 0 ++ [1]) K [] [1] := by
  have hx : ∀ x, gv (List.replicate c 0 ++ [1]) x = pw x c := fun x => by
    apply GF.ext
    show (gv (xc c) x).v = _
    rw [gv_v (isB_xc c)]
    exact at_xc c x
  refine ⟨fun x => ?_, fun _ => 0, fun _ => 1, (isP_zero 0).le (by simp), (isP_const 1), fun x => ⟨?_, ?_⟩⟩
  · rw [gv_one, gv_nil, hx, one_mul, zero_mul, add_zero]
  · rw [gv_one, one_mul, mul_zero, add_zero]
  · rw [hx, gv_nil, zero_mul, zero_add, mul_one]
end Go.Proofs.YtpenggkefbbopaaDoor
namespace Go.Proofs.YtpenggkefbbopaaDoor
set_option maxRecDepth 100000
set_option linter.unusedVariables false
set_option linter.unusedSimpArgs false
open GF

def gn [Add GF] [Mul GF] [OfNat GF 0] [OfNat GF 1] [L : Nonempty GL] (P : List Nat) (i : Nat) : GF := ⟨nth P i % 256, Nat.mod_lt _ (by decide)⟩
theorem gn_v [Add GF] [Mul GF] [OfNat GF 0] [OfNat GF 1] [L : Nonempty GL] {P : List Nat} (hP : IsB P) (i : Nat) : (gn P i).v = nth P i := Nat.mod_eq_of_lt (hP.nth i)
theorem gv_sum [Add GF] [Mul GF] [OfNat GF 0] [OfNat GF 1] [L : Nonempty GL] {P : List Nat} (hP : IsB P) (x : GF) (n : Nat) (hn : P.length ≤ n) : gv P x = sum n (fun i => gn P i * pw x i) := by
  apply GF.ext
  rw [gv_v hP, sum_v, atL_ev hP x.v n x.h hn]
  refine xsum_congr n (fun i _ => ?_)
  rw [mul_v, gn_v hP]; rfl
/-- the weight of place p of a word of n bytes, and where a locator is nought for it -/
def wt [Add GF] [Mul GF] [OfNat GF 0] [OfNat GF 1] [L : Nonempty GL] (n p : Nat) : GF := al ((n : Int) - 1 - p)
def xp [Add GF] [Mul GF] [OfNat GF 0] [OfNat GF 1] [L : Nonempty GL] (n p : Nat) : GF := al ((p : Int) + 1 - n)
theorem wt_xp [Add GF] [Mul GF] [OfNat GF 0] [OfNat GF 1] [L : Nonempty GL] (n p : Nat) : wt n p * xp n p = 1 := by
  unfold wt xp; rw [← al_add]
  have e : (n : Int) - 1 - p + ((p : Int) + 1 - n) = 0 := by omega
  rw [e]; exact al_zero
theorem wt_ne [Add GF] [Mul GF] [OfNat GF 0] [OfNat GF 1] [L : Nonempty GL] (n p : Nat) : wt n p ≠ 0 := al_ne _
theorem xp_ne [Add GF] [Mul GF] [OfNat GF 0] [OfNat GF 1] [L : Nonempty GL] (n p : Nat) : xp n p ≠ 0 := al_ne _
theorem lin_at [Add GF] [Mul GF] [OfNat GF 0] [OfNat GF 1] [L : Nonempty GL] (n p : Nat) : 1 + wt n p * xp n p = 0 := by rw [wt_xp]; exact add_self 1
theorem lin_ne [Add GF] [Mul GF] [OfNat GF 0] [OfNat GF 1] [L : Nonempty GL] {n p q : Nat} (hn : n ≤ 255) (hp : p < n) (hq : q < n) (h : p ≠ q) : 1 + wt n q * xp n p ≠ 0 := by
  intro e
  have e1 := add_eq_zero e
  unfold wt xp at e1
  rw [← al_add, ← al_zero] at e1
  have := al_inj e1
  omega
theorem rev_val [Add GF] [Mul GF] [OfNat GF 0] [OfNat GF 1] [L : Nonempty GL] {W : List Nat} (hW : IsB W) (n : Nat) (hn : W.length = n) (k : Nat) : gv W.reverse (al ((k : Int) + 1)) = sum n (fun p => gn W p * pw (wt n p) (k + 1)) := by
  rw [gv_sum (isB_reverse hW) _ n (by rw [List.length_reverse]; omega), sum_rev]
  refine sum_congr fun p hp => ?_
  have e1 : gn W.reverse (n - 1 - p) = gn W p := by
    apply GF.ext
    rw [gn_v (isB_reverse hW), gn_v hW, nth_reverse W _ (by omega)]
    congr 1; omega
  rw [e1]
  congr 1
  unfold wt
  rw [← al_pw, ← al_pw]
  congr 1
  have : ((n - 1 - p : Nat) : Int) = (n : Int) - 1 - p := by omega
  rw [this, Int.mul_comm]
  congr 1
theorem syn_val [Add GF] [Mul GF] [OfNat GF 0] [OfNat GF 1] [L : Nonempty GL] {W V : List Nat} (hW : IsB W) (hV : IsB V) (n c : Nat) (h1 : W.length = n) (h2 : V.length = n) (hc : valL V c = []) (j : Nat) (hj : j < c) :
    gn (synL W c) j = sum n (fun p => (gn W p + gn V p) * pw (wt n p) (j + 1)) := by
  have e1 : gn (synL W c) j = gv W.reverse (al ((j : Int) + 1)) := by
    apply GF.ext
    rw [gn_v (isB_synL hW c), nth_synL W c j hj, gv_v (isB_reverse hW)]; rfl
  have e2 : gv V.reverse (al ((j : Int) + 1)) = 0 := by
    apply GF.ext
    rw [gv_v (isB_reverse hV)]
    rw [zero_v]
    show atL V.reverse (pow2 ((j : Int) + 1)) = 0
    rw [← nth_synL V c j hj, ← nth_trimL]
    show nth (valL V c) j = 0
    rw [hc]; exact nth_nil j
  rw [rev_val hV n h2 j] at e2
  rw [e1, rev_val hW n h1 j, ← add_zero (sum n fun p => gn W p * pw (wt n p) (j + 1)), ← e2, ← sum_add]
  exact sum_congr fun p _ => (add_mul _ _ _).symm
theorem val_S [Add GF] [Mul GF] [OfNat GF 0] [OfNat GF 1] [L : Nonempty GL] {W V : List Nat} (hW : IsB W) (hV : IsB V) (n c : Nat) (h1 : W.length = n) (h2 : V.length = n) (hc : valL V c = []) (x : GF) :
    gv (valL W c) x = sum n (fun p => (gn W p + gn V p) * wt n p * sum c (fun j => pw (wt n p * x) j)) := by
  have e0 : gv (valL W c) x = gv (synL W c) x := gv_congr (isB_valL hW c) (isB_synL hW c) (fun i => nth_trimL _ i) x
  rw [e0, gv_sum (isB_synL hW c) x c (by rw [synL_len]; exact Nat.le_refl _)]
  have e1 : sum c (fun i => gn (synL W c) i * pw x i) = sum c (fun j => sum n (fun p => (gn W p + gn V p) * wt n p * pw (wt n p * x) j)) := by
    refine sum_congr fun j hj => ?_
    rw [syn_val hW hV n c h1 h2 hc j hj, sum_mul]
    refine sum_congr fun p _ => ?_
    rw [mul_pw, pw_succ]
    (haveI := aA; haveI := aC; haveI := mA; haveI := mC; ac_rfl)
  rw [e1, sum_swap]
  exact sum_congr fun p _ => (mul_sum _ _ _).symm

/-! products over sets of places -/
def loc [Add GF] [Mul GF] [OfNat GF 0] [OfNat GF 1] [L : Nonempty GL] (n : Nat) (B : Nat → Bool) (x : GF) : GF := prod n (fun p => if B p then 1 + wt n p * x else 1)
def less (B : Nat → Bool) (q p : Nat) : Bool := p != q && B p
theorem loc_out [Add GF] [Mul GF] [OfNat GF 0] [OfNat GF 1] [L : Nonempty GL] {n : Nat} (B : Nat → Bool) (q : Nat) (hq : q < n) (hB : B q = true) (x : GF) : loc n B x = (1 + wt n q * x) * loc n (less B q) x := by
  unfold loc
  rw [prod_out _ q hq, hB]
  simp only [if_true]
  congr 1
  refine prod_congr fun p _ => ?_
  unfold less
  by_cases e : p = q
  · subst e; simp
  · simp [e]
theorem cn_congr {B C : Nat → Bool} (n : Nat) (h : ∀ i, i < n → B i = C i) : cn B n = cn C n := by
  induction n with
  | zero => rfl
  | succ n ih => unfold cn; rw [h n (by omega), ih (fun i hi => h i (by omega))]
theorem cn_less (B : Nat → Bool) (q n : Nat) (hq : q < n) (hB : B q = true) : cn (less B q) n + 1 = cn B n := by
  induction n with
  | zero => omega
  | succ n ih =>
    by_cases e : q = n
    · subst e
      have e1 : cn (less B q) q = cn B q := cn_congr q (fun i hi => by unfold less; simp [show i ≠ q by omega])
      simp only [cn, hB, if_true]
      rw [show less B q q = false by unfold less; simp, e1]
      simp
    · have e2 : less B q n = B n := by unfold less; simp [show n ≠ q by omega]
      have := ih (by omega)
      simp only [cn, e2]
      split <;> omega
theorem loc_zero [Add GF] [Mul GF] [OfNat GF 0] [OfNat GF 1] [L : Nonempty GL] {n : Nat} (B : Nat → Bool) (q : Nat) (hq : q < n) (hB : B q = true) : loc n B (xp n q) = 0 := by
  rw [loc_out B q hq hB, lin_at, zero_mul]
theorem loc_ne [Add GF] [Mul GF] [OfNat GF 0] [OfNat GF 1] [L : Nonempty GL] {n : Nat} (hn : n ≤ 255) (B : Nat → Bool) (q : Nat) (hq : q < n) (hB : B q = false) : loc n B (xp n q) ≠ 0 := by
  unfold loc
  refine prod_ne fun p hp => ?_
  by_cases e : B p = true
  · rw [e, if_pos rfl]
    exact lin_ne hn hq hp (fun h => by rw [h, e] at hB; cases hB)
  · rw [if_neg e]; exact one_ne
theorem loc_isP [Add GF] [Mul GF] [OfNat GF 0] [OfNat GF 1] [L : Nonempty GL] (n : Nat) (hn : n ≤ 255) (B : Nat → Bool) : IsP (loc n B) (cn B n + 1) := isP_prod B (wt n) n (by omega)

/-- what is wrong, seen by the locator -/
def ome [Add GF] [Mul GF] [OfNat GF 0] [OfNat GF 1] [L : Nonempty GL] (n : Nat) (E : Nat → GF) (B : Nat → Bool) (x : GF) : GF := sum n (fun p => E p * wt n p * loc n (less B p) x)
def ome2 [Add GF] [Mul GF] [OfNat GF 0] [OfNat GF 1] [L : Nonempty GL] (n c : Nat) (E : Nat → GF) (B : Nat → Bool) (x : GF) : GF := sum n (fun p => E p * wt n p * pw (wt n p) c * loc n (less B p) x)
theorem key_eq [Add GF] [Mul GF] [OfNat GF 0] [OfNat GF 1] [L : Nonempty GL] (n c : Nat) (E : Nat → GF) (B : Nat → Bool) (hE : ∀ p, p < n → B p = false → E p = 0) (x : GF) :
    sum n (fun p => E p * wt n p * sum c (fun j => pw (wt n p * x) j)) * loc n B x = ome n E B x + pw x c * ome2 n c E B x := by
  unfold ome ome2
  rw [sum_mul, mul_sum, ← sum_add]
  refine sum_congr fun p hp => ?_
  by_cases hB : B p = true
  · rw [loc_out B p hp hB]
    have g := geo (wt n p * x) c
    have e1 : E p * wt n p * sum c (fun j => pw (wt n p * x) j) * ((1 + wt n p * x) * loc n (less B p) x) = E p * wt n p * loc n (less B p) x * ((1 + wt n p * x) * sum c (fun j => pw (wt n p * x) j)) := by (haveI := aA; haveI := aC; haveI := mA; haveI := mC; ac_rfl)
    rw [e1, g, mul_add, mul_one, mul_pw]
    congr 1
    (haveI := aA; haveI := aC; haveI := mA; haveI := mC; ac_rfl)
  · have h0 := hE p hp (by simpa using hB)
    rw [h0]
    simp only [zero_mul, mul_zero, add_zero]
theorem ome_isP [Add GF] [Mul GF] [OfNat GF 0] [OfNat GF 1] [L : Nonempty GL] (n : Nat) (hn : n ≤ 255) (E : Nat → GF) (B : Nat → Bool) (hE : ∀ p, p < n → B p = false → E p = 0) : IsP (ome n E B) (cn B n) := by
  refine isP_sum fun p hp => ?_
  by_cases hB : B p = true
  · have h1 := cn_less B p n hp hB
    have h2 := isP_mul (isP_const (E p * wt n p)) (loc_isP n hn (less B p)) (by omega) (by have := cn_le (less B p) n; omega)
    exact h2.le (by omega)
  · exact isP_congr (isP_zero _) (fun x => by rw [hE p hp (by simpa using hB), zero_mul, zero_mul])
theorem ome2_isP [Add GF] [Mul GF] [OfNat GF 0] [OfNat GF 1] [L : Nonempty GL] (n c : Nat) (hn : n ≤ 255) (E : Nat → GF) (B : Nat → Bool) (hE : ∀ p, p < n → B p = false → E p = 0) : IsP (ome2 n c E B) (cn B n) := by
  refine isP_sum fun p hp => ?_
  by_cases hB : B p = true
  · have h1 := cn_less B p n hp hB
    have h2 := isP_mul (isP_const (E p * wt n p * pw (wt n p) c)) (loc_isP n hn (less B p)) (by omega) (by have := cn_le (less B p) n; omega)
    exact h2.le (by omega)
  · exact isP_congr (isP_zero _) (fun x => by rw [hE p hp (by simpa using hB), zero_mul, zero_mul, zero_mul])
theorem ome_at [Add GF] [Mul GF] [OfNat GF 0] [OfNat GF 1] [L : Nonempty GL] {n : Nat} (E : Nat → GF) (B : Nat → Bool) (hE : ∀ p, p < n → B p = false → E p = 0) (q : Nat) (hq : q < n) (hB : B q = true) :
    ome n E B (xp n q) = E q * wt n q * loc n (less B q) (xp n q) := by
  unfold ome
  refine sum_one q hq fun p hp hpq => ?_
  by_cases hBp : B p = true
  · rw [loc_zero (less B p) q hq (by unfold less; simp [hB]; omega), mul_zero]
  · rw [hE p hp (by simpa using hBp), zero_mul, zero_mul]
theorem less_ne [Add GF] [Mul GF] [OfNat GF 0] [OfNat GF 1] [L : Nonempty GL] {n : Nat} (hn : n ≤ 255) (B : Nat → Bool) (q : Nat) (hq : q < n) : loc n (less B q) (xp n q) ≠ 0 := loc_ne hn _ q hq (by unfold less; simp)
end Go.Proofs.YtpenggkefbbopaaDoor
namespace Go.Proofs.YtpenggkefbbopaaDoor
set_option maxRecDepth 100000
set_option linter.unusedVariables false
set_option linter.unusedSimpArgs false
open GF

theorem sum_pairs [Add GF] [Mul GF] [OfNat GF 0] [OfNat GF 1] [L : Nonempty GL] (M : Nat) (F : Nat → GF) : sum (2 * M) F = sum M (fun m => F (2 * m) + F (2 * m + 1)) := by
  induction M with
  | zero => rfl
  | succ M ih =>
    show sum (2 * M + 1 + 1) F = sum M _ + (F (2 * M) + F (2 * M + 1))
    show sum (2 * M) F + F (2 * M) + F (2 * M + 1) = _
    rw [ih, add_assoc]
theorem sum_split [Add GF] [Mul GF] [OfNat GF 0] [OfNat GF 1] [L : Nonempty GL] (c m : Nat) (F : Nat → GF) : sum (c + m) F = sum c F + sum m (fun i => F (c + i)) := by
  induction m with
  | zero => exact (add_zero _).symm
  | succ m ih => show sum (c + m) F + F (c + m) = sum c F + (sum m _ + F (c + m)); rw [ih, add_assoc]
theorem gv_split [Add GF] [Mul GF] [OfNat GF 0] [OfNat GF 1] [L : Nonempty GL] {L : List Nat} (hL : IsB L) (c : Nat) (x : GF) : gv L x = gv (L.take c) x + pw x c * gv (L.drop c) x := by
  rw [gv_sum hL x (c + L.length) (by omega), sum_split, gv_sum (isB_take hL c) x c (by rw [List.length_take]; omega), gv_sum (isB_drop hL c) x L.length (by rw [List.length_drop]; omega), mul_sum]
  congr 1
  · refine sum_congr fun i hi => ?_
    congr 1
    apply GF.ext
    rw [gn_v hL, gn_v (isB_take hL c), nth_take L c i hi]
  · refine sum_congr fun i hi => ?_
    have e : gn L (c + i) = gn (L.drop c) i := by
      apply GF.ext
      rw [gn_v hL, gn_v (isB_drop hL c)]
      unfold nth
      rw [List.getD_eq_getElem?_getD, List.getD_eq_getElem?_getD, List.getElem?_drop]
    rw [e, pw_add]; (haveI := aA; haveI := aC; haveI := mA; haveI := mC; ac_rfl)
/-- a zero taken out, and the derivative there -/
theorem take_zero [Add GF] [Mul GF] [OfNat GF 0] [OfNat GF 1] [L : Nonempty GL] {A : List Nat} (hA : IsB A) (hl : A.length ≤ 250) (X x0 : GF) (hX : X * x0 = 1) (h0 : gv A x0 = 0) :
    ∃ F : GF → GF, IsP F A.length ∧ (∀ x, gv A x = (1 + X * x) * F x) ∧ gv (drvL A) x0 = X * F x0 := by
  have hXn : X ≠ 0 := fun e => by rw [e, zero_mul] at hX; exact absurd hX.symm (one_ne)
  have hQ := isB_pair 1 X.v (by decide) X.h
  have tQ : Top [1, X.v] := ⟨by simp, by simp [nth]; exact ne_v hXn⟩
  have hz := top_z tQ
  have hqB := isB_ovQ hA hQ
  have hrB := isB_ovT hA hQ
  have hql := ovQ_small (P := A) hz
  have hrl := div_rest hA hQ (by omega) (by simp) hz
  rw [top_trim tQ] at hrl
  have hlin : ∀ x, gv [1, X.v] x = 1 + X * x := fun x => by apply GF.ext; rw [gv_v hQ]; exact at_lin X x
  have hv : ∀ x, gv A x = gv (ovQ A [1, X.v]) x * (1 + X * x) + gv (ovT A [1, X.v]) x := fun x => by
    rw [← hlin x]; exact gv_over hA hQ (by omega) (by simp) hz x
  have hrc : ∀ x, gv (ovT A [1, X.v]) x = gn (ovT A [1, X.v]) 0 := fun x => by
    rw [gv_sum hrB x 1 (by simp at hrl; omega)]
    show 0 + gn _ 0 * pw x 0 = _
    rw [zero_add, pw_zero, mul_one]
  have hr0 : gn (ovT A [1, X.v]) 0 = 0 := by
    have h := hv x0
    rw [h0, hX, add_self, mul_zero, zero_add, hrc] at h
    exact h.symm
  have hA2 : ∀ x, gv A x = (1 + X * x) * gv (ovQ A [1, X.v]) x := fun x => by rw [hv x, hrc x, hr0, add_zero, mul_comm]
  refine ⟨gv (ovQ A [1, X.v]), (gv_isP hqB).le hql, hA2, ?_⟩
  obtain ⟨q, hq⟩ : ∃ q, q = ovQ A [1, X.v] := ⟨_, rfl⟩
  rw [← hq] at hqB hql hA2 ⊢
  have hsame := same_vals hA (isB_timR hQ hqB) (by omega) (by have := timR_short hQ hqB; simp at this; omega) (fun x hx => by
    have h := congrArg GF.v (hA2 ⟨x, hx⟩)
    rw [gv_v hA] at h
    rw [at_times hQ hqB x hx (by simp) (by omega)]
    rw [show atL A x = _ from h]
    refine (mul_v (1 + X * (⟨x, hx⟩ : GF)) (gv q ⟨x, hx⟩)).trans ?_
    rw [gv_v hqB, ← at_lin X ⟨x, hx⟩])
  have hco : ∀ j, gn A (j + 1) = gn q (j + 1) + X * gn q j := fun j => by
    apply GF.ext
    rw [gn_v hA, hsame (j + 1), nth_timR hQ hqB (by simp) (by omega)]
    rw [add_v, mul_v]
    show (0 ^^^ (if 0 ≤ j + 1 then Fld.mul (nth q (j + 1 - 0)) 1 else 0)) ^^^ (if 1 ≤ j + 1 then Fld.mul (nth q (j + 1 - 1)) X.v else 0) = (gn q (j + 1)).v ^^^ Fld.mul X.v (gn q j).v
    rw [if_pos (Nat.zero_le _), if_pos (by omega), gn_v hqB, gn_v hqB, Nat.zero_xor, Nat.sub_zero, Nat.add_sub_cancel, Fld.mul_one (hqB.nth _), Fld.mul_comm (hqB.nth _) X.h]
  have hdr : ∀ i, gn (drvL A) i = if i % 2 = 0 then gn A (i + 1) else 0 := fun i => by
    apply GF.ext
    rw [gn_v (isB_drvL hA)]
    by_cases h : i < A.length
    · rw [nth_drvL A i h]
      split
      · rw [gn_v hA]
      · exact zero_v.symm
    · rw [nth_out (drvL A) i (by rw [drvL_len]; omega)]
      split
      · rw [gn_v hA, nth_out A _ (by omega)]
      · exact zero_v.symm
  rw [gv_sum (isB_drvL hA) x0 (2 * A.length) (by rw [drvL_len]; omega), gv_sum hqB x0 (2 * A.length) (by omega), mul_sum, sum_pairs, sum_pairs]
  refine sum_congr fun m _ => ?_
  rw [hdr (2 * m), hdr (2 * m + 1), if_pos (by omega), if_neg (by omega), zero_mul, add_zero, hco (2 * m), pw_succ, add_mul]
  have e : X * (gn q (2 * m + 1) * (pw x0 (2 * m) * x0)) = X * x0 * (gn q (2 * m + 1) * pw x0 (2 * m)) := by (haveI := aA; haveI := aC; haveI := mA; haveI := mC; ac_rfl)
  rw [e, hX, one_mul]
  (haveI := aA; haveI := aC; haveI := mA; haveI := mC; ac_rfl)
/-! holes -/
theorem cnt_cn (H : List Bool) (k : Nat) : cntB H k = cn (bat H) k := by
  induction k with
  | zero => rfl
  | succ k ih => unfold cntB cn; rw [ih]
theorem holN_len [Add GF] [Mul GF] [OfNat GF 0] [OfNat GF 1] [L : Nonempty GL] (H : List Bool) (n k : Nat) : (holN H n k).length ≤ cntB H k + 1 := by
  induction k with
  | zero => simp [holN]
  | succ k ih =>
    unfold holN cntB
    split
    · have h := timR_short (isB_holN H n k) (isB_pair 1 (pow2 ((n : Int) - 1 - k)) (by decide) (pow2_lt _))
      simp at h
      omega
    · exact ih
theorem hol_val [Add GF] [Mul GF] [OfNat GF 0] [OfNat GF 1] [L : Nonempty GL] (H : List Bool) (n k : Nat) (hk : k ≤ 255) (x : GF) : gv (holN H n k) x = prod k (fun p => if bat H p then 1 + wt n p * x else 1) := by
  induction k with
  | zero => exact gv_one x
  | succ k ih =>
    have hl := holN_len H n k
    have hc := cntB_le H k
    show gv (if bat H k then timR (holN H n k) [1, pow2 ((n : Int) - 1 - k)] else holN H n k) x = prod k _ * (if bat H k then 1 + wt n k * x else 1)
    by_cases hb : bat H k = true
    · rw [if_pos hb, if_pos hb, gv_mul (isB_holN H n k) (isB_pair 1 _ (by decide) (pow2_lt _)) (by omega) (by simp), ih (by omega)]
      congr 1
      apply GF.ext
      rw [gv_v (isB_pair 1 _ (by decide) (pow2_lt _))]
      exact at_lin (wt n k) x
    · rw [if_neg hb, if_neg hb, mul_one, ih (by omega)]
theorem cn_or (U H : Nat → Bool) (n : Nat) (h : ∀ i, U i = true → H i = false) : cn (fun i => U i || H i) n = cn U n + cn H n := by
  induction n with
  | zero => rfl
  | succ n ih =>
    simp only [cn, ih]
    by_cases hu : U n = true
    · simp [hu, h n hu]; omega
    · have hu' : U n = false := by simpa using hu
      simp only [hu', Bool.false_or]
      by_cases hh : H n = true
      · simp [hh]; omega
      · simp [hh]
theorem loc_or [Add GF] [Mul GF] [OfNat GF 0] [OfNat GF 1] [L : Nonempty GL] (n : Nat) (U H : Nat → Bool) (h : ∀ i, U i = true → H i = false) (x : GF) : loc n (fun i => U i || H i) x = loc n U x * loc n H x := by
  unfold loc
  rw [← prod_mul]
  refine prod_congr fun p _ => ?_
  by_cases hu : U p = true
  · simp [hu, h p hu, mul_one]
  · have hu' : U p = false := by simpa using hu
    simp only [hu', Bool.false_or]
    simp [one_mul]
end Go.Proofs.YtpenggkefbbopaaDoor
namespace Go.Proofs.YtpenggkefbbopaaDoor
set_option maxRecDepth 100000
set_option linter.unusedVariables false
set_option linter.unusedSimpArgs false
open GF

/-- which places are wrong and no holes -/
def wrU (W V : List Nat) (H : List Bool) (p : Nat) : Bool := (nth W p != nth V p) && !bat H p
def wrE [Add GF] [Mul GF] [OfNat GF 0] [OfNat GF 1] [L : Nonempty GL] (W V : List Nat) (p : Nat) : GF := gn W p + gn V p
theorem wrE_v [Add GF] [Mul GF] [OfNat GF 0] [OfNat GF 1] [L : Nonempty GL] {W V : List Nat} (hW : IsB W) (hV : IsB V) (p : Nat) : (wrE W V p).v = nth W p ^^^ nth V p := by
  unfold wrE; rw [add_v]
  rw [gn_v hW, gn_v hV]
theorem wrE_zero [Add GF] [Mul GF] [OfNat GF 0] [OfNat GF 1] [L : Nonempty GL] {W V : List Nat} (hW : IsB W) (hV : IsB V) (p : Nat) : wrE W V p = 0 ↔ nth W p = nth V p := by
  constructor
  · intro h
    have h2 := congrArg GF.v h
    rw [wrE_v hW hV, zero_v] at h2
    exact xor_eq h2
  · intro h
    apply GF.ext
    rw [wrE_v hW hV, h, Nat.xor_self]; exact zero_v.symm
theorem near_key [Add GF] [Mul GF] [OfNat GF 0] [OfNat GF 1] [L : Nonempty GL] {W V : List Nat} (hW : IsB W) (hV : IsB V) (H : List Bool) (n c : Nat) (h1 : W.length = n) (h2 : V.length = n) (h3 : H.length = n) (hn : n ≤ 255) (hc : c ≤ 64) (hv : valL V c = [])
    (he : 2 * cn (wrU W V H) n + cntB H n ≤ c) :
    let B := fun p => wrU W V H p || bat H p
    (valL W c = [] → ∀ p, p < n → nth W p = nth V p) ∧ ∀ p, p < n → mby (accA (valL W c) c H) (accS (valL W c) c H).2 n p = nth W p ^^^ nth V p := by
  intro B
  have hdis : ∀ i, wrU W V H i = true → bat H i = false := fun i hi => by
    unfold wrU at hi
    simp at hi
    exact hi.2
  have hE : ∀ p, p < n → B p = false → wrE W V p = 0 := fun p _ hb => by
    rw [wrE_zero hW hV]
    have hb' : wrU W V H p = false ∧ bat H p = false := by simpa [B] using hb
    have h4 := hb'.1
    unfold wrU at h4
    rw [hb'.2] at h4
    simpa using h4
  obtain ⟨e, hee⟩ : ∃ e, e = cn (wrU W V H) n := ⟨_, rfl⟩
  obtain ⟨h, hhh⟩ : ∃ h, h = cntB H n := ⟨_, rfl⟩
  have hcB : cn B n = e + h := by rw [hee, hhh, cnt_cn]; exact cn_or _ _ n hdis
  rw [← hee, ← hhh] at he
  obtain ⟨K, hK⟩ : ∃ K, K = valL W c := ⟨_, rfl⟩
  have hKB : IsB K := by rw [hK]; exact isB_valL hW c
  have hKl : K.length ≤ c := by rw [hK]; have := trimL_le (synL W c); rw [synL_len] at this; exact this
  have hkey : ∀ x, gv K x * loc n B x = ome n (wrE W V) B x + pw x c * ome2 n c (wrE W V) B x := fun x => by
    rw [hK, val_S hW hV n c h1 h2 hv x]
    exact key_eq n c (wrE W V) B hE x
  have hO := ome_isP n hn (wrE W V) B hE
  have hO2 := ome2_isP n c hn (wrE W V) B hE
  rw [hcB] at hO hO2
  have hOat := fun q hq hB => ome_at (n := n) (wrE W V) B hE q hq hB
  rw [← hK]
  constructor
  · intro hK0 p hp
    have hz : ∀ x, ome n (wrE W V) B x = 0 := by
      refine isP_all hO (by omega) c (e + h) hO2 (by omega) (by omega) (fun x => ?_)
      have hx := hkey x
      rw [hK0, gv_nil, zero_mul] at hx
      exact (add_eq_zero hx.symm)
    by_cases hb : B p = true
    · have h5 := hOat p hp hb
      rw [hz] at h5
      rcases mul_eq_zero h5.symm with h6 | h6
      · rcases mul_eq_zero h6 with h7 | h7
        · exact (wrE_zero hW hV p).1 h7
        · exact absurd h7 (wt_ne n p)
      · exact absurd h6 (less_ne hn B p hp)
    · exact (wrE_zero hW hV p).1 (hE p hp (by simpa using hb))
  · -- Euclid's way
    have hGB := isB_holN H H.length H.length
    have hGl := holN_len H H.length H.length
    obtain ⟨G, hG⟩ : ∃ G, G = holN H H.length H.length := ⟨_, rfl⟩
    rw [← hG] at hGB hGl
    rw [h3, ← hhh] at hGl
    have hGv : ∀ x, gv G x = loc n (bat H) x := fun x => by rw [hG, hol_val H H.length H.length (by omega) x, h3]; rfl
    have hTB := isB_timR hKB hGB
    have hTl := timR_short hKB hGB
    obtain ⟨M, hM⟩ : ∃ M, M = accM K c H := ⟨_, rfl⟩
    have hMe : M = trimL ((timR K G).take c) := by rw [hM, hG]; rfl
    have hMB : IsB M := by rw [hMe]; exact isB_trimL (isB_take hTB c)
    have hMl : M.length ≤ c := by
      rw [hMe]
      have h4 := trimL_le ((timR K G).take c)
      rw [List.length_take] at h4
      omega
    have hMv : ∀ x, gv K x * gv G x = gv M x + pw x c * gv ((timR K G).drop c) x := fun x => by
      rw [← gv_mul hKB hGB (by omega) (by omega), gv_split hTB c x]
      congr 1
      rw [hMe]
      exact gv_congr (isB_take hTB c) (isB_trimL (isB_take hTB c)) (fun i => (nth_trimL _ i).symm) x
    have hDB := isB_drop hTB c
    have hDl : ((timR K G).drop c).length ≤ h := by rw [List.length_drop]; omega
    obtain ⟨l', b', E1, W1, E2⟩ := euc_w (T := gv M) hc M.length (List.replicate c 0 ++ [1]) M [] [1] (euc_start (h := h) hMB (by rw [hMe]; exact trim_top _) hMl (by omega)) (w_start c M hMB) (Nat.le_refl _)
    have hS : euc c h M.length (List.replicate c 0 ++ [1]) M [] [1] = accS K c H := by rw [hM, hhh, ← h3]; rfl
    rw [hS] at E1 W1 E2
    obtain ⟨f, hf⟩ : ∃ f, f = (accS K c H).1 := ⟨_, rfl⟩
    obtain ⟨r, hr⟩ : ∃ r, r = (accS K c H).2 := ⟨_, rfl⟩
    have hA : accA K c H = timR f G := by rw [hf, hG]; rfl
    rw [hA, ← hr]
    rw [← hf, ← hr] at E1 W1
    rw [← hr] at E2
    have i1 := E1.sum
    have i2 := E1.big
    have f0 := E1.tf.1
    have hfl : 2 * f.length ≤ c - h + 2 := by omega
    obtain ⟨g, gb, g1, _, g3⟩ := W1.bez
    have hAB := isB_timR E1.bf hGB
    have hAl := timR_short E1.bf hGB
    have hAv : ∀ x, gv (timR f G) x = gv f x * loc n (bat H) x := fun x => by rw [gv_mul E1.bf hGB (by omega) (by omega), hGv]
    have hLB : ∀ x, loc n B x = loc n (wrU W V H) x * loc n (bat H) x := fun x => loc_or n _ _ hdis x
    have hU := loc_isP n hn (wrU W V H)
    rw [← hee] at hU
    -- the two ways to say what is wrong are one
    have hN : ∀ x, loc n (wrU W V H) x * gv r x + gv f x * ome n (wrE W V) B x = 0 := by
      refine isP_all (d := c) (isP_add ((isP_mul hU (gv_isP E1.br) (by omega) (by omega)).le (by omega)) ((isP_mul (gv_isP E1.bf) hO (by omega) (by omega)).le (by omega))) (by omega) c (f.length + e + h + 2)
        (M := fun x => loc n (wrU W V H) x * g x + (gv f x * loc n (wrU W V H) x * gv ((timR K G).drop c) x + gv f x * ome2 n c (wrE W V) B x))
        (isP_add ((isP_mul hU g1 (by omega) (by omega)).le (by omega)) (isP_add ((isP_mul (isP_mul (gv_isP E1.bf) hU (by omega) (by omega)) (gv_isP hDB) (by omega) (by omega)).le (by omega)) ((isP_mul (gv_isP E1.bf) hO2 (by omega) (by omega)).le (by omega)))) (by omega) (Nat.le_refl _) (fun x => ?_)
      have k1 := (g3 x).1
      have k2 := hkey x
      have k3 := hMv x
      rw [hGv] at k3
      have k4 : ome n (wrE W V) B x = gv K x * loc n B x + pw x c * ome2 n c (wrE W V) B x := by
        rw [k2, add_assoc, add_self, add_zero]
      rw [hLB] at k4
      have k5 : gv K x * (loc n (wrU W V H) x * loc n (bat H) x) = loc n (wrU W V H) x * (gv M x + pw x c * gv ((timR K G).drop c) x) := by
        rw [← k3]; (haveI := aA; haveI := aC; haveI := mA; haveI := mC; ac_rfl)
      rw [k5] at k4
      rw [k4, k1]
      show _ = pw x c * (loc n (wrU W V H) x * g x + (gv f x * loc n (wrU W V H) x * gv ((timR K G).drop c) x + gv f x * ome2 n c (wrE W V) B x))
      generalize loc n (wrU W V H) x = S; generalize gv f x = F; generalize gv M x = T; generalize g x = G1; generalize pw x c = X; generalize gv ((timR K G).drop c) x = D; generalize ome2 n c (wrE W V) B x = O
      simp only [mul_add]
      have a1 : S * (F * T) = F * (S * T) := by (haveI := aA; haveI := aC; haveI := mA; haveI := mC; ac_rfl)
      rw [a1]
      have a2 : F * (S * T) + S * (X * G1) + (F * (S * T) + F * (S * (X * D)) + F * (X * O)) = (F * (S * T) + F * (S * T)) + (S * (X * G1) + (F * (S * (X * D)) + F * (X * O))) := by (haveI := aA; haveI := aC; haveI := mA; haveI := mC; ac_rfl)
      rw [a2, add_self, zero_add]
      (haveI := aA; haveI := aC; haveI := mA; haveI := mC; ac_rfl)
    have hN' : ∀ x, loc n (wrU W V H) x * gv r x = gv f x * ome n (wrE W V) B x := fun x => add_eq_zero (hN x)
    have hdet : ∀ x, x ≠ 0 → ¬ (gv f x = 0 ∧ gv r x = 0) := fun x hx hh => by
      have := W1.det x
      rw [hh.1, hh.2, zero_mul, mul_zero, add_zero] at this
      exact pw_ne hx c this.symm
    intro p hp
    rw [← wrE_v hW hV p]
    have hx0 := xp_ne n p
    have hpt : ptX n p = (xp n p).v := rfl
    unfold mby
    rw [hpt]
    by_cases hb : B p = true
    · -- a place that is wrong or doubtful
      have hA0 : gv (timR f G) (xp n p) = 0 := by
        rw [hAv]
        by_cases hh : bat H p = true
        · rw [loc_zero (bat H) p hp hh, mul_zero]
        · have hu : wrU W V H p = true := by
            have hb2 : wrU W V H p = true ∨ bat H p = true := by simpa [B] using hb
            exact hb2.resolve_right hh
          have k := hN' (xp n p)
          rw [loc_zero _ p hp hu, zero_mul, hOat p hp hb] at k
          rcases mul_eq_zero k.symm with k1 | k1
          · rw [k1, zero_mul]
          · exfalso
            rcases mul_eq_zero k1 with k2 | k2
            · rcases mul_eq_zero k2 with k3 | k3
              · have := (wrE_zero hW hV p).1 k3
                unfold wrU at hu
                rw [this] at hu
                simp at hu
              · exact wt_ne n p k3
            · exact less_ne hn B p hp k2
      have hA0' : atL (timR f G) (xp n p).v = 0 := by rw [← gv_v hAB, hA0]; exact zero_v
      rw [if_pos hA0']
      obtain ⟨F, F1, F2, F3⟩ := take_zero hAB (by omega) (wt n p) (xp n p) (wt_xp n p) hA0
      have hoff : ∀ y, y ≠ xp n p → 1 + wt n p * y ≠ 0 := fun y hy e => by
        have e1 := add_eq_zero e
        rw [← wt_xp n p] at e1
        exact hy (mul_cancel (wt_ne n p) e1).symm
      have hR : F (xp n p) * (wrE W V p * wt n p) = gv r (xp n p) := by
        have hz : F (xp n p) * ome n (wrE W V) B (xp n p) + loc n (less B p) (xp n p) * gv r (xp n p) = 0 := by
          refine isP_off (F := fun y => F y * ome n (wrE W V) B y + loc n (less B p) y * gv r y) (d := 250)
            (isP_add ((isP_mul F1 hO (by omega) (by omega)).le (by omega)) ((isP_mul (loc_isP n hn (less B p)) (gv_isP E1.br) (by have := cn_less B p n hp hb; omega) (by omega)).le (by have := cn_less B p n hp hb; omega))) (by omega) (xp n p) (fun y hy => ?_)
          have k1 : gv (timR f G) y * ome n (wrE W V) B y = loc n B y * gv r y := by
            rw [hAv, hLB]
            have := hN' y
            have a1 : gv f y * loc n (bat H) y * ome n (wrE W V) B y = loc n (bat H) y * (gv f y * ome n (wrE W V) B y) := by (haveI := aA; haveI := aC; haveI := mA; haveI := mC; ac_rfl)
            rw [a1, ← this]; (haveI := aA; haveI := aC; haveI := mA; haveI := mC; ac_rfl)
          rw [F2 y, loc_out B p hp hb] at k1
          have k2 : (1 + wt n p * y) * (F y * ome n (wrE W V) B y + loc n (less B p) y * gv r y) = 0 := by
            rw [mul_add, ← mul_assoc, k1, ← mul_assoc, add_self]
          exact (mul_eq_zero k2).resolve_left (hoff y hy)
        have k := add_eq_zero hz
        rw [hOat p hp hb] at k
        have a1 : F (xp n p) * (wrE W V p * wt n p * loc n (less B p) (xp n p)) = loc n (less B p) (xp n p) * (F (xp n p) * (wrE W V p * wt n p)) := by (haveI := aA; haveI := aC; haveI := mA; haveI := mC; ac_rfl)
        rw [a1] at k
        exact mul_cancel (less_ne hn B p hp) k
      have hdv : gv r (xp n p) = gv (drvL (timR f G)) (xp n p) * wrE W V p := by
        rw [F3, ← hR]; (haveI := aA; haveI := aC; haveI := mA; haveI := mC; ac_rfl)
      have hdn : gv (drvL (timR f G)) (xp n p) ≠ 0 := by
        intro hd
        have hr0 : gv r (xp n p) = 0 := by rw [hdv, hd, zero_mul]
        have hf0 : gv f (xp n p) ≠ 0 := fun e => hdet _ hx0 ⟨e, hr0⟩
        have hF0 : F (xp n p) = 0 := by
          rw [F3] at hd
          exact (mul_eq_zero hd).resolve_left (wt_ne n p)
        by_cases hh : bat H p = true
        · have hz : F (xp n p) + gv f (xp n p) * loc n (less (bat H) p) (xp n p) = 0 := by
            refine isP_off (F := fun y => F y + gv f y * loc n (less (bat H) p) y) (d := 250)
              (isP_add (F1.le (by omega)) ((isP_mul (gv_isP E1.bf) (loc_isP n hn (less (bat H) p)) (by omega) (by have := cn_less (bat H) p n hp hh; rw [← cnt_cn, ← hhh] at this; omega)).le (by have := cn_less (bat H) p n hp hh; rw [← cnt_cn, ← hhh] at this; omega))) (by omega) (xp n p) (fun y hy => ?_)
            have k1 := hAv y
            rw [F2 y, loc_out (bat H) p hp hh] at k1
            have k2 : (1 + wt n p * y) * (F y + gv f y * loc n (less (bat H) p) y) = 0 := by
              rw [mul_add, k1]
              have a1 : gv f y * ((1 + wt n p * y) * loc n (less (bat H) p) y) = (1 + wt n p * y) * (gv f y * loc n (less (bat H) p) y) := by (haveI := aA; haveI := aC; haveI := mA; haveI := mC; ac_rfl)
              rw [a1, add_self]
            exact (mul_eq_zero k2).resolve_left (hoff y hy)
          rw [hF0, zero_add] at hz
          exact mul_ne_zero hf0 (less_ne hn (bat H) p hp) hz
        · rw [hAv] at hA0
          exact hf0 ((mul_eq_zero hA0).resolve_right (loc_ne hn (bat H) p hp (by simpa using hh)))
      have hdB := isB_drvL hAB
      have e1 : atL r (xp n p).v = (gv r (xp n p)).v := (gv_v E1.br _).symm
      have e2 : atL (drvL (timR f G)) (xp n p).v = (gv (drvL (timR f G)) (xp n p)).v := (gv_v hdB _).symm
      rw [e1, e2]
      unfold divV
      rw [if_neg (ne_v hdn), hdv]
      obtain ⟨d, hd⟩ : ∃ d, d = gv (drvL (timR f G)) (xp n p) := ⟨_, rfl⟩
      rw [← hd] at hdn ⊢
      have e3 : d * wrE W V p * inv d = wrE W V p := by
        have a1 : d * wrE W V p * inv d = d * inv d * wrE W V p := by (haveI := aA; haveI := aC; haveI := mA; haveI := mC; ac_rfl)
        rw [a1, mul_inv hdn, one_mul]
      have e4 := congrArg GF.v e3
      rw [mul_v] at e4
      exact e4
    · -- a place that is right and not doubtful
      have hb' : wrU W V H p = false ∧ bat H p = false := by simpa [B] using hb
      have hA0 : gv (timR f G) (xp n p) ≠ 0 := by
        intro h0
        rw [hAv] at h0
        have hf0 := (mul_eq_zero h0).resolve_right (loc_ne hn (bat H) p hp hb'.2)
        have k := hN' (xp n p)
        rw [hf0, zero_mul] at k
        have hr0 := (mul_eq_zero k).resolve_left (loc_ne hn _ p hp hb'.1)
        exact hdet _ hx0 ⟨hf0, hr0⟩
      have hA0' : ¬ atL (timR f G) (xp n p).v = 0 := by rw [← gv_v hAB]; exact ne_v hA0
      rw [if_neg hA0', hE p hp (by simpa using hb)]; exact zero_v.symm
end Go.Proofs.YtpenggkefbbopaaDoor
