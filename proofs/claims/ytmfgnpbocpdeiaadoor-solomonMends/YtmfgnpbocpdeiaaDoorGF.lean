import Derived.Test.YtmfgnpbocpdeiaaDoorSDecM
namespace Go.Proofs.YtmfgnpbocpdeiaaDoor
set_option maxRecDepth 100000
set_option linter.unusedVariables false
set_option linter.unusedSimpArgs false

/-! the field of 256 numbers, without side conditions -/
structure GF where
  v : Nat
  h : v < 256
theorem GF.ext {a b : GF} (e : a.v = b.v) : a = b := by cases a; cases b; cases e; rfl
instance : Add GF := ⟨fun a b => ⟨a.v ^^^ b.v, Fld.xor_lt a.h b.h⟩⟩
instance : Mul GF := ⟨fun a b => ⟨Fld.mul a.v b.v, Fld.mul_lt _ a.h⟩⟩
instance : OfNat GF 0 := ⟨⟨0, by decide⟩⟩
instance : OfNat GF 1 := ⟨⟨1, by decide⟩⟩
namespace GF
theorem add_v (a b : GF) : (a + b).v = a.v ^^^ b.v := rfl
theorem mul_v (a b : GF) : (a * b).v = Fld.mul a.v b.v := rfl
theorem zero_v : (0 : GF).v = 0 := rfl
theorem one_v : (1 : GF).v = 1 := rfl
theorem add_comm (a b : GF) : a + b = b + a := ext (Nat.xor_comm _ _)
theorem add_assoc (a b c : GF) : a + b + c = a + (b + c) := ext (Nat.xor_assoc _ _ _)
theorem mul_comm (a b : GF) : a * b = b * a := ext (Fld.mul_comm a.h b.h)
theorem mul_assoc (a b c : GF) : a * b * c = a * (b * c) := ext (Fld.mul_assoc a.h b.h c.h)
theorem add_zero (a : GF) : a + 0 = a := ext (Nat.xor_zero _)
theorem zero_add (a : GF) : 0 + a = a := ext (Nat.zero_xor _)
theorem add_self (a : GF) : a + a = 0 := ext (Nat.xor_self _)
theorem mul_one (a : GF) : a * 1 = a := ext (Fld.mul_one a.h)
theorem one_mul (a : GF) : 1 * a = a := ext (Fld.one_mul a.h)
theorem mul_zero (a : GF) : a * 0 = 0 := ext (Fld.mul_zero _)
theorem zero_mul (a : GF) : 0 * a = 0 := ext (Fld.zero_mul a.h)
theorem mul_add (a b c : GF) : a * (b + c) = a * b + a * c := ext (Fld.mul_xor_right _ _ _)
theorem add_mul (a b c : GF) : (a + b) * c = a * c + b * c := ext (Fld.mul_xor_left _ a.h b.h)
instance : Std.Associative (α := GF) (· + ·) := ⟨add_assoc⟩
instance : Std.Commutative (α := GF) (· + ·) := ⟨add_comm⟩
instance : Std.Associative (α := GF) (· * ·) := ⟨mul_assoc⟩
instance : Std.Commutative (α := GF) (· * ·) := ⟨mul_comm⟩
theorem mul_eq_zero {a b : GF} (e : a * b = 0) : a = 0 ∨ b = 0 := by
  rcases Fld.mul_eq_zero a.h b.h (congrArg GF.v e) with h | h
  · exact .inl (ext h)
  · exact .inr (ext h)
theorem mul_ne_zero {a b : GF} (ha : a ≠ 0) (hb : b ≠ 0) : a * b ≠ 0 := fun e => (mul_eq_zero e).elim ha hb
theorem add_eq_zero {a b : GF} (e : a + b = 0) : a = b := by
  have : a + b + b = b := by rw [e, zero_add]
  rwa [add_assoc, add_self, add_zero] at this
theorem eq_add {a b c : GF} (e : a = b + c) : a + b = c := by rw [e, add_comm b c, add_assoc, add_self, add_zero]
theorem mul_cancel {a b c : GF} (ha : a ≠ 0) (e : a * b = a * c) : b = c := by
  have h : a * (b + c) = 0 := by rw [mul_add, e, add_self]
  rcases mul_eq_zero h with h | h
  · exact absurd h ha
  · exact add_eq_zero h
theorem ne_v {a : GF} (h : a ≠ 0) : a.v ≠ 0 := fun e => h (ext e)
theorem v_ne {a : GF} (h : a.v ≠ 0) : a ≠ 0 := fun e => h (by rw [e]; rfl)
def inv (a : GF) : GF := ⟨Fld.inv a.v, Fld.inv_lt a.h⟩
theorem mul_inv {a : GF} (h : a ≠ 0) : a * inv a = 1 := ext (Fld.mul_inv a.h (ne_v h))
def pw (x : GF) (n : Nat) : GF := ⟨Fld.pw x.v n, Fld.pw_lt _ _ x.h⟩
theorem pw_zero (x : GF) : pw x 0 = 1 := rfl
theorem pw_add (x : GF) (m n : Nat) : pw x (m + n) = pw x m * pw x n := ext (Fld.pw_add x.v m n x.h)
theorem pw_one (x : GF) : pw x 1 = x := by
  apply ext
  show Fld.pw x.v 1 = x.v
  first
    | (show Fld.mul 1 x.v = x.v; exact Fld.one_mul x.h)
    | (show Fld.mul x.v 1 = x.v; exact Fld.mul_one x.h)
theorem pw_succ (x : GF) (n : Nat) : pw x (n + 1) = pw x n * x := by rw [pw_add, pw_one]
theorem pw_ne {x : GF} (h : x ≠ 0) (n : Nat) : pw x n ≠ 0 := by
  induction n with
  | zero => rw [pw_zero]; exact v_ne (by decide)
  | succ n ih => rw [pw_succ]; exact mul_ne_zero ih h
theorem mul_pw (x y : GF) (n : Nat) : pw (x * y) n = pw x n * pw y n := by
  induction n with
  | zero => rw [pw_zero, pw_zero, pw_zero, mul_one]
  | succ n ih => rw [pw_succ, pw_succ, pw_succ, ih]; ac_rfl
/-- sums and products -/
def sum (n : Nat) (F : Nat → GF) : GF := match n with
  | 0 => 0
  | n + 1 => sum n F + F n
def prod (n : Nat) (F : Nat → GF) : GF := match n with
  | 0 => 1
  | n + 1 => prod n F * F n
theorem sum_v (n : Nat) (F : Nat → GF) : (sum n F).v = xsum (fun i => (F i).v) n := by
  induction n with
  | zero => rfl
  | succ n ih => show (sum n F).v ^^^ (F n).v = xsum (fun i => (F i).v) n ^^^ (F n).v; rw [ih]
theorem sum_congr {n : Nat} {F G : Nat → GF} (h : ∀ i, i < n → F i = G i) : sum n F = sum n G := by
  induction n with
  | zero => rfl
  | succ n ih => show sum n F + F n = sum n G + G n; rw [ih (fun i hi => h i (by omega)), h n (by omega)]
theorem prod_congr {n : Nat} {F G : Nat → GF} (h : ∀ i, i < n → F i = G i) : prod n F = prod n G := by
  induction n with
  | zero => rfl
  | succ n ih => show prod n F * F n = prod n G * G n; rw [ih (fun i hi => h i (by omega)), h n (by omega)]
theorem sum_add (n : Nat) (F G : Nat → GF) : sum n (fun i => F i + G i) = sum n F + sum n G := by
  induction n with
  | zero => exact (add_zero 0).symm
  | succ n ih => show sum n _ + (F n + G n) = sum n F + F n + (sum n G + G n); rw [ih]; ac_rfl
theorem sum_mul (n : Nat) (F : Nat → GF) (a : GF) : sum n F * a = sum n (fun i => F i * a) := by
  induction n with
  | zero => exact zero_mul a
  | succ n ih => show (sum n F + F n) * a = sum n _ + F n * a; rw [add_mul, ih]
theorem mul_sum (n : Nat) (F : Nat → GF) (a : GF) : a * sum n F = sum n (fun i => a * F i) := by
  rw [mul_comm, sum_mul]; exact sum_congr fun i _ => mul_comm _ _
theorem sum_zero {n : Nat} {F : Nat → GF} (h : ∀ i, i < n → F i = 0) : sum n F = 0 := by
  induction n with
  | zero => rfl
  | succ n ih => show sum n F + F n = 0; rw [ih (fun i hi => h i (by omega)), h n (by omega), add_zero]
theorem sum_one {n : Nat} {F : Nat → GF} (k : Nat) (hk : k < n) (h : ∀ i, i < n → i ≠ k → F i = 0) : sum n F = F k := by
  induction n with
  | zero => omega
  | succ n ih =>
    show sum n F + F n = F k
    by_cases e : k = n
    · subst e; rw [sum_zero (fun i hi => h i (by omega) (by omega)), zero_add]
    · rw [ih (by omega) (fun i hi => h i (by omega)), h n (by omega) (by omega), add_zero]
theorem sum_swap (m n : Nat) (F : Nat → Nat → GF) : sum m (fun i => sum n (fun j => F i j)) = sum n (fun j => sum m (fun i => F i j)) := by
  induction m with
  | zero => exact (sum_zero (fun _ _ => rfl)).symm
  | succ m ih =>
    show sum m (fun i => sum n (fun j => F i j)) + sum n (fun j => F m j) = sum n (fun j => sum m (fun i => F i j) + F m j)
    rw [ih, sum_add]
theorem sum_front (n : Nat) (F : Nat → GF) : sum (n + 1) F = F 0 + sum n (fun i => F (i + 1)) := by
  induction n with
  | zero => show 0 + F 0 = F 0 + 0; rw [zero_add, add_zero]
  | succ n ih =>
    show sum (n + 1) F + F (n + 1) = F 0 + (sum n (fun i => F (i + 1)) + F (n + 1))
    rw [ih]; ac_rfl
theorem sum_rev (n : Nat) (F : Nat → GF) : sum n F = sum n (fun i => F (n - 1 - i)) := by
  induction n with
  | zero => rfl
  | succ n ih =>
    rw [sum_front n (fun i => F (n + 1 - 1 - i))]
    show sum n F + F n = F (n + 1 - 1 - 0) + _
    have e : sum n (fun i => F (n + 1 - 1 - (i + 1))) = sum n F := by
      rw [ih]; exact sum_congr fun i hi => by congr 1; omega
    rw [e, show n + 1 - 1 - 0 = n by omega, add_comm]
theorem prod_mul (n : Nat) (F G : Nat → GF) : prod n (fun i => F i * G i) = prod n F * prod n G := by
  induction n with
  | zero => exact (mul_one 1).symm
  | succ n ih => show prod n _ * (F n * G n) = prod n F * F n * (prod n G * G n); rw [ih]; ac_rfl
theorem prod_zero {n : Nat} {F : Nat → GF} (k : Nat) (hk : k < n) (h : F k = 0) : prod n F = 0 := by
  induction n with
  | zero => omega
  | succ n ih =>
    show prod n F * F n = 0
    by_cases e : k = n
    · subst e; rw [h, mul_zero]
    · rw [ih (by omega), zero_mul]
theorem prod_ne {n : Nat} {F : Nat → GF} (h : ∀ i, i < n → F i ≠ 0) : prod n F ≠ 0 := by
  induction n with
  | zero => show (1 : GF) ≠ 0; exact v_ne (by decide)
  | succ n ih => exact mul_ne_zero (ih (fun i hi => h i (by omega))) (h n (by omega))
/-- one factor taken out -/
theorem prod_out {n : Nat} (F : Nat → GF) (k : Nat) (hk : k < n) : prod n F = F k * prod n (fun i => if i = k then 1 else F i) := by
  induction n with
  | zero => omega
  | succ n ih =>
    show prod n F * F n = F k * (prod n (fun i => if i = k then 1 else F i) * (if n = k then 1 else F n))
    by_cases e : n = k
    · subst e
      rw [if_pos rfl, mul_one, mul_comm]
      congr 1
      exact prod_congr fun i hi => by rw [if_neg (by omega)]
    · rw [if_neg e, ih (by omega)]; ac_rfl
theorem geo (y : GF) (c : Nat) : (1 + y) * sum c (fun j => pw y j) = 1 + pw y c := by
  induction c with
  | zero => show (1 + y) * 0 = 1 + 1; rw [mul_zero, add_self]
  | succ c ih =>
    show (1 + y) * (sum c (fun j => pw y j) + pw y c) = 1 + pw y (c + 1)
    rw [mul_add, ih, add_mul, one_mul, pw_succ, mul_comm y]
    have e : 1 + pw y c + (pw y c + pw y c * y) = 1 + (pw y c + pw y c) + pw y c * y := by ac_rfl
    rw [e, add_self, add_zero]
/-- powers of 2 -/
def al (k : Int) : GF := ⟨pow2 k, pow2_lt k⟩
theorem al_add (a b : Int) : al (a + b) = al a * al b := by
  apply ext
  show pow2 (a + b) = Fld.mul (pow2 a) (pow2 b)
  unfold pow2
  rw [Fld.pow_mul, ← Fld.dblN_mod ((b % 255).toNat + (a % 255).toNat)]
  congr 1
  omega
theorem al_zero : al 0 = 1 := rfl
theorem al_ne (k : Int) : al k ≠ 0 := v_ne (pow2_ne k)
theorem al_inj {a b : Int} (h : al a = al b) : a % 255 = b % 255 := pow2_inj (congrArg GF.v h)
theorem al_pw (a : Int) (n : Nat) : al (a * n) = pw (al a) n := by
  induction n with
  | zero => rw [pw_zero, Int.natCast_zero, Int.mul_zero]; rfl
  | succ n ih => rw [pw_succ, ← ih, ← al_add]; congr 1; rw [Int.natCast_succ, Int.mul_add, Int.mul_one]
/-- the value of a list -/
def at' (P : List Nat) (hP : IsB P) (x : GF) : GF := ⟨atL P x.v, horN_lt hP x.v _⟩
theorem at_sum {P : List Nat} (hP : IsB P) (x : GF) (n : Nat) (hn : P.length ≤ n) : at' P hP x = sum n (fun i => ⟨nth P i, hP.nth i⟩ * pw x i) := by
  apply ext
  rw [sum_v]
  show atL P x.v = _
  rw [atL_ev hP x.v n x.h hn]
  rfl
end GF
end Go.Proofs.YtmfgnpbocpdeiaaDoor
