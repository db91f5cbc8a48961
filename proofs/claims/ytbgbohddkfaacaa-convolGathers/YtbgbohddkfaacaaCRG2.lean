import Derived.Test.YtbgbohddkfaacaaCRG1
namespace Go.Proofs.Ytbgbohddkfaacaa
set_option maxRecDepth 100000
set_option linter.unusedVariables false
set_option linter.unusedSimpArgs false

/-! the document's way to the least cost, and that it is the same -/
def fiV (r : Nat) (S : List Int) (i : Nat) : Int := if kb (pF r) i then nthI S (cntN r i) else 0
def seV (r : Nat) (S : List Int) (i : Nat) : Int := if kb (pS r) i then nthI S (cntN r i + kn (kb (pF r) i)) else 0
theorem fiV_bd (r : Nat) (S : List Int) (hS : ∀ i, -7 ≤ nthI S i ∧ nthI S i ≤ 7) (i : Nat) : -7 ≤ fiV r S i ∧ fiV r S i ≤ 7 := by
  have := hS (cntN r i); unfold fiV; split <;> omega
theorem seV_bd (r : Nat) (S : List Int) (hS : ∀ i, -7 ≤ nthI S i ∧ nthI S i ≤ 7) (i : Nat) : -7 ≤ seV r S i ∧ seV r S i ≤ 7 := by
  have := hS (cntN r i + kn (kb (pF r) i)); unfold seV; split <;> omega
theorem lisI_succ (m : Nat) (f : Nat → Int) : lisI (m + 1) f = lisI m f ++ [f m] := by unfold lisI; rw [List.range_succ, List.map_append]; rfl
/-- what is left out of step k costs seven -/
def lft (r k : Nat) : Int := 7 * (2 - (kn (kb (pF r) k) : Nat) - (kn (kb (pS r) k) : Nat))
theorem rpay_eq (r : Nat) (S : List Int) (M k b s : Nat) (hk : k < M) : rpay (lisI M (fiV r S)) (lisI M (seV r S)) k b s = payP (prV r S) k (2 * s + b) + lft r k := by
  unfold rpay lft
  rw [lisI_at M _ k hk, lisI_at M _ k hk, pay_eq]
  unfold fiV seV
  have h1 := sy1_lt (2 * s + b)
  have h2 := sy2_lt (2 * s + b)
  generalize sy1 (2 * s + b) = s1 at *
  generalize sy2 (2 * s + b) = s2 at *
  generalize nthI S (cntN r k) = x
  generalize nthI S (cntN r k + kn (kb (pF r) k)) = y
  rcases (by omega : s1 = 0 ∨ s1 = 1) with rfl | rfl <;> rcases (by omega : s2 = 0 ∨ s2 = 1) with rfl | rfl <;> cases kb (pF r) k <;> cases kb (pS r) k <;> simp [kn] <;> omega
theorem rpay_eq0 (r : Nat) (S : List Int) (M k s : Nat) (hk : k < M) : rpay (lisI M (fiV r S)) (lisI M (seV r S)) k 0 s = payP (prV r S) k (2 * s) + lft r k := rpay_eq r S M k 0 s hk
def farI : Int := 1099511627776
/-- the document's table, j rows from its end -/
def rV (r : Nat) (S : List Int) (n : Nat) : Nat → Nat → Int
  | 0 => fun s => if s = 0 then 0 else farI
  | j + 1 => fun s =>
    if j < 6 then rpay (lisI (n + 6) (fiV r S)) (lisI (n + 6) (seV r S)) (n + 5 - j) 0 s + rV r S n j (2 * s % 64)
    else if rpay (lisI (n + 6) (fiV r S)) (lisI (n + 6) (seV r S)) (n + 5 - j) 1 s + rV r S n j ((2 * s + 1) % 64) < rpay (lisI (n + 6) (fiV r S)) (lisI (n + 6) (seV r S)) (n + 5 - j) 0 s + rV r S n j (2 * s % 64)
      then rpay (lisI (n + 6) (fiV r S)) (lisI (n + 6) (seV r S)) (n + 5 - j) 1 s + rV r S n j ((2 * s + 1) % 64)
      else rpay (lisI (n + 6) (fiV r S)) (lisI (n + 6) (seV r S)) (n + 5 - j) 0 s + rV r S n j (2 * s % 64)
/-- what is left out of the last j steps -/
def offJ (r n : Nat) : Nat → Int
  | 0 => 0
  | j + 1 => lft r (n + 5 - j) + offJ r n j
theorem rV_lo (r : Nat) (S : List Int) (n : Nat) : ∀ j, j ≤ 6 → ∀ s, s < 64 → rV r S n j s = vN (prV r S) n j s + offJ r n j + (if s * 2 ^ j % 64 = 0 then 0 else farI) := by
  intro j
  induction j with
  | zero =>
    intro _ s hs
    show (if s = 0 then 0 else farI) = 0 + 0 + _
    have e : s * 2 ^ 0 % 64 = s := by rw [Nat.pow_zero, Nat.mul_one]; omega
    rw [e]; omega
  | succ j ih =>
    intro hj s hs
    have h := ih (by omega) (2 * s % 64) (by omega)
    show (if j < 6 then _ else _) = _
    rw [if_pos (show j < 6 by omega), h, rpay_eq0 r S (n + 6) _ s (by omega), vN_lo _ n j (by omega), nou_of]
    have e : 2 * s % 64 * 2 ^ j % 64 = s * 2 ^ (j + 1) % 64 := by
      rw [Nat.mod_mul_mod, Nat.pow_succ, Nat.mul_comm 2 s, Nat.mul_assoc, Nat.mul_comm 2 (2 ^ j)]
    rw [e]
    show _ = _ + (lft r (n + 5 - j) + offJ r n j) + _
    omega
theorem rV_hi (r : Nat) (S : List Int) (n : Nat) : ∀ j, 6 ≤ j → j ≤ n + 6 → ∀ s, s < 64 → rV r S n j s = vN (prV r S) n j s + offJ r n j := by
  intro j
  induction j with
  | zero => intro h; omega
  | succ j ih =>
    intro h6 hn s hs
    by_cases e6 : j = 5
    · subst e6
      rw [rV_lo r S n 6 (Nat.le_refl _) s hs, if_pos (by omega), Int.add_zero]
    · have hA := ih (by omega) (by omega) (2 * s % 64) (by omega)
      have hB := ih (by omega) (by omega) ((2 * s + 1) % 64) (by omega)
      show (if j < 6 then _ else _) = _
      rw [if_neg (show ¬ j < 6 by omega), hA, hB, rpay_eq0 r S (n + 6) _ s (by omega), rpay_eq r S (n + 6) _ 1 s (by omega), vN_hi _ n j (by omega)]
      have eN := nou_of (prV r S) (vN (prV r S) n j) (n + 5 - j) s
      have eO := one_of (prV r S) (vN (prV r S) n j) (n + 5 - j) s
      unfold best
      have eF : offJ r n (j + 1) = lft r (n + 5 - j) + offJ r n j := rfl
      rw [eF]
      split <;> split <;> omega
/-- the test for a 1 -/
theorem rV_test (r : Nat) (S : List Int) (n i s : Nat) (hi : i < n) (hs : s < 64) :
    (rV r S n (n + 6 - i) s = rpay (lisI (n + 6) (fiV r S)) (lisI (n + 6) (seV r S)) i 0 s + rV r S n (n + 5 - i) (2 * s % 64)) ↔ chs (prV r S) (vN (prV r S) n (n + 5 - i)) i s = 0 := by
  have h1 := rV_hi r S n (n + 6 - i) (by omega) (by omega) s hs
  have h2 := rV_hi r S n (n + 5 - i) (by omega) (by omega) (2 * s % 64) (by omega)
  have e : n + 6 - i = (n + 5 - i) + 1 := by omega
  have hv := vN_hi (prV r S) n (n + 5 - i) (by omega)
  have hof : offJ r n (n + 6 - i) = lft r i + offJ r n (n + 5 - i) := by
    rw [e]; show lft r (n + 5 - (n + 5 - i)) + _ = _
    rw [show n + 5 - (n + 5 - i) = i by omega]
  rw [h1, h2, hof, rpay_eq0 r S (n + 6) i s (by omega), e, hv, show n + 5 - (n + 5 - i) = i by omega]
  have eN := nou_of (prV r S) (vN (prV r S) n (n + 5 - i)) i s
  unfold chs best
  split
  · constructor
    · intro h; omega
    · intro h; cases h
  · constructor
    · intro _; rfl
    · intro _; omega
theorem off_sum (r n : Nat) : ∀ j, j ≤ n + 6 → offJ r n j = 7 * (2 * (j : Int) - (cntN r (n + 6) : Nat) + (cntN r (n + 6 - j) : Nat)) := by
  intro j
  induction j with
  | zero => intro _; rw [Nat.sub_zero]; show (0 : Int) = _; omega
  | succ j ih =>
    intro hj
    have h := ih (by omega)
    show lft r (n + 5 - j) + offJ r n j = _
    have e : n + 6 - j = (n + 5 - j) + 1 := by omega
    have ec : cntN r (n + 6 - j) = cntN r (n + 5 - j) + kn (kb (pF r) (n + 5 - j)) + kn (kb (pS r) (n + 5 - j)) := by rw [e]; rfl
    rw [h, ec, show n + 6 - (j + 1) = n + 5 - j by omega]
    unfold lft
    omega
theorem rV_cost (r : Nat) (S : List Int) (n m : Nat) (hm : m = cntN r (n + 6)) : rV r S n (n + 6) 0 - 7 * (2 * ((n : Int) + 6) - m) = vN (prV r S) n (n + 6) 0 := by
  rw [rV_hi r S n (n + 6) (by omega) (Nat.le_refl _) 0 (by decide), off_sum r n (n + 6) (Nat.le_refl _), Nat.sub_self, hm]
  show _ + 7 * (2 * ((n + 6 : Nat) : Int) - _ + ((0 : Nat) : Int)) - _ = _
  omega
theorem rV_bd (r : Nat) (S : List Int) (hS : ∀ i, -7 ≤ nthI S i ∧ nthI S i ≤ 7) (n : Nat) : ∀ j, ∀ s, 0 ≤ rV r S n j s ∧ rV r S n j s ≤ farI + 28 * j := by
  intro j
  have hX := lisI_bd (n + 6) (fiV r S) (fun i _ => fiV_bd r S hS i)
  have hY := lisI_bd (n + 6) (seV r S) (fun i _ => seV_bd r S hS i)
  have hp : ∀ i b s, 0 ≤ rpay (lisI (n + 6) (fiV r S)) (lisI (n + 6) (seV r S)) i b s ∧ rpay (lisI (n + 6) (fiV r S)) (lisI (n + 6) (seV r S)) i b s ≤ 28 := by
    intro i b s
    have x := hX i; have y := hY i
    unfold rpay
    have h1 := sy1_lt (2 * s + b)
    have h2 := sy2_lt (2 * s + b)
    rcases (by omega : sy1 (2 * s + b) = 0 ∨ sy1 (2 * s + b) = 1) with e | e <;> rcases (by omega : sy2 (2 * s + b) = 0 ∨ sy2 (2 * s + b) = 1) with e' | e' <;> rw [e, e'] <;> simp <;> omega
  induction j with
  | zero => intro s; show 0 ≤ (if s = 0 then 0 else farI) ∧ (if s = 0 then 0 else farI) ≤ _; unfold farI; split <;> omega
  | succ j ih =>
    intro s
    have a := ih (2 * s % 64); have b := ih ((2 * s + 1) % 64)
    have p0 := hp (n + 5 - j) 0 s; have p1 := hp (n + 5 - j) 1 s
    show 0 ≤ (if j < 6 then _ else _) ∧ (if j < 6 then _ else _) ≤ _
    unfold farI at *
    split
    · omega
    · split <;> omega
end Go.Proofs.Ytbgbohddkfaacaa
