import Derived.Test.YtdcfgaibppenaaaDoorSd7
import Derived.Test.YtdcfgaibppenaaaDoorSd4
import Derived.Test.YtdcfgaibppenaaaDoorSd3
import Derived.Test.YtdcfgaibppenaaaDoorSd6
import Derived.Lib.AppendZerosOnto
import Derived.Deep.RegionLawGrows
namespace Go.Proofs.YtdcfgaibppenaaaDoor
open Go.RowKit
set_option maxRecDepth 100000
set_option linter.unusedVariables false
set_option linter.unusedSimpArgs false

section
open GF

/-! systems of equations, by rows -/
/-- x solves the rows -/
def Sol [Add GF] [Mul GF] [OfNat GF 0] [OfNat GF 1] [L : Nonempty GL] (n : Nat) (M : Nat → Nat → GF) (b : Nat → GF) (x : Nat → GF) : Prop := ∀ r, r < n → sum n (fun j => M r j * x j) = b r
/-- two rows change places -/
def swp {α : Type} (F : Nat → α) (i k : Nat) : Nat → α := fun r => if r = i then F k else if r = k then F i else F r
/-- row i times c -/
def scl [Add GF] [Mul GF] [OfNat GF 0] [OfNat GF 1] [L : Nonempty GL] (M : Nat → Nat → GF) (c : GF) (i : Nat) : Nat → Nat → GF := fun r j => if r = i then M i j * c else M r j
def sclb [Add GF] [Mul GF] [OfNat GF 0] [OfNat GF 1] [L : Nonempty GL] (b : Nat → GF) (c : GF) (i : Nat) : Nat → GF := fun r => if r = i then b i * c else b r
/-- row i, as often as column i tells, added to all the others -/
def clr [Add GF] [Mul GF] [OfNat GF 0] [OfNat GF 1] [L : Nonempty GL] (M : Nat → Nat → GF) (i : Nat) : Nat → Nat → GF := fun r j => if r = i then M i j else M r j + M r i * M i j
def clrb [Add GF] [Mul GF] [OfNat GF 0] [OfNat GF 1] [L : Nonempty GL] (M : Nat → Nat → GF) (b : Nat → GF) (i : Nat) : Nat → GF := fun r => if r = i then b i else b r + M r i * b i
/-- the columns below i are those of the unit -/
def Unit' [Add GF] [Mul GF] [OfNat GF 0] [OfNat GF 1] [L : Nonempty GL] (n : Nat) (M : Nat → Nat → GF) (i : Nat) : Prop := ∀ r, r < n → ∀ j, j < i → M r j = if r = j then 1 else 0
/-- only naught is sent to naught -/
def InjM [Add GF] [Mul GF] [OfNat GF 0] [OfNat GF 1] [L : Nonempty GL] (n : Nat) (M : Nat → Nat → GF) : Prop := ∀ y, Sol n M (fun _ => 0) y → ∀ j, j < n → y j = 0

theorem sol_swp [Add GF] [Mul GF] [OfNat GF 0] [OfNat GF 1] [L : Nonempty GL] {n : Nat} {M : Nat → Nat → GF} {b : Nat → GF} {x : Nat → GF} {i k : Nat} (hi : i < n) (hk : k < n) : Sol n (swp M i k) (swp b i k) x ↔ Sol n M b x := by
  constructor
  · intro h r hr
    by_cases h1 : r = k
    · have := h i hi
      unfold swp at this
      simp at this
      rw [h1]; exact this
    · by_cases h2 : r = i
      · have := h k hk
        unfold swp at this
        by_cases h3 : k = i
        · omega
        · simp [h3] at this
          rw [h2]; exact this
      · have := h r hr
        unfold swp at this
        simp [h1, h2] at this
        exact this
  · intro h r hr
    unfold swp
    by_cases h2 : r = i
    · simp [h2]; exact h k hk
    · by_cases h1 : r = k
      · simp [h1, h2]
        by_cases h3 : k = i
        · omega
        · simp [h3]; exact h i hi
      · simp [h1, h2]; exact h r hr

theorem sol_scl [Add GF] [Mul GF] [OfNat GF 0] [OfNat GF 1] [L : Nonempty GL] {n : Nat} {M : Nat → Nat → GF} {b : Nat → GF} {x : Nat → GF} {c : GF} {i : Nat} (hc : c ≠ 0) (hi : i < n) : Sol n (scl M c i) (sclb b c i) x ↔ Sol n M b x := by
  have key : sum n (fun j => M i j * c * x j) = c * sum n (fun j => M i j * x j) := by
    rw [mul_sum]
    exact sum_congr fun j _ => by (haveI := aA; haveI := aC; haveI := mA; haveI := mC; ac_rfl)
  constructor
  · intro h r hr
    by_cases h1 : r = i
    · subst h1
      have := h r hr
      unfold scl sclb at this
      simp only [if_true] at this
      rw [key, mul_comm (b r) c] at this
      exact mul_cancel hc this
    · have := h r hr
      unfold scl sclb at this
      simp only [h1, if_false] at this
      exact this
  · intro h r hr
    unfold scl sclb
    by_cases h1 : r = i
    · subst h1
      simp only [if_true]
      rw [key, h r hr, mul_comm]
    · simp only [h1, if_false]
      exact h r hr

theorem sum_row [Add GF] [Mul GF] [OfNat GF 0] [OfNat GF 1] [L : Nonempty GL] {n : Nat} (A B x : Nat → GF) (f : GF) : sum n (fun j => (A j + f * B j) * x j) = sum n (fun j => A j * x j) + f * sum n (fun j => B j * x j) := by
  rw [mul_sum, ← sum_add]
  exact sum_congr fun j _ => by rw [add_mul]; congr 1; (haveI := aA; haveI := aC; haveI := mA; haveI := mC; ac_rfl)

theorem sol_clr [Add GF] [Mul GF] [OfNat GF 0] [OfNat GF 1] [L : Nonempty GL] {n : Nat} {M : Nat → Nat → GF} {b : Nat → GF} {x : Nat → GF} {i : Nat} (hi : i < n) : Sol n (clr M i) (clrb M b i) x ↔ Sol n M b x := by
  constructor
  · intro h r hr
    have hI : sum n (fun j => M i j * x j) = b i := by
      have := h i hi
      unfold clr clrb at this
      simpa only [if_true] using this
    by_cases h1 : r = i
    · rw [h1]; exact hI
    · have := h r hr
      unfold clr clrb at this
      simp only [h1, if_false] at this
      rw [sum_row, hI] at this
      have e := congrArg (· + M r i * b i) this
      simp only [add_assoc, add_self, add_zero] at e
      exact e
  · intro h r hr
    unfold clr clrb
    by_cases h1 : r = i
    · subst h1
      simp only [if_true]
      exact h r hr
    · simp only [h1, if_false]
      rw [sum_row, h r hr, h i hi]

/-- one column more -/
theorem unit_step [Add GF] [Mul GF] [OfNat GF 0] [OfNat GF 1] [L : Nonempty GL] {n i k : Nat} {M : Nat → Nat → GF} (hu : Unit' n M i) (hi : i < n) (hik : i ≤ k) (hk : k < n) (hp : M k i ≠ 0) : Unit' n (clr (scl (swp M i k) (inv (M k i)) i) i) (i + 1) := by
  have hS : ∀ j, swp M i k i j = M k j := fun j => by unfold swp; simp
  have hrow : ∀ j, scl (swp M i k) (inv (M k i)) i i j = M k j * inv (M k i) := fun j => by unfold scl; simp only [if_true]; rw [hS]
  have hii : scl (swp M i k) (inv (M k i)) i i i = 1 := by rw [hrow, mul_inv hp]
  intro r hr j hj
  by_cases h1 : r = i
  · subst h1
    show (if r = r then _ else _) = _
    rw [if_pos rfl]
    by_cases h2 : j = r
    · subst h2
      rw [hii, if_pos rfl]
    · rw [hrow, hu k hk j (by omega), if_neg (by omega), zero_mul, if_neg (by omega)]
  · show (if r = i then _ else _) = _
    rw [if_neg h1]
    by_cases h2 : j = i
    · subst h2
      rw [hii, mul_one, add_self, if_neg h1]
    · have hz : scl (swp M i k) (inv (M k i)) i i j = 0 := by rw [hrow, hu k hk j (by omega), if_neg (by omega), zero_mul]
      rw [hz, mul_zero, add_zero]
      unfold scl swp
      rw [if_neg h1, if_neg h1]
      by_cases h3 : r = k
      · rw [if_pos h3, hu i hi j (by omega), if_neg (by omega), if_neg (by omega)]
      · rw [if_neg h3, hu r hr j (by omega)]

/-- no pivot: something else is sent to naught -/
theorem unit_stuck [Add GF] [Mul GF] [OfNat GF 0] [OfNat GF 1] [L : Nonempty GL] {n i : Nat} {M : Nat → Nat → GF} (hu : Unit' n M i) (hi : i < n) (hz : ∀ k, i ≤ k → k < n → M k i = 0) : ¬ InjM n M := by
  intro h
  have h1 := h (fun j => if j = i then 1 else if j < i then M j i else 0) (fun r hr => by
    by_cases h1 : r < i
    · have e1 : sum n (fun j => M r j * (if j = i then 1 else if j < i then M j i else 0)) = sum n (fun j => (if j = i then M r i else 0) + (if j = r then M r i else 0)) := by
        refine sum_congr fun j hj => ?_
        by_cases h2 : j = i
        · subst h2
          rw [if_pos rfl, if_pos rfl, if_neg (by omega), mul_one, add_zero]
        · rw [if_neg h2, if_neg h2, zero_add]
          by_cases h3 : j < i
          · rw [if_pos h3, hu r hr j h3]
            by_cases h4 : j = r
            · subst h4; simp [one_mul]
            · rw [if_neg (by omega), if_neg h4, zero_mul]
          · rw [if_neg h3, mul_zero, if_neg (by omega)]
      rw [e1, sum_add, sum_one i hi (fun j _ hne => by simp [hne]), sum_one r hr (fun j _ hne => by simp [hne])]
      simp [add_self]
    · refine sum_zero fun j hj => ?_
      by_cases h2 : j = i
      · subst h2
        rw [hz r (by omega) hr, zero_mul]
      · by_cases h3 : j < i
        · rw [hu r hr j h3, if_neg (by omega), zero_mul]
        · show M r j * (if j = i then 1 else if j < i then M j i else 0) = 0
          rw [if_neg h2, if_neg h3, mul_zero]) i hi
  simp at h1
  exact absurd h1 one_ne

/-- all columns are the unit's: the right side is the answer -/
theorem unit_end [Add GF] [Mul GF] [OfNat GF 0] [OfNat GF 1] [L : Nonempty GL] {n : Nat} {M : Nat → Nat → GF} {b x : Nat → GF} (hu : Unit' n M n) : Sol n M b x ↔ ∀ r, r < n → x r = b r := by
  have e : ∀ r, r < n → sum n (fun j => M r j * x j) = x r := fun r hr => by
    rw [sum_one r hr (fun j hj hne => by rw [hu r hr j hj, if_neg (fun h => hne h.symm), zero_mul]), hu r hr r hr, if_pos rfl, one_mul]
  exact ⟨fun h r hr => by rw [← e r hr]; exact h r hr, fun h r hr => by rw [e r hr]; exact h r hr⟩
end

section
open GF

/-! powers of different numbers -/
theorem cn_true (n : Nat) : cn (fun _ => true) n = n := by
  induction n with
  | zero => rfl
  | succ n ih => simp only [cn, ih]; simp
/-- different numbers, none of them naught -/
structure Apart [Add GF] [Mul GF] [OfNat GF 0] [OfNat GF 1] [L : Nonempty GL] (n : Nat) (w : Nat → GF) : Prop where
  ne : ∀ k, k < n → w k ≠ 0
  inj : ∀ i k, i < n → k < n → w i = w k → i = k
theorem lin_z [Add GF] [Mul GF] [OfNat GF 0] [OfNat GF 1] [L : Nonempty GL] {a b : GF} (ha : a ≠ 0) (h : 1 + inv a * b = 0) : a = b := by
  have e := add_eq_zero h
  have e2 := congrArg (a * ·) e
  simp only [mul_one] at e2
  rw [e2, ← mul_assoc, mul_inv ha, one_mul]
/-- a polynomial that is naught at all of them but one -/
theorem pick_one [Add GF] [Mul GF] [OfNat GF 0] [OfNat GF 1] [L : Nonempty GL] {n : Nat} {w : Nat → GF} (hw : Apart n w) (hn : n ≤ 255) (k : Nat) (hk : k < n) :
    ∃ c : Nat → GF, sum n (fun i => c i * pw (w k) i) ≠ 0 ∧ ∀ q, q < n → q ≠ k → sum n (fun i => c i * pw (w q) i) = 0 := by
  obtain ⟨P, hPB, hPl, hPv⟩ := isP_prod (less (fun _ => true) k) (fun p => inv (w p)) n (by omega)
  have hc := cn_less (fun _ => true) k n hk rfl
  rw [cn_true] at hc
  rw [hc] at hPl
  have hF : ∀ x : GF, sum n (fun i => gn P i * pw x i) = prod n (fun p => if less (fun _ => true) k p then 1 + inv (w p) * x else 1) := fun x => by
    rw [← gv_sum hPB x n hPl]
    apply GF.ext
    rw [gv_v hPB, ← hPv x]
  refine ⟨gn P, ?_, fun q hq hne => ?_⟩
  · rw [hF]
    refine prod_ne fun p hp => ?_
    by_cases h : p = k
    · subst h
      have : less (fun _ => true) p p = false := by unfold less; simp
      rw [this, if_neg (by decide)]
      exact one_ne
    · have : less (fun _ => true) k p = true := by unfold less; simp [h]
      rw [this]
      intro e
      exact h (hw.inj p k hp hk (lin_z (hw.ne p hp) e))
  · rw [hF]
    refine prod_zero q hq ?_
    have : less (fun _ => true) k q = true := by unfold less; simp [hne]
    rw [this]
    show 1 + inv (w q) * w q = 0
    rw [mul_comm, mul_inv (hw.ne q hq), add_self]
/-- sums of powers, as many as there are numbers, tell the factors -/
theorem vand [Add GF] [Mul GF] [OfNat GF 0] [OfNat GF 1] [L : Nonempty GL] {n : Nat} {w : Nat → GF} (hw : Apart n w) (hn : n ≤ 255) (s : Nat) (y : Nat → GF) (h : ∀ j, j < n → sum n (fun k => y k * pw (w k) (j + s)) = 0) : ∀ k, k < n → y k = 0 := by
  intro k hk
  obtain ⟨c, hc, hz⟩ := pick_one hw hn k hk
  have e1 : sum n (fun j => c j * sum n (fun q => y q * pw (w q) (j + s))) = 0 := sum_zero fun j hj => by rw [h j hj, mul_zero]
  have e2 : sum n (fun j => c j * sum n (fun q => y q * pw (w q) (j + s))) = sum n (fun q => y q * pw (w q) s * sum n (fun j => c j * pw (w q) j)) := by
    have e3 : sum n (fun j => c j * sum n (fun q => y q * pw (w q) (j + s))) = sum n (fun j => sum n (fun q => c j * (y q * pw (w q) (j + s)))) := sum_congr fun j _ => mul_sum n _ _
    rw [e3, sum_swap]
    refine sum_congr fun q _ => ?_
    rw [mul_sum]
    exact sum_congr fun j _ => by rw [pw_add]; (haveI := aA; haveI := aC; haveI := mA; haveI := mC; ac_rfl)
  rw [e2, sum_one k hk (fun q hq hne => by rw [hz q hq hne, mul_zero])] at e1
  rcases mul_eq_zero e1 with h1 | h1
  · rcases mul_eq_zero h1 with h2 | h2
    · exact h2
    · exact absurd h2 (pw_ne (hw.ne k hk) s)
  · exact absurd h1 hc
/-- the rows of Vandermonde's system -/
theorem vand_inj [Add GF] [Mul GF] [OfNat GF 0] [OfNat GF 1] [L : Nonempty GL] {n : Nat} {w : Nat → GF} (hw : Apart n w) (hn : n ≤ 255) (s : Nat) : InjM n (fun j k => pw (w k) (j + s)) := fun y h => vand hw hn s y (fun j hj => Eq.trans (sum_congr fun k _ => mul_comm _ _) (h j hj))
end

section
open GF

/-! Hankel's system -/
/-- so many zeros are too many -/
theorem vandT [Add GF] [Mul GF] [OfNat GF 0] [OfNat GF 1] [L : Nonempty GL] {n : Nat} {w : Nat → GF} (hw : ∀ i k, i < n → k < n → w i = w k → i = k) (y : Nat → GF) (h : ∀ q, q < n → sum n (fun i => y i * pw (w q) i) = 0) : ∀ i, i < n → y i = 0 := by
  intro i hi
  have hB : IsB ((List.range n).map fun q => (w q).v) := fun x hx => by
    obtain ⟨q, _, e⟩ := List.mem_map.1 hx
    rw [← e]; exact (w q).h
  have hX : ∀ q, q < n → nth ((List.range n).map fun q => (w q).v) q = (w q).v := fun q hq => by
    simp [nth, List.getElem?_range hq, hq]
  have := roots_zero hB n (fun i j hji hin e => by
      rw [hX i hin, hX j (by omega)] at e
      have := hw j i (by omega) hin (GF.ext e)
      omega) (fun j => if j < n then (y j).v else 0) (fun j => by
      show (if j < n then (y j).v else 0) < 256
      by_cases hj : j < n
      · rw [if_pos hj]; exact (y j).h
      · rw [if_neg hj]; decide) (fun j hj => if_neg (by omega)) (fun q hq => by
      rw [hX q hq]
      have e := congrArg GF.v (h q hq)
      rw [sum_v] at e
      show xsum (fun i => Fld.mul (if i < n then (y i).v else 0) (Fld.pw (w q).v i)) (n + 1) = 0
      have e2 : xsum (fun i => Fld.mul (if i < n then (y i).v else 0) (Fld.pw (w q).v i)) (n + 1) = xsum (fun i => (y i * pw (w q) i).v) n := by
        show xsum _ n ^^^ Fld.mul (if n < n then (y n).v else 0) (Fld.pw (w q).v n) = _
        rw [if_neg (Nat.lt_irrefl n), Fld.zero_mul (Fld.pw_lt _ _ (w q).h), Nat.xor_zero]
        exact xsum_congr n (fun i hi => by rw [if_pos hi, mul_v]; rfl)
      rw [e2]; exact e.trans zero_v) i
  rw [if_pos hi] at this
  exact GF.ext (this.trans zero_v.symm)
/-- a sum of powers -/
def hk [Add GF] [Mul GF] [OfNat GF 0] [OfNat GF 1] [L : Nonempty GL] (e : Nat) (G w : Nat → GF) (k : Nat) : GF := sum e (fun q => G q * pw (w q) (k + 1))
theorem hk_row [Add GF] [Mul GF] [OfNat GF 0] [OfNat GF 1] [L : Nonempty GL] {e f : Nat} {G w : Nat → GF} (a : Nat) (y : Nat → GF) :
    sum e (fun i => hk e G w (f + e + a - 1 - i) * y i) = sum e (fun q => G q * sum e (fun i => y i * pw (w q) (e - 1 - i)) * pw (w q) (a + (f + 1))) := by
  have e1 : sum e (fun i => hk e G w (f + e + a - 1 - i) * y i) = sum e (fun i => sum e (fun q => G q * pw (w q) (f + e + a - 1 - i + 1) * y i)) := sum_congr fun i _ => by
    unfold hk
    rw [sum_mul]
  rw [e1, sum_swap]
  refine sum_congr fun q _ => ?_
  rw [mul_assoc, sum_mul, mul_sum]
  refine sum_congr fun i hi => ?_
  have e2 : f + e + a - 1 - i + 1 = (e - 1 - i) + (a + (f + 1)) := by omega
  rw [e2, pw_add]
  (haveI := aA; haveI := aC; haveI := mA; haveI := mC; ac_rfl)
theorem hank_inj [Add GF] [Mul GF] [OfNat GF 0] [OfNat GF 1] [L : Nonempty GL] {e f : Nat} {G w : Nat → GF} (hw : Apart e w) (he : e ≤ 255) (hG : ∀ q, q < e → G q ≠ 0) : InjM e (fun a i => hk e G w (f + e + a - 1 - i)) := by
  intro y h
  have h1 := vand hw he (f + 1) (fun q => G q * sum e (fun i => y i * pw (w q) (e - 1 - i))) (fun a ha => by
    rw [← hk_row]
    exact h a ha)
  have h2 := vandT hw.inj (fun i => y (e - 1 - i)) (fun q hq => by
    rcases mul_eq_zero (h1 q hq) with h3 | h3
    · exact absurd h3 (hG q hq)
    · rw [sum_rev] at h3
      rw [← h3]
      refine sum_congr fun i hi => ?_
      rw [show e - 1 - (e - 1 - i) = i by omega])
  intro j hj
  have := h2 (e - 1 - j) (by omega)
  rw [show e - 1 - (e - 1 - j) = j by omega] at this
  exact this
theorem hank_root [Add GF] [Mul GF] [OfNat GF 0] [OfNat GF 1] [L : Nonempty GL] {e f : Nat} {G w l : Nat → GF} (hw : Apart e w) (he : e ≤ 255) (hG : ∀ q, q < e → G q ≠ 0) (h : Sol e (fun a i => hk e G w (f + e + a - 1 - i)) (fun a => hk e G w (f + e + a)) l) :
    ∀ q, q < e → pw (w q) e + sum e (fun i => l i * pw (w q) (e - 1 - i)) = 0 := by
  have h1 := vand hw he (f + 1) (fun q => G q * (pw (w q) e + sum e (fun i => l i * pw (w q) (e - 1 - i)))) (fun a ha => by
    have e1 := h a ha
    simp only at e1
    rw [hk_row] at e1
    have e2 : sum e (fun q => G q * (pw (w q) e + sum e (fun i => l i * pw (w q) (e - 1 - i))) * pw (w q) (a + (f + 1))) = hk e G w (f + e + a) + sum e (fun q => G q * sum e (fun i => l i * pw (w q) (e - 1 - i)) * pw (w q) (a + (f + 1))) := by
      unfold hk
      rw [← sum_add]
      refine sum_congr fun q _ => ?_
      rw [mul_add, add_mul, show f + e + a + 1 = e + (a + (f + 1)) by omega, pw_add (w q) e, mul_assoc (G q) (pw (w q) e)]
    rw [e2, e1, add_self])
  intro q hq
  rcases mul_eq_zero (h1 q hq) with h3 | h3
  · exact absurd h3 (hG q hq)
  · exact h3
/-- the same, at the inverse -/
theorem inv_root [Add GF] [Mul GF] [OfNat GF 0] [OfNat GF 1] [L : Nonempty GL] {e : Nat} {l : Nat → GF} {x v : GF} (hx : x * v = 1) (h : pw x e + sum e (fun i => l i * pw x (e - 1 - i)) = 0) : 1 + sum e (fun i => l i * pw v (i + 1)) = 0 := by
  have hp : ∀ m, pw x m * pw v m = 1 := fun m => by
    rw [← mul_pw, hx]
    induction m with
    | zero => exact pw_zero 1
    | succ m ih => rw [pw_succ, ih, mul_one]
  have e1 := congrArg (pw v e * ·) h
  simp only [mul_zero, mul_add, mul_sum] at e1
  rw [mul_comm (pw v e), hp] at e1
  rw [← e1]
  congr 1
  refine sum_congr fun i hi => ?_
  have e2 : pw v e = pw v (i + 1) * pw v (e - 1 - i) := by rw [← pw_add, show i + 1 + (e - 1 - i) = e by omega]
  have e3 := hp (e - 1 - i)
  rw [e2, show pw v (i + 1) * pw v (e - 1 - i) * (l i * pw x (e - 1 - i)) = l i * pw v (i + 1) * (pw x (e - 1 - i) * pw v (e - 1 - i)) by (haveI := aA; haveI := aC; haveI := mA; haveI := mC; ac_rfl), e3, mul_one]
/-- one zero more than that there is not -/
theorem no_more [Add GF] [Mul GF] [OfNat GF 0] [OfNat GF 1] [L : Nonempty GL] {e : Nat} {l v : Nat → GF} (hv : ∀ i k, i < e + 1 → k < e + 1 → v i = v k → i = k) (h : ∀ q, q < e + 1 → 1 + sum e (fun i => l i * pw (v q) (i + 1)) = 0) : False := by
  have := vandT hv (fun i => if i = 0 then 1 else l (i - 1)) (fun q hq => by
    rw [sum_front]
    have := h q hq
    simp only [if_true, pw_zero, mul_one]
    rw [← this]
    congr 1) 0 (by omega)
  rw [if_pos rfl] at this
  exact absurd this one_ne
end

section
theorem rowFits_yes (d c : Int) (w : World) (h1 : 1 ≤ c) (h2 : c ≤ 64) (h3 : 1 ≤ d) (h4 : d ≤ 255 - c) :
    Calls Tryd.prog 12 #[.int .i64 d, .int .i64 c] w fun e w' => e = .returned (.bool true) ∧ w' = w := by
  go_enter Tryd.func12, Tryd.ntmps12
  go_wp2
  go_ret
  exact ⟨rfl, rfl⟩
theorem rowFits_no (d c : Int) (w : World) (hd1 : -9223372036854775808 ≤ d) (hd2 : d ≤ 9223372036854775807) (h : ¬ (1 ≤ c ∧ c ≤ 64 ∧ 1 ≤ d ∧ d ≤ 255 - c)) :
    Calls Tryd.prog 12 #[.int .i64 d, .int .i64 c] w fun e w' => e = .returned (.bool false) ∧ w' = w := by
  by_cases h1 : 1 ≤ c
  · by_cases h2 : c ≤ 64
    · by_cases h3 : 1 ≤ d
      · have h4 : ¬ d ≤ 255 - c := by omega
        clear h
        go_enter Tryd.func12, Tryd.ntmps12
        go_wp2
        go_ret
        exact ⟨rfl, rfl⟩
      · clear h
        go_enter Tryd.func12, Tryd.ntmps12
        go_wp2
        go_ret
        exact ⟨rfl, rfl⟩
    · clear h
      go_enter Tryd.func12, Tryd.ntmps12
      go_wp2
      go_ret
      exact ⟨rfl, rfl⟩
  · clear h
    go_enter Tryd.func12, Tryd.ntmps12
    go_wp2
    go_ret
    exact ⟨rfl, rfl⟩
end

section
theorem Tryd.info_bool : (Tryd.prog.info? 4).map (fun i => (i.zero, i.size, i.bytes)) = some (some (.bool false), 1, 1) := by kernel_rfl
def bls (H : List Bool) : List Value := H.map Value.bool
/-- Block g is a row of bools, the call's own. -/
def BlkB (w : World) (g : Nat) (H : List Bool) : Prop := w.heap[g]? = some (.cells (bls H).toArray 4)
theorem BlkB.lt {w : World} {g : Nat} {H : List Bool} (h : BlkB w g H) : g < w.heap.size := (Array.getElem?_eq_some_iff.1 h).1
theorem BlkB.cell {w : World} {g : Nat} {H : List Bool} (h : BlkB w g H) (i : Nat) (hi : i < H.length) : w.cell? ⟨g, i, none⟩ = some (.bool (bat H i)) := by
  rw [cell_of_row w g i _ _ _ h]
  unfold bls bat
  simp [hi]
theorem BlkB.free {w : World} {g : Nat} {H : List Bool} (h : BlkB w g H) (i : Nat) : w.frozen? ⟨g, i, none⟩ = false := frozen_of_row w g i _ _ h
theorem BlkB.set {w : World} {g : Nat} {H : List Bool} (h : BlkB w g H) (i : Nat) (x : Bool) : BlkB (w.setCell ⟨g, i, none⟩ (.bool x)) g (H.set i x) := by
  unfold BlkB
  rw [heap_setCell_same w g i _ _ _ h]
  simp [bls, List.map_set]
theorem BlkB.grown {w w' : World} {g : Nat} {H : List Bool} {r : Option Nat} (h : BlkB w g H) (hg : w.grownBy w' r) (hne : some g ≠ r) : BlkB w' g H := by
  unfold BlkB; rw [hg.block g h.lt hne]; exact h
theorem BlkB.rd {w : World} {g n : Nat} {H : List Bool} (h : BlkB w g H) (hl : H.length = n) (hm : n ≤ maxLen) : RdB w (some ⟨g, 0, none⟩) n n H :=
  ⟨hl, Nat.le_refl _, hm, fun _ => ⟨g, 0, rfl, h.lt, fun i hi => by rw [Nat.zero_add]; exact h.cell i (by omega)⟩⟩
theorem wpList_mkBool (w : World) {ops : Array Oper} {rest : List Oper} {o : Oper} {a : Act} {Q : Exit → Act → World → Prop} (hg : o.guard = none) (l c : Operand)
    (hop : o.op = Op.makeSlice 36 l c) (L C : Int) (n : Nat) (hl : a.eval l = .int .i64 L) (hc : a.eval c = .int .i64 C) (hL : L = n) (hC : C = n) (hn : n ≤ 281474976710656)
    (hK : ∀ w', BlkB w' w.heap.size (List.replicate n false) → w.grownBy w' none → wpList Tryd.prog ops Q rest (a.put o.dst (.slice (some ⟨w.heap.size, 0, none⟩) n n)) w') :
    wpList Tryd.prog ops Q (o :: rest) a w := by
  obtain ⟨i0, hi, hz0, hz1, hz2⟩ := info_parts Tryd.info_bool
  refine wpList_make_full w hg l c 36 hop w.heap.size 4 i0 (.bool false) 1 Tryd.underlying36 hi hz0 hz1 .i64 .i64 L C n hl hc hL hC (by rw [hz2]; omega) (by unfold maxLen; omega) (Nat.le_refl _) ?_
  intro w' hown hgr
  refine hK w' ?_ hgr
  rcases hown.2 with ⟨h, _⟩ | ⟨g, cap, cur, hv, _, hh, h1, _, h3, h4⟩
  · simp at h
  · simp only [Value.slice.injEq, Option.some.injEq, Addr.mk.injEq] at hv
    obtain ⟨⟨hgg, _⟩, _, hcap⟩ := hv
    subst hgg; subst hcap
    unfold BlkB
    rw [hh]
    have e1 : cur.toList = bls (List.replicate n false) := by
      have e0 : bls (List.replicate n false) = List.replicate n (Value.bool false) := by simp [bls]
      rw [e0]
      have e2 : (madeCells (Value.bool false).cells (n * 1)).toList = List.replicate n (Value.bool false) := by
        rw [Nat.mul_one]; exact toList_madeCells_one _ _
      rw [← e2, ← h4, List.take_of_length_le (by simp; omega)]
    rw [← e1]
theorem bat_none (n i : Nat) : bat (List.replicate n false) i = false := by
  unfold bat
  rw [List.getD_eq_getElem?_getD, List.getElem?_replicate]
  split <;> rfl
theorem cnt_none (n k : Nat) : cntB (List.replicate n false) k = 0 := by
  induction k with
  | zero => rfl
  | succ k ih => simp only [cntB, bat_none, ih]; rfl
theorem rowFits_noC (d c : Int) (w : World) (h : ¬ (1 ≤ c ∧ c ≤ 64)) :
    Calls Tryd.prog 12 #[.int .i64 d, .int .i64 c] w fun e w' => e = .returned (.bool false) ∧ w' = w := by
  by_cases h1 : 1 ≤ c
  · have h2 : ¬ c ≤ 64 := by omega
    clear h
    go_enter Tryd.func12, Tryd.ntmps12
    go_wp2
    go_ret
    exact ⟨rfl, rfl⟩
  · clear h
    go_enter Tryd.func12, Tryd.ntmps12
    go_wp2
    go_ret
    exact ⟨rfl, rfl⟩
theorem Decode_bad (a ah : Option Addr) (n cap m caph : Nat) (c : Int) (w : World) (hn : n ≤ 9223372036854775807) (hc1 : -9223372036854775808 ≤ c) (hc2 : c ≤ 9223372036854775807) (h : ¬ (1 ≤ c ∧ c ≤ 64 ∧ c < n ∧ n ≤ 255)) :
    Calls Tryd.prog 6 #[.slice a n cap, .int .i64 c, .slice ah m caph] w fun e w' => e = .returned (.tuple #[.slice none 0 0, .slice none 0 0, .int .i64 1]) ∧ w' = w := by
  by_cases hc : 1 ≤ c ∧ c ≤ 64
  · obtain ⟨h1, h2⟩ := hc
    have H := rowFits_no ((n : Int) - c) c w (by omega) (by omega) (by omega)
    clear h
    go_enter Tryd.func6, Tryd.ntmps6
    go_wp2_with (go_at_call 12; refine H.mono ?_; rintro e w' ⟨rfl, hw⟩; have hw := hw.symm; subst hw)
    go_ret3
    exact ⟨rfl, rfl⟩
  · have H := fun d => rowFits_noC d c w hc
    clear h
    go_enter Tryd.func6, Tryd.ntmps6
    go_wp2_with (go_at_call 12; refine (H _).mono ?_; rintro e w' ⟨rfl, hw⟩; have hw := hw.symm; subst hw)
    go_ret3
    exact ⟨rfl, rfl⟩
end

section
/-- 'decode', whatever comes in -/
theorem decode_all (g n capw lo c capb : Nat) (ab : Option Addr) (W : List Nat) (H : List Bool) (w : World) (hW : Ans w lo (some ⟨g, 0, none⟩) n capw W) (hH : RdB w ab n capb H) (h0 : 0 < n) (hn : n ≤ 255) (hc : c ≤ 64) (hcn : c < n) :
    Calls Tryd.prog 14 #[.slice (some ⟨g, 0, none⟩) n capw, .int .i64 c, .slice ab n capb] w fun e w' => w.grownBy w' (some g) ∧
      ((decO W c H = none ∧ e = .returned (.agg #[.slice none 0 0, .slice none 0 0, .bool true])) ∨
       ∃ W' P ap np cp, decO W c H = some (W', P) ∧ e = .returned (.agg #[.slice (some ⟨g, 0, none⟩) (n - c : Nat) capw, .slice ap np cp, .bool false]) ∧ AnsI w' w.heap.size ap np cp P ∧ Ans w' lo (some ⟨g, 0, none⟩) n capw W') := by
  have hl := hH.len
  have hlW := hW.len
  by_cases hh : c < cntB H n
  · refine (decode_holes g n capw lo c capb ab W H w hW hH hn hc hh).mono ?_
    rintro e w' ⟨rfl, hg⟩
    exact ⟨grown_weak hg _, .inl ⟨by unfold decO; rw [hl, if_pos hh], rfl⟩⟩
  · by_cases hv : valL W c = []
    · refine (decode_clean g n capw lo c capb ab W H w hW hH h0 hn hc hcn (by omega) hv).mono ?_
      rintro e w' ⟨rfl, hg⟩
      exact ⟨grown_weak hg _, .inr ⟨W, [], none, 0, 0, by unfold decO; rw [hl, if_neg hh, if_pos hv], rfl, ansI_nil _ _, hW.keep hg⟩⟩
    · refine (decode_mended g n capw lo c capb ab W H w hW hH h0 hn hc hcn (by omega) hv _ _ rfl rfl).mono ?_
      rintro e w' ⟨ap, np, cp, hp, hA, hg, rfl⟩
      refine ⟨hg, ?_⟩
      by_cases hz : valL (mendL W (accA (valL W c) c H) (accS (valL W c) c H).2) c = []
      · refine .inr ⟨_, _, ap, np, cp, ?_, ?_, hp, hA⟩
        · unfold decO
          rw [hl, if_neg hh, if_neg hv, if_pos hz, hlW]
        · rw [if_pos hz]
      · refine .inl ⟨?_, ?_⟩
        · unfold decO
          rw [hl, if_neg hh, if_neg hv, if_neg hz]
        · rw [if_neg hz]
set_option maxHeartbeats 2000000 in
theorem Decode_with (a ah : Option Addr) (n cap m caph c : Nat) (W : List Nat) (H : List Bool) (w : World) (hp : Rd w a n cap W) (hc1 : 1 ≤ c) (hc : c ≤ 64) (hcn : c < n) (hn : n ≤ 255)
    (HM : Calls Tryd.prog 13 #[.slice ah m caph, .int .i64 n] w fun e w' => e = .returned (.tuple #[.slice (some ⟨w.heap.size, 0, none⟩) n n, .int .i64 0]) ∧ RdB w' (some ⟨w.heap.size, 0, none⟩) n n H ∧ w.grownBy w' none) :
    Calls Tryd.prog 6 #[.slice a n cap, .int .i64 c, .slice ah m caph] w fun e w' => w.grownBy w' none ∧
      ((decO W c H = none ∧ e = .returned (.tuple #[.slice none 0 0, .slice none 0 0, .int .i64 5])) ∨
       ∃ W' P a1 c1 ap np cp, decO W c H = some (W', P) ∧ e = .returned (.tuple #[.slice a1 (n - c : Nat) c1, .slice ap np cp, .int .i64 0]) ∧ AnsI w' w.heap.size ap np cp P ∧ Ans w' w.heap.size a1 (n - c) c1 (W'.take (n - c)) ∧ W'.length = n) := by
  have HF := rowFits_yes ((n : Int) - c) c w (by omega) (by omega) (by omega) (by omega)
  obtain ⟨O, hO⟩ : ∃ O, O = decO W c H := ⟨_, rfl⟩
  have HO : Hid (decO W c H = O) := hO.symm
  rw [← hO]
  clear hO
  go_enter Tryd.func6, Tryd.ntmps6
  go_wp2_with (first
    | (go_at_call 12; refine HF.mono ?_; rintro e w' ⟨rfl, hw⟩; have hw := hw.symm; subst hw)
    | (go_at_call 13; refine HM.mono ?_; rintro e w1 ⟨rfl, hH1, g01⟩)
    | (go_at_call 15; refine (clone_any a n cap W w1 (hp.keep g01) (by omega) (by omega)).mono ?_; rintro e w2 ⟨g, cw, rfl, hW2, g12⟩))
  refine (decode_all g n cw w1.heap.size c n _ W H w2 hW2 (hH1.keep g12) (by omega) hn hc hcn).mono ?_
  rintro e w3 ⟨g3, h3⟩
  rw [HO.out] at h3
  have hgl := hW2.new g rfl
  have g03 := grown_off (grown_trans g01 g12) g3 (fun g' e => by cases e; exact Nat.le_trans g01.size hgl)
  rcases h3 with ⟨h3, rfl⟩ | ⟨W', P, ap, np, cp, h3, rfl, hP3, hW3⟩
  · go_wp2
    go_ret3
    exact ⟨grown_trans g03 (World.grownBy_alloc _ _ none), .inl ⟨h3, rfl⟩⟩
  · go_wp2
    go_quiet (fail)
    go_wp2
    go_ret3
    have gE := grown_trans (World.grownBy_alloc w3 (.cells #[.slice (some ⟨g, 0, none⟩) (n - c : Nat) cw, .slice ap np cp, .bool false] 40) none) (grown_drewN _ nq none)
    exact ⟨grown_trans g03 gE, .inr ⟨W', P, some ⟨g, 0, none⟩, cw, ap, np, cp, h3, rfl, ⟨(hP3.keep gE).own, fun g' h => Nat.le_trans (grown_trans g01 g12).size (hP3.new g' h)⟩, ((hW3.cut (by omega)).keep gE).wide g01.size, hW3.len⟩⟩
end

section
theorem cell_one (w : World) (v : Value) (j : Nat) (u : Value) (h : [v][j]? = some u) : (w.alloc (.cells #[v] 5)).cell? ((⟨w.heap.size, 0, none⟩ : Addr).add j) = some u := by
  rw [addr_add, cell_of_row _ _ _ _ _ _ (heap_alloc_new w _)]
  simpa using h
theorem bys_add (A : List Nat) (v : Nat) : bys A ++ [Value.int .u8 (v : Int)] = bys (A ++ [v]) := by simp [bys]
theorem take_snoc (L : List Nat) (k : Nat) (h : k < L.length) : L.take (k + 1) = L.take k ++ [nth L k] := by
  rw [List.take_add_one, List.getElem?_eq_getElem h]
  unfold nth
  rw [List.getD_eq_getElem?_getD, List.getElem?_eq_getElem h]
  rfl
/-- the document's 'backward' -/
theorem backward_any (a : Option Addr) (n cap : Nat) (L : List Nat) (w : World) (hp : Rd w a n cap L) (hn : n ≤ 140737488351240) :
    Calls Tryd.prog 32 #[.slice a n cap] w fun e w' => ∃ a' c', e = .returned (.slice a' n c') ∧ Ans w' w.heap.size a' n c' L.reverse ∧ w.grownBy w' none := by
  have HL : Hid (L.length = n) := hp.len
  go_enter Tryd.func32, Tryd.ntmps32
  go_wp2
  go_loopw [3, 4] (fun o i wr => ∃ (k co : Nat) (z : Int) (ao : Option Addr), k ≤ n ∧ i = .int .i64 z ∧ z = (n : Int) - 1 - k ∧ o = .slice ao k co ∧ w.grownBy wr none ∧ Ans wr w.heap.size ao k co (L.reverse.take k)) (fun _ i _ => (intOf i + 1).toNat)
  case atStart => exact ⟨0, 0, (n : Int) - 1, none, by omega, rfl, by omega, rfl, World.grownBy.refl _ _, ans_nil _ _⟩
  case round =>
    obtain ⟨k, co, z, ao, hk, rfl, hz, rfl, hgr, hA⟩ := hrel
    by_cases hlt : k < n
    · obtain ⟨j, rfl⟩ := Int.eq_ofNat_of_zero_le (a := z) (by omega)
      have hjn : j < n := by omega
      obtain ⟨b1, off1, rfl, hbw1, hcc⟩ := (hp.keep hgr).at' (by omega)
      have hck := hcc j hjn
      have hOo := hA.own.alloc (.cells #[.int .u8 (nth L j : Nat)] 5)
      have gA := grown_trans hgr (World.grownBy_alloc wr (.cells #[.int .u8 (nth L j : Nat)] 5) none)
      have HT : Hid (L.reverse.take k ++ [nth L j] = L.reverse.take (k + 1)) := by
        show _ = _
        rw [take_snoc _ _ (by rw [List.length_reverse, HL.out]; exact hlt), nth_reverse _ _ (by rw [HL.out]; exact hlt), HL.out]
        congr 3; omega
      have HZ : Hid ((j : Int) = (n : Int) - 1 - k) := hz
      clear hcc hz
      go_wp2_with (at_builtin; refine wpList_apB _ rfl (.tmp 12) (.tmp 17) rfl (.slice ao k co) k (bys (L.reverse.take k)) rfl hOo ⟨wr.heap.size, 0, none⟩ 1 1 [.int .u8 (nth L j : Nat)] rfl rfl (cell_one wr _) (by simp [Value.oneCell']) (by decide) (by omega) ?_; intro gx cx' w2 hgx hgr2 hown2)
      rw [bys_add, HT.out] at hown2
      have hG2 := grown_far gA hgr2 (hA.far _ (Nat.le_refl _))
      have hgxl : w.heap.size ≤ gx := by
        rcases hgx with h | h
        · exact hA.new gx h
        · exact Nat.le_trans gA.size h
      go_wp2
      go_roundw
      case rel =>
        have e1 := HZ.out
        exact ⟨k + 1, cx', (j : Int) - 1, some ⟨gx, 0, none⟩, by omega, by go_num, by omega, rfl, hG2, ⟨hown2, isB_take (isB_reverse hp.byte) _, fun g h => by simp [Value.ownBlock] at h; omega⟩⟩
      case measure => first | (simp [intOf]; done) | (simp [intOf]; omega)
    · obtain rfl : k = n := by omega
      rw [List.take_of_length_le (by rw [List.length_reverse, HL.out]; exact Nat.le_refl _)] at hA
      go_wp2
      go_ret
      exact ⟨_, _, rfl, hA, hgr⟩
theorem sized_yes (n c : Int) (w : World) (h1 : 1 ≤ c) (h2 : c ≤ 64) (h3 : c < n) (h4 : n ≤ 255) :
    Calls Tryd.prog 8 #[.int .i64 n, .int .i64 c] w fun e w' => e = .returned (.bool true) ∧ w' = w := by
  go_enter Tryd.func8, Tryd.ntmps8
  go_wp2
  go_ret
  exact ⟨rfl, rfl⟩
theorem sized_no (n c : Int) (w : World) (h : ¬ (1 ≤ c ∧ c ≤ 64 ∧ c < n ∧ n ≤ 255)) :
    Calls Tryd.prog 8 #[.int .i64 n, .int .i64 c] w fun e w' => e = .returned (.bool false) ∧ w' = w := by
  by_cases h1 : 1 ≤ c
  · by_cases h2 : c ≤ 64
    · by_cases h3 : c < n
      · have h4 : ¬ n ≤ 255 := by omega
        clear h
        go_enter Tryd.func8, Tryd.ntmps8
        go_wp2
        go_ret
        exact ⟨rfl, rfl⟩
      · clear h
        go_enter Tryd.func8, Tryd.ntmps8
        go_wp2
        go_ret
        exact ⟨rfl, rfl⟩
    · clear h
      go_enter Tryd.func8, Tryd.ntmps8
      go_wp2
      go_ret
      exact ⟨rfl, rfl⟩
  · clear h
    go_enter Tryd.func8, Tryd.ntmps8
    go_wp2
    go_ret
    exact ⟨rfl, rfl⟩
end

section
theorem ownI_cell {w : World} {g n cap : Nat} {L : List Nat} (h : w.ownsRow 0 3 1 (.slice (some ⟨g, 0, none⟩) n cap) n (ins L)) (j : Nat) (hj : j < n) : w.cell? ⟨g, j, none⟩ = some (.int .i64 (nth L j : Nat)) := by
  have hl : L.length = n := by have := h.1; rw [ins_length] at this; omega
  rw [h.cellAt j (by omega)]
  exact nth_ins L j (by omega)
theorem AnsI.at' {w : World} {lo : Nat} {a : Option Addr} {n cap : Nat} {L : List Nat} (h : AnsI w lo a n cap L) (h0 : 0 < n) : ∃ g, a = some ⟨g, 0, none⟩ ∧ ∀ j, j < n → w.cell? ⟨g, j, none⟩ = some (.int .i64 (nth L j : Nat)) := by
  rcases h.own.2 with ⟨_, h2⟩ | ⟨g, cap', cur, h1, _⟩
  · omega
  · cases h1
    exact ⟨g, rfl, fun j hj => ownI_cell h.own j hj⟩
/-- the places below i at which two words differ -/
def difN (W V : List Nat) (i : Nat) : List Nat := (List.range i).filter (fun p => nth W p != nth V p)
theorem dif_step {W V : List Nat} {i : Nat} (h : nth W i ≠ nth V i) : difN W V (i + 1) = difN W V i ++ [i] := by
  unfold difN; rw [List.range_succ, List.filter_append]; congr 1; simp [h]
theorem dif_skip {W V : List Nat} {i : Nat} (h : nth W i = nth V i) : difN W V (i + 1) = difN W V i := by
  unfold difN; rw [List.range_succ, List.filter_append]; simp [h]
theorem dif_len (W V : List Nat) (i : Nat) : (difN W V i).length ≤ i := by
  have := List.length_filter_le (fun p => nth W p != nth V p) (List.range i)
  rw [List.length_range] at this
  exact this
end

section
/-- whatever is wrong at few places is mended -/
theorem dec_complete [Add GF] [Mul GF] [OfNat GF 0] [OfNat GF 1] [L : Nonempty GL] {W V : List Nat} (hW : IsB W) (hV : IsB V) (H : List Bool) (n c : Nat) (h1 : W.length = n) (h2 : V.length = n) (h3 : H.length = n) (hn : n ≤ 255) (hc : c ≤ 64) (hv : valL V c = [])
    (he : 2 * cn (wrU W V H) n + cntB H n ≤ c) : decO W c H = some (V, difN W V n) := by
  obtain ⟨k1, k2⟩ := near_key hW hV H n c h1 h2 h3 hn hc hv he
  unfold decO
  rw [h3, if_neg (by omega)]
  by_cases hz : valL W c = []
  · rw [if_pos hz]
    have e : W = V := list_ext (by omega) (fun i hi => k1 hz i (by omega))
    subst e
    congr 2
    unfold difN
    rw [List.filter_eq_nil_iff.2]
    intro p _; simp
  · rw [if_neg hz]
    have e : mendL W (accA (valL W c) c H) (accS (valL W c) c H).2 = V := by
      refine list_ext (by simp [mendL]; omega) fun p hp => ?_
      have hp' : p < n := by simpa [mendL, h1] using hp
      have e1 : nth (mendL W (accA (valL W c) c H) (accS (valL W c) c H).2) p = nth W p ^^^ mby (accA (valL W c) c H) (accS (valL W c) c H).2 W.length p := nth_map_range _ _ _ (by omega)
      rw [e1, h1, k2 p hp', ← Nat.xor_assoc, Nat.xor_self, Nat.zero_xor]
    rw [e, if_pos hv, h1]
    congr 2
    unfold mendN difN
    refine List.filter_congr fun p hp => ?_
    rw [k2 p (List.mem_range.1 hp)]
    by_cases e2 : nth W p = nth V p
    · rw [e2, Nat.xor_self]; simp
    · have e3 : nth W p ^^^ nth V p ≠ 0 := fun h => e2 (xor_eq h)
      rw [bne_iff_ne.2 e3, bne_iff_ne.2 e2]
/-! which of n things a raw number speaks of -/
end
end Go.Proofs.YtdcfgaibppenaaaDoor
