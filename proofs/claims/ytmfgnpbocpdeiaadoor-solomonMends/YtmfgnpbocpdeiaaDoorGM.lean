import Derived.Test.YtmfgnpbocpdeiaaDoorGK
namespace Go.Proofs.YtmfgnpbocpdeiaaDoor
set_option maxRecDepth 100000
set_option linter.unusedVariables false
set_option linter.unusedSimpArgs false
open GF

theorem sum_pairs (M : Nat) (F : Nat → GF) : sum (2 * M) F = sum M (fun m => F (2 * m) + F (2 * m + 1)) := by
  induction M with
  | zero => rfl
  | succ M ih =>
    show sum (2 * M + 1 + 1) F = sum M _ + (F (2 * M) + F (2 * M + 1))
    show sum (2 * M) F + F (2 * M) + F (2 * M + 1) = _
    rw [ih, add_assoc]
theorem sum_split (c m : Nat) (F : Nat → GF) : sum (c + m) F = sum c F + sum m (fun i => F (c + i)) := by
  induction m with
  | zero => exact (add_zero _).symm
  | succ m ih => show sum (c + m) F + F (c + m) = sum c F + (sum m _ + F (c + m)); rw [ih, add_assoc]
theorem gv_split {L : List Nat} (hL : IsB L) (c : Nat) (x : GF) : gv L x = gv (L.take c) x + pw x c * gv (L.drop c) x := by
  rw [gv_sum hL x (c + L.length) (by omega), sum_split, gv_sum (isB_take hL c) x c (by rw [List.length_take]; omega), gv_sum (isB_drop hL c) x L.length (by rw [List.length_drop]; omega), mul_sum]
  congr 1
  · refine sum_congr fun i hi => ?_
    congr 1
    apply GF.ext
    rw [gn_v hL, gn_v (isB_take hL c), nth_take L c i hi]
  · refine sum_congr fun i hi => ?_
    have e : gn L (c + i) = gn (L.drop c) i := by
      apply GF.ext
      rw [gn_v hL, gn_v (isB_drop hL c)]
      unfold nth
      rw [List.getD_eq_getElem?_getD, List.getD_eq_getElem?_getD, List.getElem?_drop]
    rw [e, pw_add]; ac_rfl
/-- a zero taken out, and the derivative there -/
theorem take_zero {A : List Nat} (hA : IsB A) (hl : A.length ≤ 250) (X x0 : GF) (hX : X * x0 = 1) (h0 : gv A x0 = 0) :
    ∃ F : GF → GF, IsP F A.length ∧ (∀ x, gv A x = (1 + X * x) * F x) ∧ gv (drvL A) x0 = X * F x0 := by
  have hXn : X ≠ 0 := fun e => by rw [e, zero_mul] at hX; exact absurd hX.symm (v_ne (by decide))
  have hQ := isB_pair 1 X.v (by decide) X.h
  have tQ : Top [1, X.v] := ⟨by simp, by simp [nth]; exact ne_v hXn⟩
  have hz := top_z tQ
  have hqB := isB_ovQ hA hQ
  have hrB := isB_ovT hA hQ
  have hql := ovQ_small (P := A) hz
  have hrl := div_rest hA hQ (by omega) (by simp) hz
  rw [top_trim tQ] at hrl
  have hlin : ∀ x, gv [1, X.v] x = 1 + X * x := fun x => by apply GF.ext; rw [gv_v hQ]; exact at_lin X x
  have hv : ∀ x, gv A x = gv (ovQ A [1, X.v]) x * (1 + X * x) + gv (ovT A [1, X.v]) x := fun x => by
    rw [← hlin x]; exact gv_over hA hQ (by omega) (by simp) hz x
  have hrc : ∀ x, gv (ovT A [1, X.v]) x = gn (ovT A [1, X.v]) 0 := fun x => by
    rw [gv_sum hrB x 1 (by simp at hrl; omega)]
    show 0 + gn _ 0 * pw x 0 = _
    rw [zero_add, pw_zero, mul_one]
  have hr0 : gn (ovT A [1, X.v]) 0 = 0 := by
    have h := hv x0
    rw [h0, hX, add_self, mul_zero, zero_add, hrc] at h
    exact h.symm
  have hA2 : ∀ x, gv A x = (1 + X * x) * gv (ovQ A [1, X.v]) x := fun x => by rw [hv x, hrc x, hr0, add_zero, mul_comm]
  refine ⟨gv (ovQ A [1, X.v]), (gv_isP hqB).le hql, hA2, ?_⟩
  obtain ⟨q, hq⟩ : ∃ q, q = ovQ A [1, X.v] := ⟨_, rfl⟩
  rw [← hq] at hqB hql hA2 ⊢
  have hsame := same_vals hA (isB_timR hQ hqB) (by omega) (by have := timR_short hQ hqB; simp at this; omega) (fun x hx => by
    have h := congrArg GF.v (hA2 ⟨x, hx⟩)
    rw [gv_v hA] at h
    rw [at_times hQ hqB x hx (by simp) (by omega)]
    rw [show atL A x = _ from h]
    show Fld.mul (1 + X * (⟨x, hx⟩ : GF)).v (gv q ⟨x, hx⟩).v = _
    rw [gv_v hqB, ← at_lin X ⟨x, hx⟩])
  have hco : ∀ j, gn A (j + 1) = gn q (j + 1) + X * gn q j := fun j => by
    apply GF.ext
    rw [gn_v hA, hsame (j + 1), nth_timR hQ hqB (by simp) (by omega)]
    show (0 ^^^ (if 0 ≤ j + 1 then Fld.mul (nth q (j + 1 - 0)) 1 else 0)) ^^^ (if 1 ≤ j + 1 then Fld.mul (nth q (j + 1 - 1)) X.v else 0) = (gn q (j + 1)).v ^^^ Fld.mul X.v (gn q j).v
    rw [if_pos (Nat.zero_le _), if_pos (by omega), gn_v hqB, gn_v hqB, Nat.zero_xor, Nat.sub_zero, Nat.add_sub_cancel, Fld.mul_one (hqB.nth _), Fld.mul_comm (hqB.nth _) X.h]
  have hdr : ∀ i, gn (drvL A) i = if i % 2 = 0 then gn A (i + 1) else 0 := fun i => by
    apply GF.ext
    rw [gn_v (isB_drvL hA)]
    by_cases h : i < A.length
    · rw [nth_drvL A i h]
      split
      · rw [gn_v hA]
      · rfl
    · rw [nth_out (drvL A) i (by rw [drvL_len]; omega)]
      split
      · rw [gn_v hA, nth_out A _ (by omega)]
      · rfl
  rw [gv_sum (isB_drvL hA) x0 (2 * A.length) (by rw [drvL_len]; omega), gv_sum hqB x0 (2 * A.length) (by omega), mul_sum, sum_pairs, sum_pairs]
  refine sum_congr fun m _ => ?_
  rw [hdr (2 * m), hdr (2 * m + 1), if_pos (by omega), if_neg (by omega), zero_mul, add_zero, hco (2 * m), pw_succ, add_mul]
  have e : X * (gn q (2 * m + 1) * (pw x0 (2 * m) * x0)) = X * x0 * (gn q (2 * m + 1) * pw x0 (2 * m)) := by ac_rfl
  rw [e, hX, one_mul]
  ac_rfl
/-! holes -/
theorem cnt_cn (H : List Bool) (k : Nat) : cntB H k = cn (bat H) k := by
  induction k with
  | zero => rfl
  | succ k ih => unfold cntB cn; rw [ih]
theorem holN_len (H : List Bool) (n k : Nat) : (holN H n k).length ≤ cntB H k + 1 := by
  induction k with
  | zero => simp [holN]
  | succ k ih =>
    unfold holN cntB
    split
    · have h := timR_short (isB_holN H n k) (isB_pair 1 (pow2 ((n : Int) - 1 - k)) (by decide) (pow2_lt _))
      simp at h
      omega
    · exact ih
theorem hol_val (H : List Bool) (n k : Nat) (hk : k ≤ 255) (x : GF) : gv (holN H n k) x = prod k (fun p => if bat H p then 1 + wt n p * x else 1) := by
  induction k with
  | zero => exact gv_one x
  | succ k ih =>
    have hl := holN_len H n k
    have hc := cntB_le H k
    show gv (if bat H k then timR (holN H n k) [1, pow2 ((n : Int) - 1 - k)] else holN H n k) x = prod k _ * (if bat H k then 1 + wt n k * x else 1)
    by_cases hb : bat H k = true
    · rw [if_pos hb, if_pos hb, gv_mul (isB_holN H n k) (isB_pair 1 _ (by decide) (pow2_lt _)) (by omega) (by simp), ih (by omega)]
      congr 1
      apply GF.ext
      rw [gv_v (isB_pair 1 _ (by decide) (pow2_lt _))]
      exact at_lin (wt n k) x
    · rw [if_neg hb, if_neg hb, mul_one, ih (by omega)]
theorem cn_or (U H : Nat → Bool) (n : Nat) (h : ∀ i, U i = true → H i = false) : cn (fun i => U i || H i) n = cn U n + cn H n := by
  induction n with
  | zero => rfl
  | succ n ih =>
    simp only [cn, ih]
    by_cases hu : U n = true
    · simp [hu, h n hu]; omega
    · have hu' : U n = false := by simpa using hu
      simp only [hu', Bool.false_or]
      by_cases hh : H n = true
      · simp [hh]; omega
      · simp [hh]
theorem loc_or (n : Nat) (U H : Nat → Bool) (h : ∀ i, U i = true → H i = false) (x : GF) : loc n (fun i => U i || H i) x = loc n U x * loc n H x := by
  unfold loc
  rw [← prod_mul]
  refine prod_congr fun p _ => ?_
  by_cases hu : U p = true
  · simp [hu, h p hu, mul_one]
  · have hu' : U p = false := by simpa using hu
    simp only [hu', Bool.false_or]
    simp [one_mul]
end Go.Proofs.YtmfgnpbocpdeiaaDoor
