import Derived.Test.YtmfgnpbocpdeiaaDoorGF
import Derived.Test.YtmfgnpbocpdeiaaDoorSDecode
namespace Go.Proofs.YtmfgnpbocpdeiaaDoor
set_option maxRecDepth 100000
set_option linter.unusedVariables false
set_option linter.unusedSimpArgs false
open GF

/-! functions that are polynomials of so many numbers -/
def IsP (F : GF → GF) (d : Nat) : Prop := ∃ P : List Nat, IsB P ∧ P.length ≤ d ∧ ∀ x : GF, (F x).v = atL P x.v
theorem IsP.le {F : GF → GF} {d e : Nat} (h : IsP F d) (hde : d ≤ e) : IsP F e := by
  obtain ⟨P, h1, h2, h3⟩ := h; exact ⟨P, h1, by omega, h3⟩
theorem isP_congr {F G : GF → GF} {d : Nat} (h : IsP F d) (e : ∀ x, G x = F x) : IsP G d := by
  obtain ⟨P, h1, h2, h3⟩ := h; exact ⟨P, h1, h2, fun x => by rw [e x]; exact h3 x⟩
theorem isP_list {P : List Nat} (hP : IsB P) : IsP (at' P hP) P.length := ⟨P, hP, Nat.le_refl _, fun _ => rfl⟩
theorem timR_short {A B : List Nat} (hA : IsB A) (hB : IsB B) : (timR A B).length ≤ A.length + B.length - 1 := by
  unfold timR; split
  · refine trimL_short _ (fun j hj => ?_)
    rw [nth_timL hA hB]
    unfold pc
    exact xsum_zero _ (fun i hi => by
      split
      · rw [nth_out B _ (by omega)]; exact Fld.zero_mul (hA.nth _)
      · rfl)
  · simp
theorem isP_mul {F G : GF → GF} {d e : Nat} (hF : IsP F d) (hG : IsP G e) (hd : d ≤ 512) (he : e ≤ 512) : IsP (fun x => F x * G x) (d + e - 1) := by
  obtain ⟨P, p1, p2, p3⟩ := hF
  obtain ⟨Q, q1, q2, q3⟩ := hG
  refine ⟨timR P Q, isB_timR p1 q1, Nat.le_trans (timR_short p1 q1) (by omega), fun x => ?_⟩
  rw [at_times p1 q1 x.v x.h (by omega) (by omega), ← p3, ← q3]; rfl
theorem isP_add {F G : GF → GF} {d : Nat} (hF : IsP F d) (hG : IsP G d) : IsP (fun x => F x + G x) d := by
  obtain ⟨P, p1, p2, p3⟩ := hF
  obtain ⟨Q, q1, q2, q3⟩ := hG
  refine ⟨trimL (sumL P Q), isB_trimL (isB_sumL p1 q1), Nat.le_trans (sumL_le P Q) (by omega), fun x => ?_⟩
  rw [Go.Proofs.YtmfgnpbocpdeiaaDoor.at_sum p1 q1 x.v x.h, ← p3, ← q3]; rfl
theorem isP_zero (d : Nat) : IsP (fun _ => 0) d := ⟨[], (fun x hx => by cases hx), by simp, fun x => rfl⟩
theorem at_single (a : Nat) (ha : a < 256) (x : Nat) (hx : x < 256) : atL [a] x = a := by
  have hB : IsB [a] := fun y hy => by simp at hy; omega
  rw [atL_eq hB x hx]
  show 0 ^^^ Fld.mul a (Fld.pw x 0) = a
  rw [Nat.zero_xor, show Fld.pw x 0 = 1 from rfl, Fld.mul_one ha]
theorem isP_const (a : GF) : IsP (fun _ => a) 1 := ⟨[a.v], (fun y hy => by simp at hy; rw [hy]; exact a.h), by simp, fun x => (at_single a.v a.h x.v x.h).symm⟩
theorem at_lin (a x : GF) : atL [1, a.v] x.v = (1 + a * x).v := by
  have hB := isB_pair 1 a.v (by decide) a.h
  rw [atL_eq hB x.v x.h]
  show (0 ^^^ Fld.mul 1 (Fld.pw x.v 0)) ^^^ Fld.mul a.v (Fld.pw x.v 1) = 1 ^^^ Fld.mul a.v x.v
  have e : Fld.pw x.v 1 = x.v := congrArg GF.v (pw_one x)
  rw [e, Nat.zero_xor, show Fld.pw x.v 0 = 1 from rfl, show Fld.mul 1 1 = 1 by decide +kernel]
theorem isP_lin (a : GF) : IsP (fun x => 1 + a * x) 2 := ⟨[1, a.v], isB_pair 1 a.v (by decide) a.h, by simp, fun x => (at_lin a x).symm⟩
theorem isP_sum {n d : Nat} {F : Nat → GF → GF} (h : ∀ i, i < n → IsP (F i) d) : IsP (fun x => sum n (fun i => F i x)) d := by
  induction n with
  | zero => exact isP_zero d
  | succ n ih => exact isP_add (ih (fun i hi => h i (by omega))) (h n (by omega))
/-- how many of the first n are so -/
def cn (B : Nat → Bool) : Nat → Nat
  | 0 => 0
  | n + 1 => if B n then cn B n + 1 else cn B n
theorem cn_le (B : Nat → Bool) (n : Nat) : cn B n ≤ n := by
  induction n with
  | zero => exact Nat.le_refl _
  | succ n ih => unfold cn; split <;> omega
theorem isP_prod (B : Nat → Bool) (X : Nat → GF) (n : Nat) (hn : n ≤ 500) : IsP (fun x => prod n (fun p => if B p then 1 + X p * x else 1)) (cn B n + 1) := by
  induction n with
  | zero => exact isP_const 1
  | succ n ih =>
    have hle := cn_le B n
    show IsP (fun x => prod n (fun p => if B p then 1 + X p * x else 1) * (if B n then 1 + X n * x else 1)) _
    by_cases e : B n = true
    · simp only [cn, e, if_true]
      exact (isP_mul (ih (by omega)) (isP_lin (X n)) (by omega) (by omega)).le (by omega)
    · have e' : B n = false := by simpa using e
      simp only [cn, e']
      exact isP_congr (ih (by omega)) (fun x => by show _ * 1 = _; rw [mul_one])
def xc (c : Nat) : List Nat := List.replicate c 0 ++ [1]
theorem isB_xc (c : Nat) : IsB (xc c) := isB_append (isB_zeros _) (fun x hx => by simp at hx; omega)
theorem nth_xc_low (c i : Nat) (h : i < c) : nth (xc c) i = 0 := by
  unfold xc; rw [nth_append_left _ _ _ (by simpa using h), nth_zeros]
theorem nth_xc_top (c : Nat) : nth (xc c) c = 1 := by
  unfold xc nth
  rw [List.getD_eq_getElem?_getD, List.getElem?_append_right (by simp)]
  simp
theorem at_xc (c : Nat) (x : GF) : atL (xc c) x.v = (pw x c).v := by
  rw [atL_ev (isB_xc c) x.v (c + 1) x.h (by simp [xc])]
  show xsum _ c ^^^ Fld.mul (nth (xc c) c) (Fld.pw x.v c) = _
  rw [xsum_zero c (fun i hi => by rw [nth_xc_low c i hi]; exact Fld.zero_mul (Fld.pw_lt _ _ x.h)), nth_xc_top, Nat.zero_xor, Fld.one_mul (Fld.pw_lt _ _ x.h)]
  rfl
theorem nth_range (n i : Nat) (h : i < n) : nth (List.range n) i = i := by
  unfold nth; rw [List.getD_eq_getElem?_getD, List.getElem?_range h]; rfl
/-- lists of up to 256 numbers with the same values everywhere are the same -/
theorem same_vals {P Q : List Nat} (hP : IsB P) (hQ : IsB Q) (h1 : P.length ≤ 256) (h2 : Q.length ≤ 256) (h : ∀ x, x < 256 → atL P x = atL Q x) (j : Nat) : nth P j = nth Q j := by
  have hX : IsB (List.range 256) := fun x hx => List.mem_range.1 hx
  have hz := roots_zero hX 256 (fun i j hji hi he => by rw [nth_range _ _ hi, nth_range _ _ (by omega)] at he; omega) (fun i => nth P i ^^^ nth Q i) (fun i => Fld.xor_lt (hP.nth i) (hQ.nth i))
    (fun i hi => by show nth P i ^^^ nth Q i = 0; rw [nth_out P i (by omega), nth_out Q i (by omega)]; rfl) (fun i hi => by
      rw [nth_range _ _ hi, ev_xor (f := nth P) (g := nth Q) _ _ hP.nth hQ.nth, ← atL_ev hP i 257 hi (by omega), ← atL_ev hQ i 257 hi (by omega), h i hi, Nat.xor_self]) j
  exact xor_eq hz
theorem isP_all {F : GF → GF} {d : Nat} (hF : IsP F d) (hd : d ≤ 256) (c m : Nat) {M : GF → GF} (hM : IsP M m) (hm : c + m ≤ 256) (hdc : d ≤ c) (h : ∀ x, F x = pw x c * M x) : ∀ x, F x = 0 := by
  obtain ⟨P, p1, p2, p3⟩ := hF
  obtain ⟨Q, q1, q2, q3⟩ := hM
  have hxl : (xc c).length = c + 1 := by simp [xc]
  have hR := isB_timR (isB_xc c) q1
  have hRl := timR_short (isB_xc c) q1
  have key := same_vals p1 hR (by omega) (by omega) (fun x hx => by
    rw [at_times (isB_xc c) q1 x hx (by omega) (by omega)]
    have e := congrArg GF.v (h ⟨x, hx⟩)
    rw [p3] at e
    rw [show atL P x = _ from e]
    show Fld.mul (pw ⟨x, hx⟩ c).v (M ⟨x, hx⟩).v = _
    rw [q3, ← at_xc c ⟨x, hx⟩])
  intro x
  apply GF.ext
  rw [p3 x, atL_ev p1 x.v 256 x.h (by omega)]
  refine xsum_zero _ (fun j hj => ?_)
  have e : nth P j = 0 := by
    by_cases hjc : j < c
    · rw [key j, nth_timR (isB_xc c) q1 (by omega) (by omega)]
      unfold pc
      exact xsum_zero _ (fun i hi => by
        split
        · rw [nth_xc_low c i (by omega)]; exact Fld.mul_zero _
        · rfl)
    · exact nth_out P j (by omega)
  rw [e]; exact Fld.zero_mul (Fld.pw_lt _ _ x.h)
/-- equal but at one point: equal there too -/
theorem isP_off {F : GF → GF} {d : Nat} (hF : IsP F d) (hd : d ≤ 255) (x0 : GF) (h : ∀ x, x ≠ x0 → F x = 0) : F x0 = 0 := by
  obtain ⟨P, p1, p2, p3⟩ := hF
  have hX : IsB ((List.range 256).erase x0.v) := fun x hx => List.mem_range.1 (List.mem_of_mem_erase hx)
  have hXl : ((List.range 256).erase x0.v).length = 255 := by rw [List.length_erase_of_mem (List.mem_range.2 x0.h)]; simp
  have hnd : ((List.range 256).erase x0.v).Nodup := List.Nodup.erase _ List.nodup_range
  have hget : ∀ i (hi : i < 255), nth ((List.range 256).erase x0.v) i = ((List.range 256).erase x0.v)[i]'(by omega) := fun i hi => by
    unfold nth; rw [List.getD_eq_getElem?_getD, List.getElem?_eq_getElem (by omega)]; rfl
  have hz := roots_zero hX 255 (fun i j hji hi he => by
      rw [hget i hi, hget j (by omega)] at he
      exact List.pairwise_iff_getElem.1 hnd j i (by omega) (by omega) hji he) (nth P) p1.nth (fun j hj => nth_out P j (by omega)) (fun i hi => by
      rw [hget i hi]
      have hm := List.getElem_mem (l := (List.range 256).erase x0.v) (n := i) (by omega)
      obtain ⟨y, hy⟩ : ∃ y, y = ((List.range 256).erase x0.v)[i]'(by omega) := ⟨_, rfl⟩
      rw [← hy] at hm ⊢
      have hyl : y < 256 := List.mem_range.1 (List.mem_of_mem_erase hm)
      have hne : (⟨y, hyl⟩ : GF) ≠ x0 := fun e => by
        have h2 := (List.Nodup.mem_erase_iff List.nodup_range).1 hm
        exact h2.1 (congrArg GF.v e)
      have e := congrArg GF.v (h ⟨y, hyl⟩ hne)
      rw [p3] at e
      rw [← atL_ev p1 y 256 hyl (by omega)]
      exact e)
  apply GF.ext
  rw [p3 x0, atL_eq p1 x0.v x0.h]
  exact xsum_zero _ (fun j _ => by rw [hz j]; exact Fld.zero_mul (Fld.pw_lt _ _ x0.h))
end Go.Proofs.YtmfgnpbocpdeiaaDoor
