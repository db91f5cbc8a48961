import Derived.Test.YtpenggkefbbopaaDoorFPtsM
import Derived.Test.YtpenggkefbbopaaDoorFDivN
namespace Go.Proofs.YtpenggkefbbopaaDoor
open Go.RowKit
set_option maxRecDepth 100000
set_option linter.unusedVariables false
set_option linter.unusedSimpArgs false

/-! polynomials whose last number is not nought -/
def Top (P : List Nat) : Prop := 0 < P.length ∧ nth P (P.length - 1) ≠ 0
theorem trimL_exact {A : List Nat} {m : Nat} (h : nth A m ≠ 0) (h0 : ∀ j, m < j → nth A j = 0) : (trimL A).length = m + 1 ∧ Top (trimL A) := by
  have h1 := trimL_short (A := A) (m + 1) (fun j hj => h0 j (by omega))
  have h2 : ¬ (trimL A).length ≤ m := fun hle => h (by rw [← nth_trimL, nth_out _ _ hle])
  have e : (trimL A).length = m + 1 := by omega
  exact ⟨e, by rw [e]; omega, by rw [e, Nat.add_sub_cancel, nth_trimL]; exact h⟩
theorem trim_top (A : List Nat) : trimL A = [] ∨ Top (trimL A) := by
  by_cases h : trimN A A.length = 0
  · exact .inl (List.eq_nil_of_length_eq_zero (by rw [trimL_len]; exact h))
  · exact .inr ⟨by rw [trimL_len]; omega, top_ne A h⟩
theorem top_trim {A : List Nat} (h : Top A) : trimL A = A := by
  have h0 := h.1
  have e := (trimL_exact h.2 (fun j hj => nth_out A j (by omega))).1
  refine list_ext (by omega) fun i hi => nth_trimL A i
theorem top_ne_nil {A : List Nat} (h : Top A) : A ≠ [] := fun e => by have := h.1; rw [e] at this; simp at this
theorem top_times {A B : List Nat} (hA : IsB A) (hB : IsB B) (tA : Top A) (tB : Top B) (h1 : A.length ≤ 512) (h2 : B.length ≤ 512) : (timR A B).length = A.length + B.length - 1 ∧ Top (timR A B) := by
  obtain ⟨a0, a1⟩ := tA
  obtain ⟨b0, b1⟩ := tB
  unfold timR
  rw [if_pos ⟨h1, h2⟩]
  have h := trimL_exact (A := timL A B) (m := A.length + B.length - 2) ?_ ?_
  · exact ⟨by rw [h.1]; omega, h.2⟩
  · rw [nth_timL hA hB]
    obtain ⟨a, ha⟩ : ∃ a, A.length = a + 1 := ⟨A.length - 1, by omega⟩
    unfold pc
    rw [ha]
    show xsum _ a ^^^ (if a ≤ a + 1 + B.length - 2 then Fld.mul (nth B (a + 1 + B.length - 2 - a)) (nth A a) else 0) ≠ 0
    rw [xsum_zero a (fun i hi => by rw [if_pos (by omega), nth_out B _ (by omega)]; exact Fld.zero_mul (hA.nth _)), Nat.zero_xor, if_pos (by omega), show a + 1 + B.length - 2 - a = B.length - 1 by omega]
    intro h
    rcases Fld.mul_eq_zero (hB.nth _) (hA.nth _) h with h | h
    · exact b1 h
    · rw [ha, Nat.add_sub_cancel] at a1; exact a1 h
  · intro j hj
    rw [nth_timL hA hB]
    unfold pc
    exact xsum_zero _ (fun i hi => by rw [if_pos (by omega), nth_out B _ (by omega)]; exact Fld.zero_mul (hA.nth _))
theorem top_sum {A B : List Nat} (tB : Top B) (h : A.length < B.length) : (trimL (sumL A B)).length = B.length ∧ Top (trimL (sumL A B)) := by
  obtain ⟨b0, b1⟩ := tB
  have h := trimL_exact (A := sumL A B) (m := B.length - 1) (by rw [nth_sumL, nth_out A _ (by omega), Nat.zero_xor]; exact b1) (fun j hj => by rw [nth_sumL, nth_out A _ (by omega), nth_out B _ (by omega)]; rfl)
  exact ⟨by rw [h.1]; omega, h.2⟩
theorem top_sum' {A B : List Nat} (tA : Top A) (h : B.length < A.length) : (trimL (sumL A B)).length = A.length ∧ Top (trimL (sumL A B)) := by
  obtain ⟨b0, b1⟩ := tA
  have h := trimL_exact (A := sumL A B) (m := A.length - 1) (by rw [nth_sumL, nth_out B _ (by omega), Nat.xor_zero]; exact b1) (fun j hj => by rw [nth_sumL, nth_out A _ (by omega), nth_out B _ (by omega)]; rfl)
  exact ⟨by rw [h.1]; omega, h.2⟩
theorem isB_ovT {P Q : List Nat} (hP : IsB P) (hQ : IsB Q) : IsB (ovT P Q) := by
  unfold ovT; split
  · exact isB_trimL (ovR_isB hP (isB_trimL hQ) _ _)
  · intro x hx; cases hx
theorem top_z {Q : List Nat} (tQ : Top Q) : trimN Q Q.length ≠ 0 := by
  have e := trimL_len Q
  rw [top_trim tQ] at e
  have := tQ.1
  omega
theorem over_top {P Q : List Nat} (hP : IsB P) (hQ : IsB Q) (tP : Top P) (tQ : Top Q) (hle : Q.length ≤ P.length) (h1 : P.length ≤ 512) :
    Top (ovQ P Q) ∧ (ovQ P Q).length = P.length + 1 - Q.length ∧ (ovT P Q).length < Q.length ∧ (ovT P Q = [] ∨ Top (ovT P Q)) := by
  have hz := top_z tQ
  have HR := div_rest hP hQ h1 (by omega) hz
  rw [top_trim tQ] at HR
  have HS := div_sum hP hQ h1 (by omega) hz
  rw [trim_self, top_trim tP] at HS
  have hq := ovQ_small (P := P) hz
  have hT : ovT P Q = [] ∨ Top (ovT P Q) := by rw [ovT_eq h1 (by omega) hz]; exact trim_top _
  have p0 := tP.1
  have hQQ : ovQ P Q = [] ∨ Top (ovQ P Q) := by rw [ovQ_eq h1 (by omega) hz]; exact trim_top _
  rcases hQQ with e | t
  · exfalso
    have h2 := congrArg (fun L => nth L (P.length - 1)) HS
    simp only [nth_trimL, nth_sumL] at h2
    rw [nth_out (ovT P Q) _ (by omega), Nat.xor_zero, e, nth_timR (fun x hx => by cases hx) hQ (by simp) (by omega)] at h2
    exact tP.2 h2.symm
  · obtain ⟨h3, h4⟩ := top_times (isB_ovQ hP hQ) hQ t tQ (by omega) (by omega)
    have t0 := t.1
    have h5 := (top_sum' h4 (B := ovT P Q) (by omega)).1
    rw [HS] at h5
    exact ⟨t, by omega, HR, hT⟩

/-! Euclid's way -/
def euc (c h : Nat) : Nat → List Nat → List Nat → List Nat → List Nat → List Nat × List Nat
  | 0, _, r, _, f => (f, r)
  | k + 1, l, r, b, f => if c + h + 2 ≤ 2 * r.length then euc c h k r (ovT l r) f (trimL (sumL b (timR (ovQ l r) f))) else (f, r)
structure EInv (c h : Nat) (l r b f : List Nat) : Prop where
  bl : IsB l
  br : IsB r
  bb : IsB b
  bf : IsB f
  tl : Top l
  tr : r = [] ∨ Top r
  lt : r.length < l.length
  tf : Top f
  sum : l.length + f.length = c + 2
  lb : b.length < f.length
  big : c + h + 2 ≤ 2 * l.length
theorem EInv.top {c h : Nat} {l r b f : List Nat} (e : EInv c h l r b f) (hr : c + h + 2 ≤ 2 * r.length) : Top r := by
  rcases e.tr with h1 | h1
  · rw [h1] at hr; simp at hr
  · exact h1
theorem EInv.step {c h : Nat} {l r b f : List Nat} (e : EInv c h l r b f) (hc : c ≤ 64) (hr : c + h + 2 ≤ 2 * r.length) : EInv c h r (ovT l r) f (trimL (sumL b (timR (ovQ l r) f))) ∧ (ovT l r).length < r.length := by
  have tr := e.top hr
  have f0 := e.tf.1
  have h0 := e.sum
  have h9 := e.lt
  have r0 := tr.1
  have h10 := e.lb
  obtain ⟨q1, q2, q3, q4⟩ := over_top e.bl e.br e.tl tr (by omega) (by omega)
  obtain ⟨t1, t2⟩ := top_times (isB_ovQ e.bl e.br) e.bf q1 e.tf (by omega) (by omega)
  obtain ⟨s1, s2⟩ := top_sum (A := b) t2 (by omega)
  refine ⟨⟨e.br, isB_ovT e.bl e.br, e.bf, isB_trimL (isB_sumL e.bb (isB_timR (isB_ovQ e.bl e.br) e.bf)), tr, q4, q3, s2, by omega, by omega, hr⟩, q3⟩
theorem euc_inv {c h : Nat} (hc : c ≤ 64) : ∀ (k : Nat) (l r b f : List Nat), EInv c h l r b f → r.length ≤ k → ∃ l' b', EInv c h l' (euc c h k l r b f).2 b' (euc c h k l r b f).1 ∧ 2 * (euc c h k l r b f).2.length < c + h + 2 := by
  intro k
  induction k with
  | zero => intro l r b f e hk; exact ⟨l, b, e, by show 2 * r.length < _; omega⟩
  | succ k ih =>
    intro l r b f e hk
    by_cases hr : c + h + 2 ≤ 2 * r.length
    · obtain ⟨e2, h2⟩ := e.step hc hr
      have := ih _ _ _ _ e2 (by omega)
      simp only [euc, if_pos hr]
      exact this
    · simp only [euc, if_neg hr]
      exact ⟨l, b, e, by omega⟩
theorem euc_start {c h : Nat} {K : List Nat} (hK : IsB K) (tK : K = [] ∨ Top K) (hl : K.length ≤ c) (hh : h ≤ c) : EInv c h (List.replicate c 0 ++ [1]) K [] [1] := by
  have hB : IsB (List.replicate c 0 ++ [1]) := isB_append (isB_zeros _) (fun x hx => by simp at hx; omega)
  refine ⟨hB, hK, (fun x hx => by cases hx), (fun x hx => by simp at hx; omega), ⟨by simp, ?_⟩, tK, by simp; omega, ⟨by simp, by simp [nth]⟩, by simp, by simp, by simp; omega⟩
  unfold nth
  rw [List.getD_eq_getElem?_getD, List.getElem?_append_right (by simp)]
  simp

/-! no more zeros than its degree -/
theorem roots_zero {X : List Nat} (hX : IsB X) (m : Nat) (hd : ∀ i j, j < i → i < m → nth X j ≠ nth X i) (f : Nat → Nat) (hf : ∀ j, f j < 256) (h0 : ∀ j, m ≤ j → f j = 0) (hv : ∀ i, i < m → ev f (m + 1) (nth X i) = 0) : ∀ j, f j = 0 := by
  intro j
  have hY := isB_zeros m
  have h1 := ct_uniq hX hY m hd m (Nat.le_refl _) f hf h0 (fun i hi => by rw [hv i hi, nth_zeros]) j
  have h2 := ct_uniq hX hY m hd m (Nat.le_refl _) (fun _ => 0) (fun _ => by decide) (fun _ _ => rfl) (fun i hi => by
    rw [nth_zeros]
    exact xsum_zero _ (fun k _ => Fld.zero_mul (Fld.pw_lt _ _ (hX.nth i)))) j
  rw [h1, ← h2]
theorem pow2_inj {a b : Int} (h : pow2 a = pow2 b) : a % 255 = b % 255 := by
  unfold pow2 at h
  have ha : (a % 255).toNat < 255 := by omega
  have hb : (b % 255).toNat < 255 := by omega
  rcases Nat.lt_trichotomy (a % 255).toNat (b % 255).toNat with h1 | h1 | h1
  · exact absurd h (Fld.pow_inj h1 hb)
  · omega
  · exact absurd h.symm (Fld.pow_inj h1 ha)
theorem pow2_ne (a : Int) : pow2 a ≠ 0 := Fld.pow_ne_zero _
/-- places of a word of n bytes at which A is nought: no more than A's degree -/
theorem few_roots {A : List Nat} (hA : IsB A) (tA : Top A) (n : Nat) (hn : n ≤ 255) (ps : List Nat) (hps : ps.Pairwise (· < ·)) (hlt : ∀ p ∈ ps, p < n) (hr : ∀ p ∈ ps, atL A (pow2 ((p : Int) + 1 - n)) = 0) : ps.length < A.length := by
  apply Nat.lt_of_not_le
  intro hle
  have hnp : ∀ i (hi : i < ps.length), nth (ps.map fun (p : Nat) => pow2 ((p : Int) + 1 - n)) i = pow2 ((ps[i] : Int) + 1 - n) := by
    intro i hi
    unfold nth
    rw [List.getD_eq_getElem?_getD, List.getElem?_map, List.getElem?_eq_getElem hi]; rfl
  have hX : IsB (ps.map fun (p : Nat) => pow2 ((p : Int) + 1 - n)) := by
    intro x hx
    obtain ⟨p, _, rfl⟩ := List.mem_map.1 hx
    exact pow2_lt _
  have h := roots_zero hX A.length (fun i j hji hi he => by
      rw [hnp i (by omega), hnp j (by omega)] at he
      have h1 := pow2_inj he
      have h2 := List.pairwise_iff_getElem.1 hps j i (by omega) (by omega) hji
      have h3 := hlt _ (List.getElem_mem (h := (by omega : i < ps.length)))
      omega) (nth A) hA.nth (fun j hj => nth_out A j hj) (fun i hi => by
      rw [hnp i (by omega), ← atL_ev hA _ (A.length + 1) (pow2_lt _) (by omega)]
      exact hr _ (List.getElem_mem _)) (A.length - 1)
  exact tA.2 h
end Go.Proofs.YtpenggkefbbopaaDoor
