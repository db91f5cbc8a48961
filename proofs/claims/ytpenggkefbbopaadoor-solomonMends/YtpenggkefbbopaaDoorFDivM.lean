import Derived.Test.YtpenggkefbbopaaDoorFPoly
namespace Go.Proofs.YtpenggkefbbopaaDoor
set_option linter.unusedVariables false

/-! products, coefficient by coefficient -/
def pc (f g : Nat → Nat) (N j : Nat) : Nat := xsum (fun i => if i ≤ j then Fld.mul (g (j - i)) (f i) else 0) N
theorem pc_xor {f f' g : Nat → Nat} (N j : Nat) : pc (fun i => f i ^^^ f' i) g N j = pc f g N j ^^^ pc f' g N j := by
  unfold pc
  rw [← xsum_xor]
  refine xsum_congr N (fun i _ => ?_)
  by_cases h : i ≤ j
  · rw [if_pos h, if_pos h, if_pos h, Fld.mul_xor_right]
  · rw [if_neg h, if_neg h, if_neg h]; rfl
theorem pc_past {f g : Nat → Nat} (N z j : Nat) (h : ∀ i, N ≤ i → f i = 0) : pc f g (N + z) j = pc f g N j := by
  unfold pc
  refine xsum_past _ N z (fun i h1 _ => ?_)
  show (if i ≤ j then Fld.mul (g (j - i)) (f i) else 0) = 0
  rw [h i h1, Fld.mul_zero]; split <;> rfl
theorem pc_congr {f f' g g' : Nat → Nat} (N j : Nat) (h : ∀ i, f i = f' i) (k : ∀ i, g i = g' i) : pc f g N j = pc f' g' N j := by
  unfold pc
  exact xsum_congr N (fun i _ => by rw [h i, k (j - i)])
theorem nth_timN {P Q : List Nat} (hP : IsB P) (hQ : IsB Q) (k j : Nat) (hk : k ≤ P.length) : nth (timN P Q k) j = pc (nth P) (nth Q) k j := by
  induction k with
  | zero => show nth (List.replicate _ 0) j = 0; exact nth_zeros _ _
  | succ k ih =>
    simp only [timN]
    rw [nth_addN _ _ _ _ _ _ (by rw [timN_length]; omega), ih (by omega)]
    show _ = pc (nth P) (nth Q) k j ^^^ (if k ≤ j then Fld.mul (nth Q (j - k)) (nth P k) else 0)
    by_cases h : k ≤ j ∧ j < k + Q.length
    · rw [if_pos h, if_pos h.1]
    · rw [if_neg h]
      by_cases h2 : k ≤ j
      · rw [if_pos h2, nth_out Q (j - k) (by omega), Fld.zero_mul (hP.nth k), Nat.xor_zero]
      · rw [if_neg h2, Nat.xor_zero]
theorem nth_timL {P Q : List Nat} (hP : IsB P) (hQ : IsB Q) (j : Nat) : nth (timL P Q) j = pc (nth P) (nth Q) P.length j := nth_timN hP hQ _ j (Nat.le_refl _)

/-! dividing -/
theorem ovS_low (P B : List Nat) (st k i : Nat) (h : i < st - k) : nth (ovS P B st k) i = 0 := by
  induction k with
  | zero => exact nth_zeros _ _
  | succ k ih =>
    simp only [ovS]
    rw [nth_set _ _ _ _ (by rw [ovS_length]; omega), if_neg (by omega)]
    exact ih (by omega)
theorem ov_inv {P B : List Nat} (hP : IsB P) (hB : IsB B) (st k : Nat) (hk : k ≤ st) (hst : st = P.length + 1 - B.length) (hB0 : 0 < B.length) (j : Nat) :
    nth P j = nth (ovR P B st k) j ^^^ pc (nth (ovS P B st k)) (nth B) st j := by
  induction k with
  | zero =>
    have : pc (nth (ovS P B st 0)) (nth B) st j = 0 := by
      unfold pc
      refine xsum_zero st (fun i _ => ?_)
      rw [show nth (ovS P B st 0) i = 0 from nth_zeros _ _, Fld.mul_zero]; split <;> rfl
    rw [this, Nat.xor_zero]; rfl
  | succ k ih =>
    rw [ih (by omega)]
    obtain ⟨t, ht⟩ : ∃ t, t = st - 1 - k := ⟨_, rfl⟩
    obtain ⟨c, hc⟩ : ∃ c, c = ovC (ovR P B st k) B (st - 1 - k) := ⟨_, rfl⟩
    have hcl : c < 256 := by rw [hc]; exact ovC_lt (ovR_isB hP hB st k) _
    have eR : nth (ovR P B st (k + 1)) j = if t ≤ j ∧ j < t + B.length then nth (ovR P B st k) j ^^^ Fld.mul (nth B (j - t)) c else nth (ovR P B st k) j := by
      simp only [ovR]
      rw [nth_addN _ _ _ _ _ _ (by rw [ovR_length]; omega), ← hc, ← ht]
    have eS : ∀ i, nth (ovS P B st (k + 1)) i = if t = i then c else nth (ovS P B st k) i := by
      intro i
      simp only [ovS]
      rw [nth_set _ _ _ _ (by rw [ovS_length]; omega), ← hc, ← ht]
    have eP : pc (nth (ovS P B st (k + 1))) (nth B) st j = pc (nth (ovS P B st k)) (nth B) st j ^^^ (if t ≤ j then Fld.mul (nth B (j - t)) c else 0) := by
      unfold pc
      rw [xsum_one (g := fun i => if i ≤ j then Fld.mul (nth B (j - i)) (nth (ovS P B st k) i) else 0) st t (by omega) (fun i hi => by
        show (if i ≤ j then Fld.mul (nth B (j - i)) (nth (ovS P B st (k + 1)) i) else 0) = _
        rw [eS i, if_neg (show ¬ t = i from fun h => hi h.symm)])]
      congr 1
      show (if t ≤ j then Fld.mul (nth B (j - t)) (nth (ovS P B st (k + 1)) t) else 0) ^^^ (if t ≤ j then Fld.mul (nth B (j - t)) (nth (ovS P B st k) t) else 0) = _
      rw [eS t, if_pos rfl, ovS_low P B st k t (by omega), Fld.mul_zero]
      split <;> simp
    rw [eR, eP]
    by_cases h : t ≤ j ∧ j < t + B.length
    · rw [if_pos h, if_pos h.1, Fld.xor4, Nat.xor_self, Nat.xor_zero]
    · rw [if_neg h]
      by_cases h2 : t ≤ j
      · rw [if_pos h2, nth_out B (j - t) (by omega), Fld.zero_mul hcl, Nat.xor_zero]
      · rw [if_neg h2, Nat.xor_zero]
theorem ov_top {P B : List Nat} (hP : IsB P) (hB : IsB B) (st k : Nat) (hk : k ≤ st) (hst : st = P.length + 1 - B.length) (hB0 : 0 < B.length) (htop : nth B (B.length - 1) ≠ 0) (j : Nat) (hj : st - k + B.length - 1 ≤ j) : nth (ovR P B st k) j = 0 := by
  induction k generalizing j with
  | zero => exact nth_out P j (by omega)
  | succ k ih =>
    simp only [ovR]
    rw [nth_addN _ _ _ _ _ _ (by rw [ovR_length]; omega)]
    by_cases h : st - 1 - k ≤ j ∧ j < st - 1 - k + B.length
    · rw [if_pos h]
      obtain rfl : j = st - 1 - k + B.length - 1 := by omega
      have hr := (ovR_isB hP hB st k).nth (st - 1 - k + B.length - 1)
      have hb := hB.nth (B.length - 1)
      rw [show st - 1 - k + B.length - 1 - (st - 1 - k) = B.length - 1 by omega]
      unfold ovC
      rw [Fld.mul_comm hb (Fld.mul_lt _ hr), Fld.mul_assoc hr (Fld.inv_lt hb) hb, Fld.inv_mul hb htop, Fld.mul_one hr, Nat.xor_self]
    · rw [if_neg h]
      exact ih (by omega) j (by omega)
theorem trimL_short {A : List Nat} (m : Nat) (h : ∀ j, m ≤ j → nth A j = 0) : (trimL A).length ≤ m := by
  rw [show (trimL A).length = trimN A A.length from by unfold trimL; rw [List.length_take]; have := trimN_le A A.length; omega]
  rcases Nat.lt_or_ge m (trimN A A.length) with hlt | hge
  · exfalso
    obtain ⟨j, hj⟩ : ∃ j, trimN A A.length = j + 1 := ⟨trimN A A.length - 1, by omega⟩
    have : ∀ k, trimN A k = j + 1 → nth A j ≠ 0 := by
      intro k
      induction k with
      | zero => intro h; simp [trimN] at h
      | succ k ih =>
        intro hk
        by_cases hz : nth A k = 0
        · rw [trimN_zero A k hz] at hk; exact ih hk
        · rw [trimN_nz A k hz] at hk
          have : k = j := by omega
          subst this; exact hz
    exact this _ hj (h j (by omega))
  · exact hge

/-- what times g has no number from l - 1 on is nought -/
theorem pc_uniq {f g : Nat → Nat} (hf : ∀ i, f i < 256) (hg : ∀ i, g i < 256) (N l : Nat) (hl : 0 < l) (hgl : g (l - 1) ≠ 0) (hg0 : ∀ i, l ≤ i → g i = 0) (hfN : ∀ i, N ≤ i → f i = 0)
    (h : ∀ j, l - 1 ≤ j → pc f g N j = 0) : ∀ i, f i = 0 := by
  have step : ∀ m, m ≤ N → ∀ i, N - m ≤ i → f i = 0 := by
    intro m
    induction m with
    | zero => intro _ i hi; exact hfN i (by omega)
    | succ m ih =>
      intro hm i hi
      by_cases e : N - m ≤ i
      · exact ih (by omega) i e
      · obtain rfl : i = N - (m + 1) := by omega
        have h1 := h (N - (m + 1) + (l - 1)) (by omega)
        have h2 : pc f g N (N - (m + 1) + (l - 1)) = Fld.mul (g (l - 1)) (f (N - (m + 1))) := by
          unfold pc
          rw [xsum_one (g := fun _ => 0) N (N - (m + 1)) (by omega) (fun i hi => by
            show (if i ≤ N - (m + 1) + (l - 1) then Fld.mul (g (N - (m + 1) + (l - 1) - i)) (f i) else 0) = 0
            by_cases c1 : i ≤ N - (m + 1) + (l - 1)
            · rw [if_pos c1]
              by_cases c2 : i < N - (m + 1)
              · rw [hg0 _ (by omega), Fld.zero_mul (hf i)]
              · rw [ih (by omega) i (by omega), Fld.mul_zero]
            · rw [if_neg c1]), xsum_zero N (fun _ _ => rfl)]
          rw [if_pos (by omega), show N - (m + 1) + (l - 1) - (N - (m + 1)) = l - 1 by omega]; simp
        rw [h2] at h1
        rcases Fld.mul_eq_zero (hg _) (hf _) h1 with h3 | h3
        · exact absurd h3 hgl
        · exact h3
  intro i
  exact step N (Nat.le_refl _) i (by omega)
end Go.Proofs.YtpenggkefbbopaaDoor
