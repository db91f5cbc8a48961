import Derived.Test.YtbgbohddkfaacaaCGth
namespace Go.Proofs.Ytbgbohddkfaacaa
set_option maxRecDepth 100000
set_option linter.unusedVariables false
set_option linter.unusedSimpArgs false

/-! the least cost: what is gathered is of least cost, and of those the first -/
/-- what the steps from k on cost, j of them -/
def restC (p : Nat → Int) (B : List Nat) (k : Nat) : Nat → Int
  | 0 => 0
  | j + 1 => payP p k (rgN B k) + restC p B (k + 1) j
theorem nou_of (p f : Nat → Int) (k s : Nat) : nou p f k s = payP p k (2 * s) + f (2 * s % 64) := rfl
theorem one_of (p f : Nat → Int) (k s : Nat) : oneC p f k s = payP p k (2 * s + 1) + f ((2 * s + 1) % 64) := rfl
/-- no bits cost less -/
theorem low_any (p : Nat → Int) (n : Nat) (B : List Nat) (hB : IsBit B) (hl : B.length = n) : ∀ j k, k + j = n + 6 → vN p n j (stN B k) ≤ restC p B k j := by
  intro j
  induction j with
  | zero => intro k _; exact Int.le_refl _
  | succ j ih =>
    intro k hk
    have h1 := ih (k + 1) (by omega)
    have hb := hB k
    have e1 : stN B (k + 1) = rgN B k % 64 := rfl
    have e2 : rgN B k = 2 * stN B k + nth B k := rfl
    have ek : n + 5 - j = k := by omega
    show _ ≤ payP p k (rgN B k) + restC p B (k + 1) j
    rw [e1] at h1
    by_cases hj : j < 6
    · rw [vN_lo p n j hj, nou_of, ek]
      have : nth B k = 0 := nth_out B k (by omega)
      rw [e2, this, Nat.add_zero] at h1 ⊢
      omega
    · rw [vN_hi p n j hj, ek]
      unfold best
      rcases (by omega : nth B k = 0 ∨ nth B k = 1) with h | h
      · rw [e2, h, Nat.add_zero] at h1 ⊢
        have := nou_of p (vN p n j) k (stN B k)
        split <;> omega
      · rw [e2, h] at h1 ⊢
        have := one_of p (vN p n j) k (stN B k)
        split <;> omega
/-- if a 0 is taken where it costs more, the bits cost more -/
theorem low_strict (p : Nat → Int) (n : Nat) (B : List Nat) (hB : IsBit B) (hl : B.length = n) (k : Nat) (hk : k < n) (h0 : nth B k = 0) :
    nou p (vN p n (n + 5 - k)) k (stN B k) ≤ restC p B k (n + 6 - k) := by
  obtain ⟨j, hj⟩ : ∃ j, n + 6 - k = j + 1 := ⟨n + 5 - k, by omega⟩
  have h1 := low_any p n B hB hl j (k + 1) (by omega)
  rw [hj, show n + 5 - k = j by omega]
  show _ ≤ payP p k (rgN B k) + restC p B (k + 1) j
  have e1 : stN B (k + 1) = rgN B k % 64 := rfl
  have e2 : rgN B k = 2 * stN B k + nth B k := rfl
  rw [e1] at h1
  rw [nou_of]
  rw [e2, h0, Nat.add_zero] at h1 ⊢
  omega
/-- the bits that are gathered -/
def gotN (p : Nat → Int) (n : Nat) : List Nat := folL (mskP p n) n
theorem gotN_len (p : Nat → Int) (n : Nat) : (gotN p n).length = n := by simp [gotN, folL]
theorem gotN_bit (p : Nat → Int) (n : Nat) : IsBit (gotN p n) := by
  intro i
  by_cases h : i < n
  · unfold gotN folL
    rw [nth_map_range _ _ _ h]; exact Nat.mod_lt _ (by decide)
  · rw [nth_out _ _ (by rw [gotN_len]; omega)]; decide
theorem msk_bit (p : Nat → Int) (n i s : Nat) (hs : s < 64) : mskP p n i / 2 ^ s % 2 = chs p (vN p n (n + 5 - i)) i s := maskN_bit _ (chs_lt p _ i) 64 s hs
theorem gotN_st (p : Nat → Int) (n : Nat) : ∀ k, k ≤ n → stN (gotN p n) k = pthM (mskP p n) k ∧ ∀ i, i < k → nth (gotN p n) i = chs p (vN p n (n + 5 - i)) i (stN (gotN p n) i) := by
  intro k
  induction k with
  | zero => intro _; exact ⟨rfl, fun i hi => by omega⟩
  | succ k ih =>
    intro hk
    obtain ⟨h1, h2⟩ := ih (by omega)
    have hs := pthM_lt (mskP p n) k
    have e : nth (gotN p n) k = mskP p n k / 2 ^ pthM (mskP p n) k % 2 := by
      show nth (folL (mskP p n) n) k = _
      unfold folL
      rw [nth_map_range _ _ _ (by omega)]
    refine ⟨?_, fun i hi => ?_⟩
    · show (2 * stN (gotN p n) k + nth (gotN p n) k) % 64 = (2 * pthM (mskP p n) k + mskP p n k / 2 ^ pthM (mskP p n) k % 2) % 64
      rw [h1, e]
    · by_cases e2 : i = k
      · subst e2
        rw [e, h1, msk_bit p n i _ hs]
      · exact h2 i (by omega)
theorem gotN_at (p : Nat → Int) (n i : Nat) (hi : i < n) : nth (gotN p n) i = chs p (vN p n (n + 5 - i)) i (stN (gotN p n) i) := (gotN_st p n n (Nat.le_refl _)).2 i hi
/-- they cost just what is told -/
theorem got_cost (p : Nat → Int) (n : Nat) : ∀ j k, k + j = n + 6 → restC p (gotN p n) k j = vN p n j (stN (gotN p n) k) := by
  intro j
  induction j with
  | zero => intro k _; rfl
  | succ j ih =>
    intro k hk
    have h1 := ih (k + 1) (by omega)
    have e1 : stN (gotN p n) (k + 1) = rgN (gotN p n) k % 64 := rfl
    have e2 : rgN (gotN p n) k = 2 * stN (gotN p n) k + nth (gotN p n) k := rfl
    have ek : n + 5 - j = k := by omega
    show payP p k (rgN (gotN p n) k) + restC p (gotN p n) (k + 1) j = _
    rw [h1, e1]
    by_cases hj : j < 6
    · have : nth (gotN p n) k = 0 := nth_out _ _ (by rw [gotN_len]; omega)
      rw [vN_lo p n j hj, nou_of, ek, e2, this, Nat.add_zero]
    · rw [vN_hi p n j hj, ek]
      have hc := gotN_at p n k (by omega)
      rw [show n + 5 - k = j by omega] at hc
      unfold best
      unfold chs at hc
      by_cases h : oneC p (vN p n j) k (stN (gotN p n) k) < nou p (vN p n j) k (stN (gotN p n) k)
      · rw [if_pos h] at hc ⊢
        rw [one_of, e2, hc]
      · rw [if_neg h] at hc ⊢
        rw [nou_of, e2, hc, Nat.add_zero]
theorem restC_pre (p : Nat → Int) (B B' : List Nat) (i : Nat) (h : ∀ j, j < i → nth B j = nth B' j) : (∀ k, k ≤ i → stN B k = stN B' k) := by
  intro k
  induction k with
  | zero => intro _; rfl
  | succ k ih =>
    intro hk
    show (2 * stN B k + nth B k) % 64 = (2 * stN B' k + nth B' k) % 64
    rw [ih (by omega), h k (by omega)]
theorem restC_split (p : Nat → Int) (B : List Nat) (i : Nat) : ∀ k j, restC p B k (i + j) = restC p B k i + restC p B (k + i) j := by
  induction i with
  | zero => intro k j; simp [restC]
  | succ i ih =>
    intro k j
    rw [show i + 1 + j = (i + j) + 1 by omega]
    show payP p k (rgN B k) + restC p B (k + 1) (i + j) = payP p k (rgN B k) + restC p B (k + 1) i + _
    rw [ih (k + 1) j, show k + 1 + i = k + (i + 1) by omega]
    omega
theorem restC_same (p : Nat → Int) (B B' : List Nat) (i : Nat) (h : ∀ j, j < i → nth B j = nth B' j) : ∀ j k, k + j ≤ i → restC p B k j = restC p B' k j := by
  intro j
  induction j with
  | zero => intro k _; rfl
  | succ j ih =>
    intro k hk
    show payP p k (rgN B k) + _ = payP p k (rgN B' k) + _
    have e : rgN B k = rgN B' k := by
      unfold rgN
      rw [restC_pre p B B' i h k (by omega), h k (by omega)]
    rw [e, ih (k + 1) (by omega)]
/-- bits that come first and are others cost more -/
theorem first_more (p : Nat → Int) (n : Nat) (B : List Nat) (hB : IsBit B) (hl : B.length = n) (i : Nat) (hi : i < n) (hs : ∀ j, j < i → nth B j = nth (gotN p n) j) (h0 : nth B i = 0) (h1 : nth (gotN p n) i = 1) :
    vN p n (n + 6) 0 < restC p B 0 (n + 6) := by
  have e0 := got_cost p n (n + 6) 0 (by omega)
  have e1 := got_cost p n (n + 6 - i) i (by omega)
  have s1 := restC_split p B i 0 (n + 6 - i)
  have s2 := restC_split p (gotN p n) i 0 (n + 6 - i)
  rw [show i + (n + 6 - i) = n + 6 by omega, Nat.zero_add] at s1 s2
  have hsame := restC_same p B (gotN p n) i hs i 0 (by omega)
  have hst := restC_pre p B (gotN p n) i hs i (Nat.le_refl _)
  have hlo := low_strict p n B hB hl i hi h0
  have hc := gotN_at p n i hi
  rw [h1] at hc
  have hlt : oneC p (vN p n (n + 5 - i)) i (stN (gotN p n) i) < nou p (vN p n (n + 5 - i)) i (stN (gotN p n) i) := by
    unfold chs at hc
    by_cases h : oneC p (vN p n (n + 5 - i)) i (stN (gotN p n) i) < nou p (vN p n (n + 5 - i)) i (stN (gotN p n) i)
    · exact h
    · rw [if_neg h] at hc; cases hc
  have e2 : vN p n (n + 6 - i) (stN (gotN p n) i) = oneC p (vN p n (n + 5 - i)) i (stN (gotN p n) i) := by
    rw [show n + 6 - i = (n + 5 - i) + 1 by omega, vN_hi p n (n + 5 - i) (by omega), show n + 5 - (n + 5 - i) = i by omega]
    unfold best
    rw [if_pos hlt]
  have hz : stN (gotN p n) 0 = 0 := rfl
  rw [hz] at e0
  rw [hst] at hlo
  omega
end Go.Proofs.Ytbgbohddkfaacaa
