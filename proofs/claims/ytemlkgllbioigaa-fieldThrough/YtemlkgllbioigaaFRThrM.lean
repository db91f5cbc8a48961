import Derived.Test.YtemlkgllbioigaaFRThr
namespace Go.Proofs.Ytemlkgllbioigaa
set_option linter.unusedVariables false
def moreV (K : Nat) (B : List Nat) (j i : Nat) : Nat := if i < j then Fld.mul K (nth B i) else 0
def nextV (x : Nat) (B : List Nat) (j i : Nat) : Nat := (if i < j then Fld.mul (nth B i) x else 0) ^^^ (if i = 0 then 0 else if i - 1 < j then nth B (i - 1) else 0)
theorem more_step {M B : List Nat} {K j : Nat} (hj : j < M.length) (h : ∀ i, nth M i = moreV K B j i) (i : Nat) : nth (M.set j (Fld.mul K (nth B j))) i = moreV K B (j + 1) i := by
  rw [nth_set _ _ _ _ hj]
  unfold moreV at *
  by_cases e : j = i
  · subst e; rw [if_pos rfl, if_pos (by omega)]
  · rw [if_neg e, h i]
    by_cases e2 : i < j
    · rw [if_pos e2, if_pos (by omega)]
    · rw [if_neg e2, if_neg (by omega)]
theorem next_step {N B : List Nat} {x j : Nat} (hj : j + 1 < N.length) (h : ∀ i, nth N i = nextV x B j i) (i : Nat) :
    nth ((N.set j (nth N j ^^^ Fld.mul (nth B j) x)).set (j + 1) (nth N (j + 1) ^^^ nth B j)) i = nextV x B (j + 1) i := by
  rw [nth_set _ _ _ _ (by rw [List.length_set]; exact hj), nth_set _ _ _ _ (by omega), h j, h (j + 1), h i]
  unfold nextV
  by_cases e : j + 1 = i
  · subst e
    have h1 : ¬ (j + 1 < j) := by omega
    rw [if_pos rfl]
    simp [h1]
  · rw [if_neg e]
    by_cases e1 : j = i
    · subst e1
      rw [if_pos rfl, if_neg (by omega), if_pos (show j < j + 1 by omega), Nat.zero_xor]
      rw [Nat.xor_comm]
      congr 1
      by_cases e0 : j = 0
      · rw [if_pos e0, if_pos e0]
      · rw [if_neg e0, if_neg e0, if_pos (show j - 1 < j by omega), if_pos (show j - 1 < j + 1 by omega)]
    · rw [if_neg e1]
      by_cases e2 : i < j
      · rw [if_pos e2, if_pos (show i < j + 1 by omega)]
        congr 1
        by_cases e0 : i = 0
        · rw [if_pos e0, if_pos e0]
        · rw [if_neg e0, if_neg e0, if_pos (show i - 1 < j by omega), if_pos (show i - 1 < j + 1 by omega)]
      · rw [if_neg e2, if_neg (show ¬ i < j + 1 by omega)]
        congr 1
        rw [if_neg (show ¬ i = 0 by omega), if_neg (show ¬ i = 0 by omega), if_neg (show ¬ i - 1 < j by omega), if_neg (show ¬ i - 1 < j + 1 by omega)]
theorem more_end {X Y P M B : List Nat} {n k K : Nat} (hX : IsB X) (hK : K < 256) (hk : K = kOf (nth Y k) (ev (ctF X Y n k) (n + 1) (nth X k)) (ev (cbF X k) (n + 1) (nth X k)))
    (hP : ∀ j, nth P j = ctF X Y n k j) (hB : ∀ j, nth B j = cbF X k j) (hM : ∀ i, nth M i = moreV K B (k + 1) i) (j : Nat) : nth (trimL (sumL P M)) j = ctF X Y n (k + 1) j := by
  rw [nth_trimL]
  have e : nth (sumL P M) j = nth P j ^^^ nth M j := by
    by_cases h : j < max P.length M.length
    · unfold sumL; rw [nth_map_range _ _ _ h]
    · rw [nth_out P j (by omega), nth_out M j (by omega), nth_out _ _ (by simp [sumL]; omega)]; rfl
  rw [e, hP j, hM j]
  show _ = ctF X Y n k j ^^^ Fld.mul (cbF X k j) (kOf (nth Y k) (ev (ctF X Y n k) (n + 1) (nth X k)) (ev (cbF X k) (n + 1) (nth X k)))
  rw [← hk]
  congr 1
  unfold moreV
  by_cases h : j < k + 1
  · rw [if_pos h, hB j, Fld.mul_comm hK (cbF_lt hX k j)]
  · rw [if_neg h, cbF_out X hX k j (by omega), Fld.zero_mul hK]
theorem next_end {X N B : List Nat} {k : Nat} (hX : IsB X) (hB : ∀ j, nth B j = cbF X k j) (hN : ∀ i, nth N i = nextV (nth X k) B (k + 1) i) (j : Nat) : nth N j = cbF X (k + 1) j := by
  rw [hN j]
  unfold nextV
  show _ = Fld.mul (cbF X k j) (nth X k) ^^^ (if j = 0 then 0 else cbF X k (j - 1))
  have e1 : (if j < k + 1 then Fld.mul (nth B j) (nth X k) else 0) = Fld.mul (cbF X k j) (nth X k) := by
    by_cases h : j < k + 1
    · rw [if_pos h, hB j]
    · rw [if_neg h, cbF_out X hX k j (by omega), Fld.zero_mul (hX.nth k)]
  have e2 : (if j = 0 then 0 else if j - 1 < k + 1 then nth B (j - 1) else 0) = (if j = 0 then 0 else cbF X k (j - 1)) := by
    by_cases h0 : j = 0
    · rw [if_pos h0, if_pos h0]
    · rw [if_neg h0, if_neg h0]
      by_cases h : j - 1 < k + 1
      · rw [if_pos h, hB]
      · rw [if_neg h, cbF_out X hX k _ (by omega)]
  rw [e1, e2]
theorem moreV_zero (K : Nat) (B : List Nat) (i : Nat) : moreV K B 0 i = 0 := by unfold moreV; rw [if_neg (by omega)]
theorem nextV_zero (x : Nat) (B : List Nat) (i : Nat) : nextV x B 0 i = 0 := by
  unfold nextV; rw [if_neg (by omega)]
  by_cases h : i = 0
  · rw [if_pos h]; rfl
  · rw [if_neg h, if_neg (by omega)]; rfl
end Go.Proofs.Ytemlkgllbioigaa
