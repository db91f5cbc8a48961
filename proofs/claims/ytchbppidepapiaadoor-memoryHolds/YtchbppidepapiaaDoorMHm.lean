import Derived.Test.YtchbppidepapiaaDoorMRe
namespace Go.Proofs.YtchbppidepapiaaDoor
open Go.RowKit
set_option maxRecDepth 100000
set_option linter.unusedVariables false
set_option linter.unusedSimpArgs false

/-- a row of pokes, told by its places -/
def gP (P : List (Nat × Nat × Nat)) (i : Nat) : Nat × Nat × Nat := P.getD i (0, 0, 0)
theorem gP_app (P : List (Nat × Nat × Nat)) (p : Nat × Nat × Nat) (i : Nat) (h : i < P.length) : gP (P ++ [p]) i = gP P i := by
  unfold gP
  rw [List.getD_eq_getElem?_getD, List.getElem?_append_left h, List.getD_eq_getElem?_getD]
theorem gP_last (P : List (Nat × Nat × Nat)) (p : Nat × Nat × Nat) : gP (P ++ [p]) P.length = p := by
  unfold gP
  rw [List.getD_eq_getElem?_getD, List.getElem?_append_right (Nat.le_refl _), Nat.sub_self]
  rfl
theorem mRu_app (s : List Nat × Nat) (P : List (Nat × Nat × Nat)) (p : Nat × Nat × Nat) (i : Nat) (h : i ≤ P.length) : mRu s (gP (P ++ [p])) i = mRu s (gP P) i := by
  induction i with
  | zero => rfl
  | succ i ih => rw [mRu, mRu, ih (by omega), gP_app P p i (by omega)]
/-- pokes that meet no error, and the codes behind them (the place that comes next is 0) -/
structure Good (n : Nat) (P : List (Nat × Nat × Nat)) (C : List Nat) : Prop where
  ok : ∀ i, i < P.length → mOk (mRu (List.replicate n 0, 0) (gP P) i) (gP P i)
  fin : mRu (List.replicate n 0, 0) (gP P) P.length = (C, 0)
theorem good_nil (n : Nat) : Good n [] (List.replicate n 0) := ⟨fun i h => by simp at h, rfl⟩
theorem Good.push {n : Nat} {P : List (Nat × Nat × Nat)} {C C' : List Nat} (h : Good n P C) (p : Nat × Nat × Nat) (hok : mOk (C, 0) p) (hst : mSt (C, 0) p = (C', 0)) : Good n (P ++ [p]) C' := by
  refine ⟨fun i hi => ?_, ?_⟩
  · rw [List.length_append, List.length_singleton] at hi
    by_cases e : i < P.length
    · rw [mRu_app _ _ _ _ (by omega), gP_app _ _ _ e]
      exact h.ok i e
    · obtain rfl : i = P.length := by omega
      rw [mRu_app _ _ _ _ (Nat.le_refl _), gP_last, h.fin]
      exact hok
  · rw [List.length_append, List.length_singleton, mRu, mRu_app _ _ _ _ (Nat.le_refl _), gP_last, h.fin]
    exact hst
/-- the codes of words, of which the first h have one bit turned at most -/
structure Hit (W : Nat → Nat) (n h : Nat) (C : List Nat) : Prop where
  len : C.length = n
  low : ∀ k, k < h → k < n → ∃ b, b < 39 ∧ nth C k = coN (W k) ^^^ 1 <<< b
  high : ∀ k, h ≤ k → k < n → nth C k = coN (W k)
theorem Hit.wr {W : Nat → Nat} {n h : Nat} {C : List Nat} (x : Hit W n h C) (k : Nat) (hk : k < n) : wrW (nth C k) ≤ 1 ∧ riW (nth C k) = coN (W k) := by
  by_cases e : k < h
  · obtain ⟨b, hb, e2⟩ := x.low k e hk
    rw [e2]
    obtain ⟨h1, h2⟩ := one_wrong (W k) b hb
    exact ⟨by omega, h2⟩
  · rw [x.high k (by omega) hk]
    obtain ⟨h1, h2⟩ := none_wrong (W k)
    exact ⟨by omega, h2⟩
theorem Hit.turn {W : Nat → Nat} {n h : Nat} {C : List Nat} (x : Hit W n h C) (b : Nat) (hb : b < 39) (hh : h < n) : Hit W n (h + 1) (C.set h (nth C h ^^^ 1 <<< b)) := by
  refine ⟨by rw [List.length_set]; exact x.len, fun k hk hn => ?_, fun k hk hn => ?_⟩
  · rw [nth_set _ _ _ _ (by rw [x.len]; exact hh)]
    by_cases e : h = k
    · subst e
      rw [if_pos rfl, x.high h (Nat.le_refl _) hh]
      exact ⟨b, hb, rfl⟩
    · rw [if_neg e]
      exact x.low k (by omega) hn
  · rw [nth_set _ _ _ _ (by rw [x.len]; exact hh), if_neg (by omega)]
    exact x.high k (by omega) hn
theorem scC_nth (C : List Nat) (j k : Nat) (hj : j ≤ C.length) (hk : k < C.length) : nth (scC C 0 j) k = if k < j then riW (nth C k) else nth C k := by
  induction j with
  | zero => simp [scC]
  | succ j ih =>
    have h1 := ih (by omega)
    have hl := scC_len C 0 j
    rw [scC, Nat.zero_add, Nat.mod_eq_of_lt (by omega), nth_set _ _ _ _ (by omega)]
    by_cases e : j = k
    · subst e
      rw [if_pos rfl, if_pos (by omega), h1, if_neg (by omega)]
    · rw [if_neg e, h1]
      by_cases e2 : k < j
      · rw [if_pos e2, if_pos (by omega)]
      · rw [if_neg e2, if_neg (by omega)]
/-- ONE BIT A VISIT IS NEVER LOST -/
theorem Hit.scrub {W : Nat → Nat} {n h : Nat} {C : List Nat} (x : Hit W n h C) (hn : 1 ≤ n) : mOk (C, 0) (4, 0, n) ∧ mSt (C, 0) (4, 0, n) = (scC C 0 n, 0) ∧ Hit W n 0 (scC C 0 n) := by
  refine ⟨.inr (.inr (.inr ⟨rfl, ?_, fun j hj => ?_⟩)), ?_, ?_⟩
  · show n ≤ C.length
    rw [x.len]; exact Nat.le_refl _
  · have hj : j < n := hj
    show wrW (nth (scC C 0 j) ((0 + j) % C.length)) ≤ 1
    rw [Nat.zero_add, x.len, Nat.mod_eq_of_lt hj, scC_nth C j j (by rw [x.len]; omega) (by rw [x.len]; exact hj), if_neg (Nat.lt_irrefl j)]
    exact (x.wr j hj).1
  · show (scC C 0 n, (0 + n) % C.length) = _
    rw [Nat.zero_add, x.len, Nat.mod_self]
  · refine ⟨by rw [scC_len]; exact x.len, fun k hk => by omega, fun k _ hk => ?_⟩
    rw [scC_nth C n k (by rw [x.len]; exact Nat.le_refl _) (by rw [x.len]; exact hk), if_pos hk]
    exact (x.wr k hk).2
theorem Hit.turned {W : Nat → Nat} {n h : Nat} {C : List Nat} (x : Hit W n h C) (b : Nat) (hb : b < 39) (hh : h < n) : mOk (C, 0) (3, h, b) ∧ mSt (C, 0) (3, h, b) = (C.set h (nth C h ^^^ 1 <<< b), 0) :=
  ⟨.inr (.inr (.inl ⟨rfl, by show h < C.length; rw [x.len]; exact hh, hb⟩)), rfl⟩
theorem Hit.load {W : Nat → Nat} {n : Nat} {C : List Nat} (x : Hit W n 0 C) (k : Nat) (hk : k < n) (hw : W k < 4294967296) : mOk (C, 0) (1, k, 0) ∧ mSt (C, 0) (1, k, 0) = (C, 0) ∧ mOu (C, 0) (1, k, 0) = W k := by
  obtain ⟨h1, h2⟩ := x.wr k hk
  have h3 := x.high k (Nat.zero_le _) hk
  refine ⟨.inl ⟨rfl, by show k < C.length; rw [x.len]; exact hk, h1⟩, ?_, ?_⟩
  · show (C.set k (riW (nth C k)), 0) = (C, 0)
    rw [h2, ← h3]
    have e : C.set k (nth C k) = C := by
      refine list_ext (by rw [List.length_set]) fun i hi => ?_
      rw [nth_set _ _ _ _ (by rw [x.len]; exact hk)]
      split
      · rename_i e; rw [e]
      · rfl
    rw [e]
  · show gaW (riW (nth C k)) 39 = W k
    rw [h2, ga_co _ hw]
theorem coN_zero : coN 0 = 0 := by decide +kernel
/-- the first j words are stored -/
theorem Hit.store {W : Nat → Nat} {n j : Nat} {C : List Nat} (x : Hit (fun k => if k < j then W k else 0) n 0 C) (hj : j < n) (hw : W j < 4294967296) : mOk (C, 0) (2, j, W j) ∧ mSt (C, 0) (2, j, W j) = (C.set j (coN (W j)), 0) ∧ Hit (fun k => if k < j + 1 then W k else 0) n 0 (C.set j (coN (W j))) := by
  refine ⟨.inr (.inl ⟨rfl, by show j < C.length; rw [x.len]; exact hj, hw⟩), rfl, by rw [List.length_set]; exact x.len, fun k hk => by omega, fun k _ hk => ?_⟩
  rw [nth_set _ _ _ _ (by rw [x.len]; exact hj)]
  by_cases e : j = k
  · subst e
    rw [if_pos rfl, if_pos (by omega)]
  · rw [if_neg e, x.high k (Nat.zero_le _) hk]
    by_cases e2 : k < j
    · rw [if_pos e2, if_pos (by omega)]
    · rw [if_neg e2, if_neg (by omega)]
theorem hit_start (W : Nat → Nat) (n : Nat) : Hit (fun k => if k < 0 then W k else 0) n 0 (List.replicate n 0) :=
  ⟨by simp, fun k hk => by omega, fun k _ _ => by rw [nth_rep, if_neg (by omega), coN_zero]⟩
end Go.Proofs.YtchbppidepapiaaDoor
