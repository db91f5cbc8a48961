import Derived.Test.YtnimehkfnpepfaaVDz
namespace Go.Proofs.Ytnimehkfnpepfaa
open Go.RowKit
set_option maxRecDepth 100000
set_option linter.unusedVariables false
set_option linter.unusedSimpArgs false

theorem docF_no {N : Nd} (h : mayN N = false) : docF (some N) = none := by unfold docF; simp only [h]; rfl
theorem may_1 (id : Nat) (nm : List Nat) (si : Nat) (h : nm.length = 0 ∨ 32 < nm.length) : mayN ⟨1, id, nm, si, 0, 0, [], [], 0, 0⟩ = false :=
  ntB_no1 _ _ _ _ _ _ _ _ _ _ (fun h9 => by have := h9.2.1; have := h9.2.2.1; dsimp only at *; omega)
theorem may_2 (id : Nat) (at' : Nat) (da : List Nat) (h : da.length = 0 ∨ 1024 < da.length) : mayN ⟨2, id, [], 0, 0, at', da, [], 0, 0⟩ = false :=
  ntB_no2 _ _ _ _ _ _ _ _ _ _ (fun h9 => by have := h9.2.2.2.1; have := h9.2.2.2.2.1; dsimp only at *; omega)
theorem may_4 (id : Nat) (ga : List (Nat × Nat)) (h : ga.length = 0 ∨ 20 < ga.length) : mayN ⟨4, id, [], 0, 0, 0, [], ga, 0, 0⟩ = false :=
  ntB_no4 _ _ _ _ _ _ _ _ _ _ (fun h9 => by have := h9.2.1; have := h9.2.2.1; dsimp only at *; omega)
theorem may_0 (k id : Nat) (h : k = 0 ∨ 6 < k) : mayN ⟨k, id, [], 0, 0, 0, [], [], 0, 0⟩ = false :=
  ntB_no0 _ _ _ _ _ _ _ _ _ _ _ (by dsimp only; omega)
theorem dec_doc (D : List Nat) : decN D = docF (rdN D) := by
  unfold decN docF
  cases rdN D <;> rfl
theorem hdV_1 (D : List Nat) : hdV D 1 = nth D 0 := by show 0 * 256 + nth D 0 = _; omega
theorem nth_drop1 (D : List Nat) (i : Nat) : nth (D.drop 1) i = nth D (i + 1) := by
  unfold nth
  simp [List.getD_eq_getElem?_getD, List.getElem?_drop, Nat.add_comm]
theorem hdV_2 (D : List Nat) : hdV (D.drop 1) 2 = nth D 1 * 256 + nth D 2 := by
  show (0 * 256 + nth (D.drop 1) 0) * 256 + nth (D.drop 1) 1 = _
  rw [nth_drop1, nth_drop1]
  show (0 * 256 + nth D 1) * 256 + nth D 2 = _
  omega
/-- what is left is nothing, or nothing was read -/
def lastR (o : Option (Nd × List Nat)) : Option Nd := match o with
  | some (N, []) => some N
  | _ => none
theorem lastR_some (N : Nd) (R : List Nat) : lastR (some (N, R)) = if R.length = 0 then some N else none := by
  cases R <;> rfl
theorem rdN_of (D : List Nat) : rdN D = if 1031 < D.length then none else lastR (noteR D) := rfl
theorem kind_doc (k id : Nat) (c : List Nat) (hc : c.length ≤ 1028) (h1 : 1 ≤ c.length) : docF (lastR (kindR k id c)) = docF (docK k id c) := by
  unfold kindR docK
  by_cases e1 : k = 1
  · rw [if_pos e1, if_pos e1]
    by_cases h : c.length < 4
    · rw [if_pos h, if_pos h, docF_no (may_1 _ _ _ (.inl rfl))]; rfl
    · rw [if_neg h, if_neg h]; rfl
  rw [if_neg e1, if_neg e1]
  by_cases e2 : k = 2
  · rw [if_pos e2, if_pos e2]
    by_cases h : c.length < 4
    · rw [if_pos h, if_pos h, docF_no (may_2 _ _ _ (.inl rfl))]; rfl
    · rw [if_neg h, if_neg h]; rfl
  rw [if_neg e2, if_neg e2]
  by_cases e3 : k = 3
  · rw [if_pos e3, if_pos e3]
    by_cases h : c.length < 8
    · rw [if_pos h, if_neg (by omega)]; rfl
    · rw [if_neg h, lastR_some, List.length_drop]
      by_cases h8 : c.length = 8
      · rw [if_pos (by omega), if_pos h8]
      · rw [if_neg (by omega), if_neg h8]
  rw [if_neg e3, if_neg e3]
  by_cases e4 : k = 4
  · rw [if_pos e4, if_pos e4]
    by_cases h : c.length % 8 = 0
    · rw [if_pos h, lastR_some, if_pos (by rfl)]
      by_cases h8 : c.length ≤ 160
      · rw [if_pos ⟨h, h8⟩]
      · rw [if_neg (by omega), docF_no (may_4 _ _ (.inr (by rw [gpR_len]; omega)))]; rfl
    · rw [if_neg h, if_neg (by omega)]; rfl
  rw [if_neg e4, if_neg e4]
  by_cases e5 : k = 5
  · rw [if_pos e5, if_pos e5, if_neg (by omega), lastR_some, List.length_drop]
    by_cases h8 : c.length = 1
    · rw [if_pos (by omega), if_pos h8]
    · rw [if_neg (by omega), if_neg h8]
  rw [if_neg e5, if_neg e5]
  by_cases e6 : k = 6
  · rw [if_pos e6, if_pos e6, if_neg (by omega), lastR_some, List.length_drop]
    by_cases h8 : c.length = 1
    · rw [if_pos (by omega), if_pos h8]
    · rw [if_neg (by omega), if_neg h8]
  rw [if_neg e6, if_neg e6, lastR_some, if_neg (by omega), docF_no (may_0 _ _ (by omega))]
  rfl
theorem kind_nil (k id : Nat) : docF (lastR (kindR k id [])) = none := by
  unfold kindR
  by_cases e1 : k = 1
  · rw [if_pos e1]; rfl
  rw [if_neg e1]
  by_cases e2 : k = 2
  · rw [if_pos e2]; rfl
  rw [if_neg e2]
  by_cases e3 : k = 3
  · rw [if_pos e3]; rfl
  rw [if_neg e3]
  by_cases e4 : k = 4
  · rw [if_pos e4, if_pos (by rfl), lastR_some, if_pos (by rfl), docF_no (may_4 _ _ (.inl rfl))]
  rw [if_neg e4]
  by_cases e5 : k = 5
  · rw [if_pos e5]; rfl
  rw [if_neg e5]
  by_cases e6 : k = 6
  · rw [if_pos e6]; rfl
  rw [if_neg e6, lastR_some, if_pos (by rfl), docF_no (may_0 _ _ (by omega))]
theorem kind_long (k id : Nat) (c : List Nat) (hc : 1028 < c.length) : docF (docK k id c) = none := by
  unfold docK
  by_cases e1 : k = 1
  · rw [if_pos e1, if_neg (by omega), docF_no (may_1 _ _ _ (.inr (by rw [List.length_drop]; omega)))]
  rw [if_neg e1]
  by_cases e2 : k = 2
  · rw [if_pos e2, if_neg (by omega), docF_no (may_2 _ _ _ (.inr (by rw [List.length_drop]; omega)))]
  rw [if_neg e2]
  by_cases e3 : k = 3
  · rw [if_pos e3, if_neg (by omega)]; rfl
  rw [if_neg e3]
  by_cases e4 : k = 4
  · rw [if_pos e4, if_neg (by omega)]; rfl
  rw [if_neg e4]
  by_cases e5 : k = 5
  · rw [if_pos e5, if_neg (by omega)]; rfl
  rw [if_neg e5]
  by_cases e6 : k = 6
  · rw [if_pos e6, if_neg (by omega)]; rfl
  rw [if_neg e6, docF_no (may_0 _ _ (by omega))]
/-- the document's answer is the code's -/
theorem doc_is_dec (D : List Nat) : docF (docN D) = decN D := by
  rw [dec_doc, rdN_of]
  unfold docN noteR
  by_cases h3 : D.length < 3
  · rw [if_pos (by omega), if_neg (by omega), if_pos h3]; rfl
  rw [if_neg h3, hdV_1, hdV_2]
  by_cases h4 : D.length < 4
  · rw [if_pos h4, if_neg (by omega), List.drop_of_length_le (by omega), kind_nil]; rfl
  rw [if_neg h4]
  by_cases h : 1031 < D.length
  · rw [if_pos h, kind_long _ _ _ (by rw [List.length_drop]; omega)]; rfl
  · rw [if_neg h, kind_doc _ _ _ (by rw [List.length_drop]; omega) (by rw [List.length_drop]; omega)]
end Go.Proofs.Ytnimehkfnpepfaa
