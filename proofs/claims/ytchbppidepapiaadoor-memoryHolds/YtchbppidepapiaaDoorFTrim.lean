import Derived.Test.YtchbppidepapiaaDoorFTwice
namespace Go.Proofs.YtchbppidepapiaaDoor
open Go.RowKit
set_option maxRecDepth 100000
set_option linter.unusedVariables false
set_option linter.unusedSimpArgs false

theorem list_ext {A B : List Nat} (hl : A.length = B.length) (h : ∀ i, i < A.length → nth A i = nth B i) : A = B := by
  apply List.ext_getElem hl
  intro i h1 h2
  have := h i h1
  unfold nth at this
  rw [List.getD_eq_getElem?_getD, List.getD_eq_getElem?_getD, List.getElem?_eq_getElem h1, List.getElem?_eq_getElem h2] at this
  exact this
theorem nth_out (L : List Nat) (i : Nat) (h : L.length ≤ i) : nth L i = 0 := by
  unfold nth; rw [List.getD_eq_getElem?_getD, List.getElem?_eq_none h]; rfl
theorem nth_map_range (f : Nat → Nat) (n i : Nat) (h : i < n) : nth ((List.range n).map f) i = f i := by
  unfold nth; rw [List.getD_eq_getElem?_getD, List.getElem?_map, List.getElem?_range h]; rfl
theorem nth_zeros (n i : Nat) : nth (List.replicate n 0) i = 0 := by
  by_cases h : i < n
  · unfold nth; rw [List.getD_eq_getElem?_getD, List.getElem?_replicate, if_pos h]; rfl
  · exact nth_out _ _ (by simp; omega)
/-- the sum, not yet trimmed -/
def sumL (P Q : List Nat) : List Nat := (List.range (max P.length Q.length)).map fun i => nth P i ^^^ nth Q i
theorem sumL_of {P Q D : List Nat} (hl : D.length = max P.length Q.length) (h : ∀ i, nth D i = nth P i ^^^ nth Q i) : D = sumL P Q := by
  refine list_ext (by simp [sumL, hl]) fun i hi => ?_
  unfold sumL
  rw [h i, nth_map_range _ _ _ (by omega)]
theorem Blk.ans {w : World} {g n lo : Nat} {D : List Nat} (h : Blk w g D) (hB : IsB D) (hn : n ≤ D.length) (hm : D.length ≤ maxLen) (hlo : lo ≤ g) : Ans w lo (some ⟨g, 0, none⟩) n D.length (D.take n) := by
  refine ⟨⟨by rw [bys_length, List.length_take]; omega, .inr ⟨g, D.length, _, rfl, Nat.zero_le _, h, hn, hm, by simp [bys], ?_⟩⟩, isB_take hB _, ?_⟩
  · simp [bys, List.map_take]
  · intro g' hg'; simp [Value.ownBlock] at hg'; omega
theorem Blk.rd {w : World} {g n : Nat} {D : List Nat} (h : Blk w g D) (hB : IsB D) (hl : D.length = n) (hm : n ≤ maxLen) : Rd w (some ⟨g, 0, none⟩) n n D :=
  ⟨hl, Nat.le_refl _, hm, (fun h => by cases h), hB, fun _ => ⟨g, 0, rfl, h.lt, fun i hi => by rw [Nat.zero_add]; exact h.cell i (by omega)⟩⟩

theorem Rd.cut {w : World} {a : Option Addr} {n cap m : Nat} {L : List Nat} (h : Rd w a n cap L) (hm : m ≤ n) : Rd w a m cap (L.take m) := by
  refine ⟨by rw [List.length_take, h.len]; omega, Nat.le_trans hm h.le, h.max, h.nil, isB_take h.byte _, fun h0 => ?_⟩
  obtain ⟨b, off, rfl, hb, hc⟩ := h.at' (by omega)
  refine ⟨b, off, rfl, hb, fun i hi => ?_⟩
  rw [hc i (by omega)]
  have : nth (L.take m) i = nth L i := by
    unfold nth; rw [List.getD_eq_getElem?_getD, List.getD_eq_getElem?_getD, List.getElem?_take, if_pos hi]
  rw [this]
end Go.Proofs.YtchbppidepapiaaDoor
