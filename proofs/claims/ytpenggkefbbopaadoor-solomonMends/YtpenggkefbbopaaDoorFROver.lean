import Derived.Test.YtpenggkefbbopaaDoorFOver
namespace Go.Proofs.YtpenggkefbbopaaDoor
open Go.RowKit
set_option maxRecDepth 100000
set_option linter.unusedVariables false
set_option linter.unusedSimpArgs false

theorem trimN_top (L : List Nat) (k j : Nat) (h : trimN L k = j + 1) : nth L j ≠ 0 := by
  induction k with
  | zero => simp [trimN] at h
  | succ k ih =>
    by_cases hz : nth L k = 0
    · rw [trimN_zero L k hz] at h; exact ih h
    · rw [trimN_nz L k hz] at h
      have : k = j := by omega
      subst this; exact hz
theorem nth_append_zeros (A : List Nat) (z i : Nat) : nth (A ++ List.replicate z 0) i = nth A i := by
  by_cases h : i < A.length
  · exact nth_append_left _ _ _ h
  · rw [nth_out A i (by omega)]
    unfold nth
    rw [List.getD_eq_getElem?_getD, List.getElem?_append_right (by omega), List.getElem?_replicate]
    split <;> rfl
theorem trimN_congr {A B : List Nat} (k : Nat) (h : ∀ i, i < k → nth A i = nth B i) : trimN A k = trimN B k := by
  induction k with
  | zero => rfl
  | succ k ih => unfold trimN; rw [h k (by omega), ih (fun i hi => h i (by omega))]
theorem trimN_past (A : List Nat) (k z : Nat) (h : ∀ i, k ≤ i → i < k + z → nth A i = 0) : trimN A (k + z) = trimN A k := by
  induction z with
  | zero => rfl
  | succ z ih => rw [← Nat.add_assoc, trimN_zero A (k + z) (h _ (by omega) (by omega)), ih (fun i h1 h2 => h i h1 (by omega))]
theorem trimL_zeros (A : List Nat) (z : Nat) : trimL (A ++ List.replicate z 0) = trimL A := by
  unfold trimL
  have e : trimN (A ++ List.replicate z 0) (A ++ List.replicate z 0).length = trimN A A.length := by
    rw [List.length_append, List.length_replicate, trimN_past _ _ _ (fun i h1 _ => by rw [nth_append_zeros]; exact nth_out A i h1)]
    exact trimN_congr _ (fun i _ => nth_append_zeros A z i)
  rw [e, List.take_append_of_le_length (trimN_le _ _)]
theorem addN_zero (L Q : List Nat) (o k : Nat) (h : o + k ≤ L.length) : addN L o Q 0 k = L := by
  induction k with
  | zero => rfl
  | succ k ih =>
    simp only [addN]
    rw [ih (by omega), Fld.mul_zero, Nat.xor_zero]
    refine list_ext (by simp) fun i _ => ?_
    rw [nth_set _ _ _ _ (by omega)]
    split
    · next e => rw [e]
    · rfl
theorem own_step {w wr : World} {g n cap o c k : Nat} {L Q : List Nat} (hB : wr.ownsRow 0 5 1 (.slice (some ⟨g, 0, none⟩) n cap) n (bys (addN L o Q c k))) (hL : IsB L) (hQ : IsB Q) (hc : c < 256) (hgr : w.grownBy wr (some g)) :
    (wr.setCell ⟨g, o + k, none⟩ (.int .u8 (bits .xor .u8 (nth (addN L o Q c k) (o + k) : Nat) (Fld.mul c (nth Q k) : Nat)))).drew.ownsRow 0 5 1 (.slice (some ⟨g, 0, none⟩) n cap) n (bys (addN L o Q c (k + 1))) ∧
    w.grownBy (wr.setCell ⟨g, o + k, none⟩ (.int .u8 (bits .xor .u8 (nth (addN L o Q c k) (o + k) : Nat) (Fld.mul c (nth Q k) : Nat)))).drew (some g) := by
  rw [Fld.mul_comm hc (hQ.nth _), u8_xor_nat _ _ ((addN_isB hL hQ o c k).nth _) (Fld.mul_lt _ (hQ.nth _))]
  exact ⟨(own_set hB (o + k) _).drew, grown_trans (grown_trans hgr (grown_set wr g (o + k) _)) (grown_drew _ _)⟩

end Go.Proofs.YtpenggkefbbopaaDoor
