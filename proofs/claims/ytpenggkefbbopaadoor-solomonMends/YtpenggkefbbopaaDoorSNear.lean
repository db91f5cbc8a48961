import Derived.Test.YtpenggkefbbopaaDoorSNearM
namespace Go.Proofs.YtpenggkefbbopaaDoor
open Go.RowKit
set_option maxRecDepth 100000
set_option linter.unusedVariables false
set_option linter.unusedSimpArgs false

theorem enc_168 : encL [1] 2 = [1, 6, 8] := by decide +kernel
theorem str_168 : strB [1, 6, 8] = ⟨#[1, 6, 8]⟩ := by first | rfl | decide +kernel
theorem encOk_ans (a : Option Addr) (n cap c : Nat) (L : List Nat) (w : World) (hp : Rd w a n cap L) (h0 : 0 < n) (h1 : 1 ≤ c) (hc : c ≤ 64) (hn : n + c ≤ 255) :
    Calls Tryd.prog 5 #[.slice a n cap, .int .i64 c] w fun e w' => ∃ a' n' c', e = .returned (.tuple #[.slice a' n' c', .int .i64 0]) ∧ Ans w' w.heap.size a' n' c' (encL L c) ∧ w.grownBy w' none := encode_ok a n cap c L w hp h0 h1 hc hn
theorem ownI_cell {w : World} {g n cap : Nat} {L : List Nat} (h : w.ownsRow 0 3 1 (.slice (some ⟨g, 0, none⟩) n cap) n (ins L)) (j : Nat) (hj : j < n) : w.cell? ⟨g, j, none⟩ = some (.int .i64 (nth L j : Nat)) := by
  have hl : L.length = n := by have := h.1; rw [ins_length] at this; omega
  rw [h.cellAt j (by omega)]
  exact nth_ins L j (by omega)
theorem AnsI.at' {w : World} {lo : Nat} {a : Option Addr} {n cap : Nat} {L : List Nat} (h : AnsI w lo a n cap L) (h0 : 0 < n) : ∃ g, a = some ⟨g, 0, none⟩ ∧ ∀ j, j < n → w.cell? ⟨g, j, none⟩ = some (.int .i64 (nth L j : Nat)) := by
  rcases h.own.2 with ⟨_, h2⟩ | ⟨g, cap', cur, h1, _⟩
  · omega
  · cases h1
    exact ⟨g, rfl, fun j hj => ownI_cell h.own j hj⟩
/-- the places below i at which two words differ -/
def difN (W V : List Nat) (i : Nat) : List Nat := (List.range i).filter (fun p => nth W p != nth V p)
theorem dif_step {W V : List Nat} {i : Nat} (h : nth W i ≠ nth V i) : difN W V (i + 1) = difN W V i ++ [i] := by
  unfold difN; rw [List.range_succ, List.filter_append]; congr 1; simp [h]
theorem dif_skip {W V : List Nat} {i : Nat} (h : nth W i = nth V i) : difN W V (i + 1) = difN W V i := by
  unfold difN; rw [List.range_succ, List.filter_append]; simp [h]
theorem dif_pre (W V : List Nat) (i n : Nat) (h : i ≤ n) : ∃ R, difN W V n = difN W V i ++ R := by
  induction n with
  | zero => obtain rfl : i = 0 := by omega
            exact ⟨[], by simp⟩
  | succ n ih =>
    by_cases e : i = n + 1
    · subst e; exact ⟨[], by simp⟩
    · obtain ⟨R, hR⟩ := ih (by omega)
      by_cases hd : nth W n = nth V n
      · exact ⟨R, by rw [dif_skip hd, hR]⟩
      · exact ⟨R ++ [n], by rw [dif_step hd, hR, List.append_assoc]⟩
theorem dif_at {W V : List Nat} {i n : Nat} (hi : i < n) (h : nth W i ≠ nth V i) : (difN W V i).length < (difN W V n).length ∧ nth (difN W V n) (difN W V i).length = i := by
  obtain ⟨R, hR⟩ := dif_pre W V (i + 1) n hi
  rw [dif_step h] at hR
  rw [hR]
  constructor
  · simp
  · rw [nth_append_left _ _ _ (by simp)]
    unfold nth
    rw [List.getD_eq_getElem?_getD, List.getElem?_append_right (Nat.le_refl _)]
    simp
theorem dif_len (W V : List Nat) (i : Nat) : (difN W V i).length ≤ i := by
  have := List.length_filter_le (fun p => nth W p != nth V p) (List.range i)
  rw [List.length_range] at this
  exact this
end Go.Proofs.YtpenggkefbbopaaDoor
