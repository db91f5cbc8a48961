import Derived.Test.YtdpgblojdppfeaaFMake
namespace Go.Proofs.Ytdpgblojdppfeaa
open Go.RowKit
set_option maxRecDepth 100000
set_option linter.unusedVariables false
set_option linter.unusedSimpArgs false

theorem nth_set (D : List Nat) (i x j : Nat) (hi : i < D.length) : nth (D.set i x) j = if i = j then x else nth D j := by
  unfold nth
  rw [List.getD_eq_getElem?_getD, List.getD_eq_getElem?_getD, List.getElem?_set]
  by_cases h : i = j
  · subst h; simp [hi]
  · simp [h]
theorem nth_append_left (A B : List Nat) (i : Nat) (h : i < A.length) : nth (A ++ B) i = nth A i := by
  unfold nth; rw [List.getD_eq_getElem?_getD, List.getD_eq_getElem?_getD, List.getElem?_append_left h]
theorem isB_append {A B : List Nat} (h : IsB A) (k : IsB B) : IsB (A ++ B) := by
  intro x hx
  rcases List.mem_append.1 hx with h1 | h1
  · exact h x h1
  · exact k x h1
theorem isB_zeros (n : Nat) : IsB (List.replicate n 0) := by
  intro x hx
  rw [List.eq_of_mem_replicate hx]; decide
theorem isB_drop {A : List Nat} (h : IsB A) (n : Nat) : IsB (A.drop n) := fun x hx => h x (List.mem_of_mem_drop hx)
theorem isB_take {A : List Nat} (h : IsB A) (n : Nat) : IsB (A.take n) := fun x hx => h x (List.mem_of_mem_take hx)

/-- new memory, then a write into it: nothing old has turned -/
theorem new_then {a b c : World} (h : a.grownBy b none) (k : b.grownBy c (some a.heap.size)) : a.grownBy c none :=
  ⟨k.os.trans h.os, k.tape.trans h.tape, k.output.trans h.output, Nat.le_trans h.size k.size, fun i hi hn => (k.block i (Nat.lt_of_lt_of_le hi h.size) (by simp; omega)).trans (h.block i hi hn)⟩
/-- a copy of L with marks in its spare room -/
structure Roomy (w : World) (g n : Nat) (L D : List Nat) : Prop where
  blk : Blk w g D
  len : D.length = n + 5
  byte : IsB D
  own : ∀ i, i < n → nth D i = nth L i
  mark : ∀ i, n ≤ i → i < n + 5 → nth D i = (90 + i) % 256
theorem mark_val (k : Nat) (h : k ≤ 140737488355328) : IntKind.u8.wrap (90 + (k : Int)) = (((90 + k) % 256 : Nat) : Int) := by
  rw [IntKind.wrap_u8']; omega

end Go.Proofs.Ytdpgblojdppfeaa
