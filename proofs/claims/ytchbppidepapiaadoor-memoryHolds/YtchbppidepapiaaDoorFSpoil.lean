import Derived.Test.YtchbppidepapiaaDoorFSame
import Derived.ArgAppend
namespace Go.Proofs.YtchbppidepapiaaDoor
open Go.RowKit
set_option maxRecDepth 100000
set_option linter.unusedVariables false
set_option linter.unusedSimpArgs false

/-- v is a slice of the bytes L that lies at the head of a row that may be written -/
def Own (w : World) (v : Value) (L : List Nat) : Prop := w.ownsRow 0 5 1 v L.length (bys L)
theorem own_base {w : World} {base : Nat} {v : Value} {n : Nat} {xs : List Value} (h : w.ownsRow base 5 1 v n xs) : w.ownsRow 0 5 1 v n xs := by
  refine ⟨h.1, ?_⟩
  rcases h.2 with h2 | ⟨g, cap, cur, h3, h4, h5⟩
  · exact .inl h2
  · exact .inr ⟨g, cap, cur, h3, Nat.zero_le _, h5⟩
theorem addr_add (b off j : Nat) : (⟨b, off, none⟩ : Addr).add j = ⟨b, off + j, none⟩ := by unfold Addr.add; split <;> simp_all

theorem own_cell {w : World} {g n cap : Nat} {L : List Nat} (h : w.ownsRow 0 5 1 (.slice (some ⟨g, 0, none⟩) n cap) n (bys L)) (j : Nat) (hj : j < n) : w.cell? ⟨g, j, none⟩ = some (.int .u8 (nth L j : Nat)) := by
  have hl : L.length = n := by have := h.1; rw [bys_length] at this; omega
  rw [h.cellAt j (by omega)]
  exact nth_bys L j (by omega)
theorem own_set {w : World} {g n cap : Nat} {L : List Nat} (h : w.ownsRow 0 5 1 (.slice (some ⟨g, 0, none⟩) n cap) n (bys L)) (j x : Nat) :
    (w.setCell ⟨g, j, none⟩ (.int .u8 (x : Int))).ownsRow 0 5 1 (.slice (some ⟨g, 0, none⟩) n cap) n (bys (L.set j x)) := by
  have := (h.stored j (.int .u8 (x : Int))).1
  have e : (bys L).set j (.int .u8 (x : Int)) = bys (L.set j x) := by simp [bys, List.map_set]
  rw [e] at this; exact this
theorem two_cells (w : World) (j : Nat) (u : Value) (h : [Value.int .u8 90, Value.int .u8 90][j]? = some u) : (w.alloc (.cells #[.int .u8 90, .int .u8 90] 5)).cell? ((⟨w.heap.size, 0, none⟩ : Addr).add j) = some u := by
  rw [addr_add, cell_of_row _ _ _ _ _ _ (heap_alloc_new w _)]
  simpa using h

theorem own_head {w : World} {g n cap : Nat} {xs : List Value} (h : w.ownsRow 0 5 1 (.slice (some ⟨g, 0, none⟩) n cap) n xs) (hn : 0 < n) : ∃ u, w.cell? ⟨g, 0, none⟩ = some u := by
  rw [h.cellAt 0 (by omega)]
  have := h.1
  exact ⟨_, List.getElem?_eq_getElem (by omega)⟩
theorem grown_new {a b c : World} {g : Nat} {r : Option Nat} (h : a.grownBy b r) (k : b.grownBy c (some g)) (hg : r = some g ∨ a.heap.size ≤ g) : a.grownBy c r :=
  ⟨k.os.trans h.os, k.tape.trans h.tape, k.output.trans h.output, Nat.le_trans h.size k.size, fun i hi hn => (k.block i (Nat.lt_of_lt_of_le hi h.size) (by rcases hg with rfl | hg <;> simp_all <;> omega)).trans (h.block i hi hn)⟩
end Go.Proofs.YtchbppidepapiaaDoor
