import Derived.Test.YtpenggkefbbopaaDoorSREnc
import Derived.Deep.RegionLawGrows
namespace Go.Proofs.YtpenggkefbbopaaDoor
open Go.RowKit
set_option maxRecDepth 100000
set_option linter.unusedVariables false
set_option linter.unusedSimpArgs false

theorem raw_rev (L : List Nat) (c : Nat) : List.replicate c 0 ++ L.reverse = (rawL L c).reverse := by
  unfold rawL; rw [List.reverse_append, List.reverse_replicate]
theorem bys_app (A B : List Nat) : bys A ++ bys B = bys (A ++ B) := by simp [bys]
theorem rd_news {w : World} {b off n cap : Nat} {L : List Nat} (h : Rd w (some ⟨b, off, none⟩) n cap L) (j : Nat) (u : Value) (hu : (bys L)[j]? = some u) : w.cell? ((⟨b, off, none⟩ : Addr).add j) = some u := by
  have hj : j < L.length := by
    have := (List.getElem?_eq_some_iff.1 hu).1
    rw [bys_length] at this; exact this
  rw [nth_bys L j hj] at hu
  obtain ⟨_, _, e, _, hc⟩ := h.at' (by rw [← h.len]; omega)
  cases e
  rw [← hu, addr_add]
  exact hc j (by rw [← h.len]; exact hj)
/-- what 'make' lays -/
def mkObj (k : Nat) : Obj := .cells (bys (List.replicate k 0)).toArray 5
theorem run_mk (k : Nat) (hk : k ≤ 1000) (w : World) : (Instr.makeSlice 22 (.int .i64 (k : Int)) (.int .i64 (k : Int))).run Tryd.prog w = .ok (.slice (some ⟨w.heap.size, 0, none⟩) k k) (w.alloc (mkObj k)) := by
  obtain ⟨i0, hi, hz0, hz1, hz2⟩ := info_parts Tryd.info_u8
  have h := run_makeSlice (P := Tryd.prog) w 22 5 i0 (.int .u8 0) Tryd.underlying22 hi hz0 .i64 .i64 k k (by omega) (by omega) (by rw [hz1]; simp; omega) (by rw [hz2]; omega) (by omega)
  rw [hz1] at h
  simp only [Int.toNat_natCast, Nat.mul_one] at h
  rw [h]
  congr 2
  unfold mkObj
  congr 1
  have e2 := toList_madeCells_one (Value.int .u8 0) k
  apply Array.ext'
  rw [← bys_zero]
  exact e2
theorem mk_blk (w : World) (k : Nat) : Blk (w.alloc (mkObj k)) w.heap.size (List.replicate k 0) := heap_alloc_new w _
theorem own_form {w : World} {base n : Nat} {v : Value} {xs : List Value} (h : w.ownsRow base 5 1 v n xs) (h0 : 0 < n) : ∃ g cap, v = .slice (some ⟨g, 0, none⟩) n cap ∧ base ≤ g := by
  rcases h.2 with ⟨_, h1⟩ | ⟨g, cap, cur, h3, h4, _⟩
  · omega
  · exact ⟨g, cap, h3, h4⟩
theorem blk_cells {w : World} {g : Nat} {L : List Nat} (h : Blk w g L) : ∀ b, (some ⟨g, 0, none⟩ : Option Addr) = some b → ∀ j u, (bys L)[j]? = some u → w.cell? (b.add j) = some u := by
  intro b hb j u hu
  cases hb
  have hj : j < L.length := by
    have := (List.getElem?_eq_some_iff.1 hu).1
    rw [bys_length] at this; exact this
  rw [nth_bys L j hj] at hu
  rw [← hu, addr_add, Nat.zero_add]
  exact h.cell j hj
end Go.Proofs.YtpenggkefbbopaaDoor
