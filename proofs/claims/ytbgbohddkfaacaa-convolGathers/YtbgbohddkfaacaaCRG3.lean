import Derived.Test.YtbgbohddkfaacaaCRG2
import Derived.Test.YtbgbohddkfaacaaCGth
namespace Go.Proofs.Ytbgbohddkfaacaa
open Go.RowKit
set_option maxRecDepth 100000
set_option linter.unusedVariables false
set_option linter.unusedSimpArgs false

/-- both lists of the document's Gather, in their variables -/
structure FS (w wr : World) (q1 q2 c1 c2 : Nat) (a1 a2 : Option Addr) (X Y : List Int) : Prop where
  gr : w.grownBy wr none
  v1 : wr.heap[w.heap.size]? = some (.cells #[.slice a1 q1 c1] 35)
  v2 : wr.heap[w.heap.size + 1]? = some (.cells #[.slice a2 q2 c2] 35)
  A1 : AnsZ wr (w.heap.size + 2) a1 q1 c1 X
  A2 : AnsZ wr (w.heap.size + 2) a2 q2 c2 Y
  D : ∀ g, (Value.slice a1 q1 c1).ownBlock = some g → (Value.slice a2 q2 c2).ownBlock ≠ some g
theorem FS.lo {w wr : World} {q1 q2 c1 c2 : Nat} {a1 a2 : Option Addr} {X Y : List Int} (h : FS w wr q1 q2 c1 c2 a1 a2 X Y) : w.heap.size + 2 ≤ wr.heap.size := (Array.getElem?_eq_some_iff.1 h.v2).1
theorem FS.cell1 {w wr : World} {q1 q2 c1 c2 : Nat} {a1 a2 : Option Addr} {X Y : List Int} (h : FS w wr q1 q2 c1 c2 a1 a2 X Y) : wr.cell? ⟨w.heap.size, 0, none⟩ = some (.slice a1 q1 c1) := by rw [cell_of_row wr _ 0 _ _ _ h.v1]; rfl
theorem FS.cell2 {w wr : World} {q1 q2 c1 c2 : Nat} {a1 a2 : Option Addr} {X Y : List Int} (h : FS w wr q1 q2 c1 c2 a1 a2 X Y) : wr.cell? ⟨w.heap.size + 1, 0, none⟩ = some (.slice a2 q2 c2) := by rw [cell_of_row wr _ 0 _ _ _ h.v2]; rfl
theorem own_ne {w : World} {lo : Nat} {a : Option Addr} {n cap : Nat} {L : List Int} (h : AnsZ w lo a n cap L) (g : Nat) (hg : g < lo) : some g ≠ (Value.slice a n cap).ownBlock := fun e => by have := h.new g e.symm; omega
theorem var_set (w : World) (g : Nat) (v v' : Value) (h : w.heap[g]? = some (.cells #[v] 35)) : (w.setCell ⟨g, 0, none⟩ v').heap[g]? = some (.cells #[v'] 35) := by
  rw [heap_setCell_same w g 0 _ _ _ h]; rfl
theorem ne_own {w : World} {lo : Nat} {a : Option Addr} {n cap : Nat} {L : List Int} (h : AnsZ w lo a n cap L) (g : Nat) (hg : g < lo) : (Value.slice a n cap).ownBlock = none ∨ (Value.slice a n cap).ownBlock ≠ some g := .inr (fun e => own_ne h g hg e.symm)
/-- behind an append to the first list -/
theorem FS.push1 {w wr w4 : World} {q1 q2 c1 c2 gx cx : Nat} {a1 a2 : Option Addr} {X Y : List Int} {v : Int} (h : FS w wr q1 q2 c1 c2 a1 a2 X Y) (hA : AnsZ w4 (w.heap.size + 2) (some ⟨gx, 0, none⟩) (q1 + 1) cx (X ++ [v]))
    (hG : w.grownBy w4 none) (hgx : (Value.slice a1 q1 c1).ownBlock = some gx ∨ wr.heap.size ≤ gx) (hg : wr.grownBy w4 (Value.slice a1 q1 c1).ownBlock) :
    (∃ u, w4.cell? ⟨w.heap.size, 0, none⟩ = some u) ∧ w4.frozen? ⟨w.heap.size, 0, none⟩ = false ∧ FS w (w4.setCell ⟨w.heap.size, 0, none⟩ (.slice (some ⟨gx, 0, none⟩) (q1 + 1) cx)) (q1 + 1) q2 cx c2 (some ⟨gx, 0, none⟩) a2 (X ++ [v]) Y := by
  have hlo := h.lo
  have v1 := (hg.block w.heap.size (by omega) (own_ne h.A1 _ (by omega))).trans h.v1
  have v2 := (hg.block (w.heap.size + 1) (by omega) (own_ne h.A1 _ (by omega))).trans h.v2
  have hA2 : AnsZ w4 (w.heap.size + 2) a2 q2 c2 Y := h.A2.kept hg (by
    cases e : (Value.slice a2 q2 c2).ownBlock with
    | none => exact .inl rfl
    | some g => exact .inr (fun e' => h.D g e'.symm e))
  have gs := grown_set w4 w.heap.size 0 (.slice (some ⟨gx, 0, none⟩) (q1 + 1) cx)
  refine ⟨⟨_, by rw [cell_of_row w4 _ 0 _ _ _ v1]; rfl⟩, frozen_of_row w4 _ 0 _ _ v1, ⟨grown_far hG gs (fun g e => by cases e; exact Nat.le_refl _), var_set w4 _ _ _ v1, ?_, hA.kept gs (ne_own hA _ (by omega)), hA2.kept gs (ne_own hA2 _ (by omega)), ?_⟩⟩
  · rw [gs.block (w.heap.size + 1) (by have := (Array.getElem?_eq_some_iff.1 v2).1; exact this) (by simp)]; exact v2
  · intro g e e2
    have eg : gx = g := Option.some.inj e
    subst eg
    rcases hgx with h' | h'
    · exact h.D gx h' e2
    · have := h.A2.lt gx e2; omega
/-- behind an append to the second list -/
theorem FS.push2 {w wr w4 : World} {q1 q2 c1 c2 gx cx : Nat} {a1 a2 : Option Addr} {X Y : List Int} {v : Int} (h : FS w wr q1 q2 c1 c2 a1 a2 X Y) (hA : AnsZ w4 (w.heap.size + 2) (some ⟨gx, 0, none⟩) (q2 + 1) cx (Y ++ [v]))
    (hG : w.grownBy w4 none) (hgx : (Value.slice a2 q2 c2).ownBlock = some gx ∨ wr.heap.size ≤ gx) (hg : wr.grownBy w4 (Value.slice a2 q2 c2).ownBlock) :
    (∃ u, w4.cell? ⟨w.heap.size + 1, 0, none⟩ = some u) ∧ w4.frozen? ⟨w.heap.size + 1, 0, none⟩ = false ∧ FS w (w4.setCell ⟨w.heap.size + 1, 0, none⟩ (.slice (some ⟨gx, 0, none⟩) (q2 + 1) cx)) q1 (q2 + 1) c1 cx a1 (some ⟨gx, 0, none⟩) X (Y ++ [v]) := by
  have hlo := h.lo
  have v1 := (hg.block w.heap.size (by omega) (own_ne h.A2 _ (by omega))).trans h.v1
  have v2 := (hg.block (w.heap.size + 1) (by omega) (own_ne h.A2 _ (by omega))).trans h.v2
  have hA1 : AnsZ w4 (w.heap.size + 2) a1 q1 c1 X := h.A1.kept hg (by
    cases e : (Value.slice a1 q1 c1).ownBlock with
    | none => exact .inl rfl
    | some g => exact .inr (fun e' => h.D g e e'.symm))
  have gs := grown_set w4 (w.heap.size + 1) 0 (.slice (some ⟨gx, 0, none⟩) (q2 + 1) cx)
  refine ⟨⟨_, by rw [cell_of_row w4 _ 0 _ _ _ v2]; rfl⟩, frozen_of_row w4 _ 0 _ _ v2, ⟨grown_far hG gs (fun g e => by cases e; omega), ?_, var_set w4 _ _ _ v2, hA1.kept gs (ne_own hA1 _ (by omega)), hA.kept gs (ne_own hA _ (by omega)), ?_⟩⟩
  · rw [gs.block w.heap.size (by have := (Array.getElem?_eq_some_iff.1 v1).1; exact this) (by simp)]; exact v1
  · intro g e e2
    have eg : gx = g := Option.some.inj e2
    subst eg
    rcases hgx with h' | h'
    · exact h.D gx e h'
    · have := h.A1.lt gx e; omega
theorem FS.two {w wr : World} {N c1 c2 : Nat} {a1 a2 : Option Addr} {X Y : List Int} (h : FS w wr N N c1 c2 a1 a2 X Y) : Two wr w.heap.size (w.heap.size + 1) N X Y :=
  ⟨⟨a1, c1, _, h.cell1, h.A1⟩, ⟨a2, c2, _, h.cell2, h.A2⟩⟩
/-- the lists stay where another block is written that lies behind them -/
theorem FS.later {w wr wx : World} {N c1 c2 gr : Nat} {a1 a2 : Option Addr} {X Y : List Int} (h : FS w wr N N c1 c2 a1 a2 X Y) (hg : wr.grownBy wx (some gr)) (hr : wr.heap.size ≤ gr) : Two wx w.heap.size (w.heap.size + 1) N X Y := by
  have hlo := h.lo
  refine ⟨⟨a1, c1, _, (World.cell?_of_block (w := wr) (a := ⟨w.heap.size, 0, none⟩) (hg.block w.heap.size (by omega) (by simp; omega))).trans h.cell1, h.A1.kept hg (.inr fun e => by have := h.A1.lt gr e; omega)⟩,
    ⟨a2, c2, _, (World.cell?_of_block (w := wr) (a := ⟨w.heap.size + 1, 0, none⟩) (hg.block (w.heap.size + 1) (by omega) (by simp; omega))).trans h.cell2, h.A2.kept hg (.inr fun e => by have := h.A2.lt gr e; omega)⟩⟩
theorem Two.keep {w w' : World} {g1 g2 N : Nat} {X Y : List Int} (h : Two w g1 g2 N X Y) (hg : w.grownBy w' none) : Two w' g1 g2 N X Y := by
  obtain ⟨⟨a1, c1, l1, h1, h2⟩, ⟨a2, c2, l2, h3, h4⟩⟩ := h
  refine ⟨⟨a1, c1, l1, ?_, h2.keep hg⟩, ⟨a2, c2, l2, ?_, h4.keep hg⟩⟩
  · exact (World.cell?_of_block (w := w) (a := ⟨g1, 0, none⟩) (hg.block g1 (World.block_lt_of_cell? w _ h1) (by simp))).trans h1
  · exact (World.cell?_of_block (w := w) (a := ⟨g2, 0, none⟩) (hg.block g2 (World.block_lt_of_cell? w _ h3) (by simp))).trans h3
theorem fs_new (w : World) : FS w ((w.alloc (.cells #[.slice none 0 0] 35)).alloc (.cells #[.slice none 0 0] 35)) 0 0 0 0 none none [] [] := by
  have g1 := World.grownBy_alloc w (.cells #[.slice none 0 0] 35) none
  have g2 := World.grownBy_alloc (w.alloc (.cells #[.slice none 0 0] 35)) (.cells #[.slice none 0 0] 35) none
  refine ⟨grown_trans g1 g2, ?_, ?_, ansZ_nil _ _, ansZ_nil _ _, fun g e => by simp [Value.ownBlock] at e⟩
  · rw [g2.block w.heap.size (by simp) (by simp)]; exact heap_alloc_new w _
  · have := heap_alloc_new (w.alloc (.cells #[.slice none 0 0] 35)) (.cells #[.slice none 0 0] 35)
    simpa using this
theorem Try.info_54 : (Try.prog.info? 66).map (fun i => (i.zero, i.size, i.bytes)) = some (some (.agg (ints 64 fun _ => 0)), 64, 512) := by kernel_rfl
theorem made64 (n : Nat) : madeCells (ints 64 fun _ => 0) (n * 64) = ints (n * 64) fun _ => 0 := by
  apply Array.ext_getElem?
  intro i
  by_cases hi : i < n * 64
  · rw [ints_at _ _ _ hi]
    have h4 : i % 64 < 64 := Nat.mod_lt _ (by decide)
    simp only [madeCells, Array.getElem?_map]
    rw [Array.getElem?_eq_getElem (by simp; omega)]
    simp [ints_size, ints]
    rw [List.getElem?_range h4]
    rfl
  · rw [Array.getElem?_eq_none (by simp [size_madeCells]; omega), Array.getElem?_eq_none (by simp [ints_size]; omega)]
/-- 'make([][64]int, n)' -/
theorem wpList_mkR (w : World) {ops : Array Oper} {rest : List Oper} {o : Oper} {a : Act} {Q : Exit → Act → World → Prop} (hg : o.guard = none) (l c : Operand)
    (hop : o.op = Op.makeSlice 65 l c) (n : Nat) (hl : a.eval l = .int .i64 (n : Nat)) (hc : a.eval c = .int .i64 (n : Nat)) (hn : n ≤ 20000)
    (hK : ∀ w', IRow w' w.heap.size 66 (n * 64) (fun _ => 0) → w.grownBy w' none → wpList Try.prog ops Q rest (a.put o.dst (.slice (some ⟨w.heap.size, 0, none⟩) n n)) w') :
    wpList Try.prog ops Q (o :: rest) a w := by
  obtain ⟨i0, hi, hz0, hz1, hz2⟩ := info_parts Try.info_54
  refine wpList_plain hg fun K hK' => ?_
  have h := run_makeSlice (P := Try.prog) w 65 66 i0 _ Try.underlying65 hi hz0 .i64 .i64 n n (by omega) (by omega) (by rw [hz1]; omega) (by rw [hz2]; omega) (by omega)
  rw [hz1] at h
  simp only [Int.toNat_natCast] at h
  unfold Oper.wp
  simp [execOp, hop, hl, hc, h, Result.andThen]
  refine hK' _ _ (hK _ ?_ (World.grownBy_alloc _ _ _))
  unfold IRow
  rw [heap_alloc_new]
  have := made64 n
  rw [← this]
  rfl
end Go.Proofs.Ytbgbohddkfaacaa
