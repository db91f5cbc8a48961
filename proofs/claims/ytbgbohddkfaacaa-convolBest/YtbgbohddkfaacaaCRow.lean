import Derived.Test.YtbgbohddkfaacaaCRSp
import Derived.Deep.WholeRow
import Derived.Laws.ResultCell
namespace Go.Proofs.Ytbgbohddkfaacaa
open Go.RowKit
set_option maxRecDepth 100000
set_option linter.unusedVariables false
set_option linter.unusedSimpArgs false

/-! rows of numbers -/
def ints (n : Nat) (f : Nat → Int) : Array Value := ((List.range n).map fun i => Value.int .i64 (f i)).toArray
theorem ints_size (n : Nat) (f : Nat → Int) : (ints n f).size = n := by simp [ints]
theorem ints_at (n : Nat) (f : Nat → Int) (j : Nat) (h : j < n) : (ints n f)[j]? = some (.int .i64 (f j)) := by
  simp [ints, h]
theorem ints_set (n : Nat) (f : Nat → Int) (j : Nat) (x : Int) : (ints n f).setIfInBounds j (.int .i64 x) = ints n fun i => if i = j then x else f i := by
  apply Array.ext_getElem?
  intro i
  by_cases hi : i < n
  · rw [ints_at _ _ _ hi, Array.getElem?_setIfInBounds]
    by_cases e : j = i
    · subst e; simp [ints_size, hi]
    · rw [if_neg e, ints_at _ _ _ hi, if_neg (Ne.symm e)]
  · rw [Array.getElem?_eq_none (by simp [ints_size]; omega), Array.getElem?_eq_none (by simp [ints_size]; omega)]
theorem ints_congr (n : Nat) (f g : Nat → Int) (h : ∀ i, i < n → f i = g i) : ints n f = ints n g := by
  apply Array.ext_getElem?
  intro i
  by_cases hi : i < n
  · rw [ints_at _ _ _ hi, ints_at _ _ _ hi, h i hi]
  · rw [Array.getElem?_eq_none (by simp [ints_size]; omega), Array.getElem?_eq_none (by simp [ints_size]; omega)]
theorem ints_one (n : Nat) (f : Nat → Int) : (ints n f).all (·.oneCell') = true := by
  rw [Array.all_eq_true_iff_forall_mem]
  intro v hv
  simp [ints] at hv
  obtain ⟨i, _, rfl⟩ := hv
  rfl
def IRow (w : World) (g : Nat) (ty : TypeId) (n : Nat) (f : Nat → Int) : Prop := w.heap[g]? = some (.cells (ints n f) ty)
theorem IRow.lt {w : World} {g ty n : Nat} {f : Nat → Int} (h : IRow w g ty n f) : g < w.heap.size := (Array.getElem?_eq_some_iff.1 h).1
theorem IRow.cell {w : World} {g ty n : Nat} {f : Nat → Int} (h : IRow w g ty n f) (j : Nat) (hj : j < n) : w.cell? ⟨g, j, none⟩ = some (.int .i64 (f j)) := by
  rw [cell_of_row w g j _ _ _ h]; exact ints_at n f j hj
theorem IRow.free {w : World} {g ty n : Nat} {f : Nat → Int} (h : IRow w g ty n f) (j : Nat) : w.frozen? ⟨g, j, none⟩ = false := frozen_of_row w g j _ _ h
theorem IRow.set {w : World} {g ty n : Nat} {f : Nat → Int} (h : IRow w g ty n f) (j : Nat) (x : Int) : IRow (w.setCell ⟨g, j, none⟩ (.int .i64 x)) g ty n fun i => if i = j then x else f i := by
  unfold IRow
  rw [heap_setCell_same w g j _ _ _ h, ints_set]
theorem IRow.kept {w w' : World} {g ty n : Nat} {f : Nat → Int} {o : Option Nat} (h : IRow w g ty n f) (hg : w.grownBy w' o) (hne : some g ≠ o) : IRow w' g ty n f := by
  unfold IRow; rw [hg.block g h.lt hne]; exact h
theorem IRow.keep {w w' : World} {g ty n : Nat} {f : Nat → Int} (h : IRow w g ty n f) (hg : w.grownBy w' none) : IRow w' g ty n f := h.kept hg (by simp)
theorem IRow.congr {w : World} {g ty n : Nat} {f f' : Nat → Int} (h : IRow w g ty n f) (e : ∀ i, i < n → f i = f' i) : IRow w g ty n f' := by
  unfold IRow; rw [← ints_congr n f f' e]; exact h
theorem irow_new (w : World) (ty n : Nat) (f : Nat → Int) : IRow (w.alloc (.cells (ints n f) ty)) w.heap.size ty n f := heap_alloc_new w _

theorem Try.info_64 : (Try.prog.info? 79).map (·.size) = some 64 := by kernel_rfl
theorem und_64 : ∃ e, Try.prog.underlying 79 = some (.array 64 e) := ⟨_, Try.underlying79⟩
/-- the whole row is read -/
theorem run_ld64 (w : World) (g : Nat) (f : Nat → Int) (h : IRow w g 79 64 f) : (Instr.loadAt 79 (.pointer (some ⟨g, 0, none⟩))).run Try.prog w = .ok (.agg (ints 64 f)) w := by
  simp only [Instr.loadAt, Instr.sureAddr, Sem.run_bind, Sem.run_pure, Result.andThen]
  obtain ⟨e, he⟩ := und_64
  exact run_loadVar_row w g 79 79 (ints 64 f) (0, 0) _ h he rfl (by rw [Try.info_64, ints_size])
theorem run_st64 (w : World) (g : Nat) (f f' : Nat → Int) (h : IRow w g 79 64 f) : (Instr.storeAt 79 (.pointer (some ⟨g, 0, none⟩)) (.agg (ints 64 f'))).run Try.prog w = .ok () (w.setRow g (ints 64 f')) := by
  simp only [Instr.storeAt, Instr.sureAddr, Sem.run_bind, Sem.run_pure, Result.andThen]
  exact run_storeVar_row w g 79 79 (ints 64 f) (ints 64 f') h (by rw [Try.info_64, ints_size]) (by rw [ints_size, ints_size]) (ints_one _ _)
theorem run_lv64 (w : World) (g : Nat) (f : Nat → Int) (h : IRow w g 79 64 f) : (loadVar 79 ⟨g, 0, none⟩).run Try.prog w = .ok (.agg (ints 64 f)) w := by
  obtain ⟨e, he⟩ := und_64
  exact run_loadVar_row w g 79 79 (ints 64 f) (0, 0) _ h he rfl (by rw [Try.info_64, ints_size])
theorem results_cell1 {fn : Func} {p : Tmp} {ty : TypeId} (h : fn.results = #[.cell p ty]) (tmps : Array Value) (P : Program) (w : World) (a : Addr) (v : Value) (ha : tmps.getD p undef = .pointer (some a)) (hl : (loadVar ty a).run P w = .ok v w) :
    (results fn tmps).run P w = .ok v w := by
  simp only [results, h]
  rw [Array.getD_eq_getD_getElem?] at ha
  simp [Sem.run_bind, Result.andThen]
  rw [ha]
  simp [asAddr, hl]
theorem results_cell2 {fn : Func} {p u : Tmp} {ty : TypeId} (h : fn.results = #[.cell p ty, .tmp u]) (tmps : Array Value) (P : Program) (w : World) (a : Addr) (v x : Value) (ha : tmps.getD p undef = .pointer (some a)) (hl : (loadVar ty a).run P w = .ok v w) (hx : tmps.getD u undef = x) :
    (results fn tmps).run P w = .ok (.tuple #[v, x]) w := by
  rw [results_cell_tmp h, ha]
  simp [asAddr, Result.andThen, hl, hx]
theorem wpList_ld64 (w : World) {ops : Array Oper} {rest : List Oper} {o : Oper} {a : Act} {Q : Exit → Act → World → Prop} (hg : o.guard = none) (p : Operand) (hop : o.op = Op.load 79 p)
    (g : Nat) (f : Nat → Int) (hp : a.eval p = .pointer (some ⟨g, 0, none⟩)) (h : IRow w g 79 64 f) (hK : wpList Try.prog ops Q rest (a.put o.dst (.agg (ints 64 f))) w) :
    wpList Try.prog ops Q (o :: rest) a w := by
  refine wpList_plain hg fun K hK' => ?_
  unfold Oper.wp
  simp [execOp, hop, hp, run_ld64 w g f h, Result.andThen]
  exact hK' _ _ hK
theorem wpList_st64 (w : World) {ops : Array Oper} {rest : List Oper} {o : Oper} {a : Act} {Q : Exit → Act → World → Prop} (hg : o.guard = none) (p v : Operand) (hop : o.op = Op.store 79 p v)
    (g : Nat) (f f' : Nat → Int) (hp : a.eval p = .pointer (some ⟨g, 0, none⟩)) (hv : a.eval v = .agg (ints 64 f')) (h : IRow w g 79 64 f)
    (hK : ∀ w', IRow w' g 79 64 f' → w.grownBy w' (some g) → wpList Try.prog ops Q rest (a.put o.dst undef) w') :
    wpList Try.prog ops Q (o :: rest) a w := by
  refine wpList_plain hg fun K hK' => ?_
  unfold Oper.wp
  simp [execOp, hop, hp, hv, run_st64 w g f f' h, Result.andThen]
  refine hK' _ _ (hK _ (setRow_heap w g _ _ _ _ h) ⟨rfl, rfl, rfl, by simp, fun k _ hk => setRow_other w g k _ (fun e => hk (by rw [e]))⟩)
end Go.Proofs.Ytbgbohddkfaacaa
