import Derived.Test.YtaigcjhachkmmaaDoorYZi
import Derived.Test.YtaigcjhachkmmaaDoorYBm
namespace Go.Proofs.YtaigcjhachkmmaaDoor
open Go.RowKit
set_option maxRecDepth 100000
set_option linter.unusedVariables false
set_option linter.unusedSimpArgs false

/-! arrays of numbers of whatever kind, in a box -/
def kys (k : IntKind) (n : Nat) (f : Nat → Nat) : Array Value := ((List.range n).map fun i => Value.int k (f i : Nat)).toArray
theorem kys_size (k : IntKind) (n : Nat) (f : Nat → Nat) : (kys k n f).size = n := by simp [kys]
theorem kys_at (k : IntKind) (n : Nat) (f : Nat → Nat) (j : Nat) (h : j < n) : (kys k n f)[j]? = some (.int k (f j : Nat)) := by
  simp [kys, h]
theorem kys_set (k : IntKind) (n : Nat) (f : Nat → Nat) (j x : Nat) : (kys k n f).setIfInBounds j (.int k (x : Nat)) = kys k n (updF f j x) := by
  apply Array.ext_getElem?
  intro i
  by_cases hi : i < n
  · rw [kys_at _ _ _ _ hi, Array.getElem?_setIfInBounds]
    unfold updF
    by_cases e : j = i
    · subst e; simp [kys_size, hi]
    · rw [if_neg e, kys_at _ _ _ _ hi, if_neg (Ne.symm e)]
  · rw [Array.getElem?_eq_none (by simp [kys_size]; omega), Array.getElem?_eq_none (by simp [kys_size]; omega)]
theorem kys_congr (k : IntKind) (n : Nat) (f g : Nat → Nat) (h : ∀ i, i < n → f i = g i) : kys k n f = kys k n g := by
  apply Array.ext_getElem?
  intro i
  by_cases hi : i < n
  · rw [kys_at _ _ _ _ hi, kys_at _ _ _ _ hi, h i hi]
  · rw [Array.getElem?_eq_none (by simp [kys_size]; omega), Array.getElem?_eq_none (by simp [kys_size]; omega)]
theorem kys_one (k : IntKind) (n : Nat) (f : Nat → Nat) : (kys k n f).all (·.oneCell') = true := by
  rw [Array.all_eq_true_iff_forall_mem]
  intro v hv
  simp [kys] at hv
  obtain ⟨i, _, rfl⟩ := hv
  rfl
def KRow (k : IntKind) (w : World) (g : Nat) (ty : TypeId) (n : Nat) (f : Nat → Nat) : Prop := w.heap[g]? = some (.cells (kys k n f) ty)
theorem KRow.lt {k : IntKind} {w : World} {g ty n : Nat} {f : Nat → Nat} (h : KRow k w g ty n f) : g < w.heap.size := (Array.getElem?_eq_some_iff.1 h).1
theorem KRow.cell {k : IntKind} {w : World} {g ty n : Nat} {f : Nat → Nat} (h : KRow k w g ty n f) (j : Nat) (hj : j < n) : w.cell? ⟨g, j, none⟩ = some (.int k (f j : Nat)) := by
  rw [cell_of_row w g j _ _ _ h]; exact kys_at k n f j hj
theorem KRow.free {k : IntKind} {w : World} {g ty n : Nat} {f : Nat → Nat} (h : KRow k w g ty n f) (j : Nat) : w.frozen? ⟨g, j, none⟩ = false := frozen_of_row w g j _ _ h
theorem KRow.set {k : IntKind} {w : World} {g ty n : Nat} {f : Nat → Nat} (h : KRow k w g ty n f) (j x : Nat) : KRow k (w.setCell ⟨g, j, none⟩ (.int k (x : Nat))) g ty n (updF f j x) := by
  unfold KRow
  rw [heap_setCell_same w g j _ _ _ h, kys_set]
theorem KRow.kept {k : IntKind} {w w' : World} {g ty n : Nat} {f : Nat → Nat} {o : Option Nat} (h : KRow k w g ty n f) (hg : w.grownBy w' o) (hne : some g ≠ o) : KRow k w' g ty n f := by
  unfold KRow; rw [hg.block g h.lt hne]; exact h
theorem KRow.keep {k : IntKind} {w w' : World} {g ty n : Nat} {f : Nat → Nat} (h : KRow k w g ty n f) (hg : w.grownBy w' none) : KRow k w' g ty n f := h.kept hg (by simp)
theorem KRow.congr {k : IntKind} {w : World} {g ty n : Nat} {f f' : Nat → Nat} (h : KRow k w g ty n f) (e : ∀ i, i < n → f i = f' i) : KRow k w g ty n f' := by
  unfold KRow; rw [← kys_congr k n f f' e]; exact h
theorem krow_new (k : IntKind) (w : World) (ty n : Nat) (f : Nat → Nat) : KRow k (w.alloc (.cells (kys k n f) ty)) w.heap.size ty n f := heap_alloc_new w _
/-- the whole row is read, is written -/
theorem run_ldK (k : IntKind) (w : World) (g ty n : Nat) (f : Nat → Nat) (hu : ∃ e, Tryd.prog.underlying ty = some (.array n e)) (hi : (Tryd.prog.info? ty).map (·.size) = some n) (h : KRow k w g ty n f) : (Instr.loadAt ty (.pointer (some ⟨g, 0, none⟩))).run Tryd.prog w = .ok (.agg (kys k n f)) w := by
  simp only [Instr.loadAt, Instr.sureAddr, Sem.run_bind, Sem.run_pure, Result.andThen]
  obtain ⟨e, he⟩ := hu
  exact run_loadVar_row w g ty ty (kys k n f) (0, 0) _ h he rfl (by rw [hi, kys_size])
theorem run_stK (k : IntKind) (w : World) (g ty n : Nat) (f f' : Nat → Nat) (hi : (Tryd.prog.info? ty).map (·.size) = some n) (h : KRow k w g ty n f) : (Instr.storeAt ty (.pointer (some ⟨g, 0, none⟩)) (.agg (kys k n f'))).run Tryd.prog w = .ok () (w.setRow g (kys k n f')) := by
  simp only [Instr.storeAt, Instr.sureAddr, Sem.run_bind, Sem.run_pure, Result.andThen]
  exact run_storeVar_row w g ty ty (kys k n f) (kys k n f') h (by rw [hi, kys_size]) (by rw [kys_size, kys_size]) (kys_one _ _ _)
theorem run_lvK (k : IntKind) (w : World) (g ty n : Nat) (f : Nat → Nat) (hu : ∃ e, Tryd.prog.underlying ty = some (.array n e)) (hi : (Tryd.prog.info? ty).map (·.size) = some n) (h : KRow k w g ty n f) : (loadVar ty ⟨g, 0, none⟩).run Tryd.prog w = .ok (.agg (kys k n f)) w := by
  obtain ⟨e, he⟩ := hu
  exact run_loadVar_row w g ty ty (kys k n f) (0, 0) _ h he rfl (by rw [hi, kys_size])
theorem results_cell1 {fn : Func} {p : Tmp} {ty : TypeId} (h : fn.results = #[.cell p ty]) (tmps : Array Value) (P : Program) (w : World) (a : Addr) (v : Value) (ha : tmps.getD p undef = .pointer (some a)) (hl : (loadVar ty a).run P w = .ok v w) :
    (results fn tmps).run P w = .ok v w := by
  simp only [results, h]
  rw [Array.getD_eq_getD_getElem?] at ha
  simp [Sem.run_bind, Result.andThen]
  rw [ha]
  simp [asAddr, hl]
theorem wpList_ldK (k : IntKind) (w : World) {ops : Array Oper} {rest : List Oper} {o : Oper} {a : Act} {Q : Exit → Act → World → Prop} (hg : o.guard = none) (p : Operand) (ty n : Nat) (hop : o.op = Op.load ty p)
    (hu : ∃ e, Tryd.prog.underlying ty = some (.array n e)) (hi : (Tryd.prog.info? ty).map (·.size) = some n)
    (g : Nat) (f : Nat → Nat) (hp : a.eval p = .pointer (some ⟨g, 0, none⟩)) (h : KRow k w g ty n f) (hK : wpList Tryd.prog ops Q rest (a.put o.dst (.agg (kys k n f))) w) :
    wpList Tryd.prog ops Q (o :: rest) a w := by
  refine wpList_plain hg fun K hK' => ?_
  unfold Oper.wp
  simp [execOp, hop, hp, run_ldK k w g ty n f hu hi h, Result.andThen]
  exact hK' _ _ hK
theorem wpList_stK (k : IntKind) (w : World) {ops : Array Oper} {rest : List Oper} {o : Oper} {a : Act} {Q : Exit → Act → World → Prop} (hg : o.guard = none) (p v : Operand) (ty n : Nat) (hop : o.op = Op.store ty p v)
    (hi : (Tryd.prog.info? ty).map (·.size) = some n)
    (g : Nat) (f f' : Nat → Nat) (hp : a.eval p = .pointer (some ⟨g, 0, none⟩)) (hv : a.eval v = .agg (kys k n f')) (h : KRow k w g ty n f)
    (hK : ∀ w', KRow k w' g ty n f' → w.grownBy w' (some g) → wpList Tryd.prog ops Q rest (a.put o.dst undef) w') :
    wpList Tryd.prog ops Q (o :: rest) a w := by
  refine wpList_plain hg fun K hK' => ?_
  unfold Oper.wp
  simp [execOp, hop, hp, hv, run_stK k w g ty n f f' hi h, Result.andThen]
  refine hK' _ _ (hK _ (setRow_heap w g _ _ _ _ h) ⟨rfl, rfl, rfl, by simp, fun k _ hk => setRow_other w g k _ (fun e => hk (by rw [e]))⟩)
end Go.Proofs.YtaigcjhachkmmaaDoor
