import Derived.Laws.BitsAllLaws
import Derived.Test.YtnimehkfnpepfaaTk0
import Derived.Deep.RegionLawGrows
import Derived.Laws.Rows
import Derived.Laws.Tables
import Derived.Test.YtnimehkfnpepfaaRows
import Derived.OpenShut
import Derived.SizedLaws
import Derived.Deep.Slices
namespace Go.Proofs.Ytnimehkfnpepfaa
open Go.RowKit
set_option maxRecDepth 100000
set_option linter.unusedVariables false
set_option linter.unusedSimpArgs false

section
theorem wrapU (x : Int) : IntKind.u64.wrap x = x % 18446744073709551616 := by simp [IntKind.wrap, IntKind.bits, IntKind.signed]
end

section
theorem xor4KxTm : ∀ a b c d : Nat, a < 2 → b < 2 → c < 2 → d < 2 → ((a ^^^ b) ^^^ c) ^^^ d = (a + b + c + d) % 2 := by
  intro a b c d ha hb hc hd
  have e : ∀ a, a < 2 → ∀ b, b < 2 → ∀ c, c < 2 → ∀ d, d < 2 → ((a ^^^ b) ^^^ c) ^^^ d = (a + b + c + d) % 2 := by decide
  exact e a ha b hb c hc d hd

/-! the program's row -/
/-! lists that are told by their places -/
def tab (n : Nat) (f : Nat → Nat) : List Nat := (List.range n).map f
/-- the block that an answer may be written into: the one that it had at first, or a new one -/
def Mine (w0 : World) (r : Option Nat) (ao : Option Addr) (m co : Nat) : Prop := ∀ g, (Value.slice ao m co).ownBlock = some g → r = some g ∨ w0.heap.size ≤ g
theorem step_append_fits {P : Program} {ops : Array Oper} {o : Oper} {a : Act} {w : World} {K : Act → World → Prop} {Q : Exit → Act → World → Prop} {E : Prop}
    (hg : o.guard = none) (s x : Operand) (t : TypeId) (hop : o.op = Op.call { callee := Callee.builtin Builtin.append, args := #[s, x], argTypes := #[t, t] })
    (base : Nat) (e : TypeId) (i : TypeInfo) (size : Nat) (h1 : P.underlying t = some (.slice e)) (h2 : P.info? e = some i) (h4 : i.size = size)
    (g k cap : Nat) (xs : List Value) (hs : a.eval s = .slice (some ⟨g, 0, none⟩) k cap) (hown : w.ownsRow base e size (.slice (some ⟨g, 0, none⟩) k cap) k xs) (ad : Addr) (m c : Nat) (news : List Value) (hx : a.eval x = .slice (some ad) m c) (hn : news.length = m * size)
    (hc : ∀ j u, news[j]? = some u → w.cell? (ad.add j) = some u) (h1c : ∀ u ∈ news, u.oneCell' = true) (b1 : k + m ≤ cap)
    (hK : ∀ w', w'.ownsRow base e size (.slice (some ⟨g, 0, none⟩) (k + m) cap) (k + m) (xs ++ news) → w.grownBy w' (some g) → K (a.put o.dst (.slice (some ⟨g, 0, none⟩) (k + m) cap)) w') :
    if Region.wanted o (yielded ops a.tmps) = true then Oper.wp P o a w K Q else E := by
  have hw : Region.wanted o (yielded ops a.tmps) = true := by simp [Region.wanted, hg]
  rw [if_pos hw]
  obtain ⟨w', hrun, r1, r2⟩ := run_append_fits (P := P) w base t o.type e i size h1 h2 h4 g k cap xs hown ad m c news hn hc h1c b1
  unfold Oper.wp
  simp [execOp, hop, resolve, invoke, builtin, hs, hx, hrun, Result.andThen]
  exact hK w' r1 r2
theorem bys_app (A B : List Nat) : bys A ++ bys B = bys (A ++ B) := by simp [bys]
end

section
/-- the head of a packet, as a number and as bytes -/
def hd1 (u s : Nat) : Nat := u * 2 + s
end

section
/-- a value of several cells in a box -/
def BxS (w : World) (g : Nat) (t : TypeId) (cs : Array Value) : Prop := w.heap[g]? = some (.cells cs t)
theorem BxS.lt {w : World} {g : Nat} {t : TypeId} {cs : Array Value} (h : BxS w g t cs) : g < w.heap.size := (Array.getElem?_eq_some_iff.1 h).1
theorem BxS.free {w : World} {g : Nat} {t : TypeId} {cs : Array Value} (h : BxS w g t cs) (i : Nat) : w.frozen? ⟨g, i, none⟩ = false := frozen_of_row w g i _ _ h
theorem BxS.cell {w : World} {g : Nat} {t : TypeId} {cs : Array Value} (h : BxS w g t cs) (i : Nat) (hi : i < cs.size) : w.cell? ⟨g, i, none⟩ = some cs[i] := by
  rw [cell_of_row w g i cs t (0, 0) h, Array.getElem?_eq_getElem hi]
theorem BxS.keep {w w' : World} {g : Nat} {t : TypeId} {cs : Array Value} {r : Option Nat} (h : BxS w g t cs) (hg : w.grownBy w' r) (hne : some g ≠ r) : BxS w' g t cs := (hg.block g h.lt hne).trans h
theorem BxS.new (w : World) (t : TypeId) (cs : Array Value) : BxS (w.alloc (.cells cs t)) w.heap.size t cs := heap_alloc_new w _
theorem BxS.set {w : World} {g : Nat} {t : TypeId} {cs : Array Value} (h : BxS w g t cs) (i : Nat) (v : Value) : BxS (w.setCell ⟨g, i, none⟩ v) g t (cs.set! i v) := by
  unfold BxS
  rw [setCell_eq_setRow w g i _ _ _ _ h]
  exact setRow_heap w g _ _ _ _ h
theorem BxS.row {w : World} {g : Nat} {t : TypeId} {cs : Array Value} (h : BxS w g t cs) (ds : Array Value) : BxS (w.setRow g ds) g t ds := setRow_heap w g _ _ _ _ h
theorem BxS.load {w : World} {g : Nat} {t : TypeId} {cs : Array Value} (h : BxS w g t cs) {fs : Array Field} (hu : Try.prog.underlying t = some (.struct fs)) (hi : (Try.prog.info? t).map (·.size) = some cs.size) :
    (loadVar t ⟨g, 0, none⟩).run Try.prog w = .ok (.agg cs) w := run_loadVar_row w g t t cs (0, 0) (.struct fs) h hu rfl hi
theorem results_cell1t {fn : Func} {p u : Tmp} {ty : TypeId} (h : fn.results = #[.cell p ty, .tmp u]) (tmps : Array Value) (P : Program) (w : World) (a : Addr) (v y : Value) (ha : tmps.getD p undef = .pointer (some a)) (hl : (loadVar ty a).run P w = .ok v w) (hy : tmps.getD u undef = y) :
    (results fn tmps).run P w = .ok (.tuple #[v, y]) w := by
  simp only [results, h]
  rw [Array.getD_eq_getD_getElem?] at ha hy
  simp [Sem.run_bind, Result.andThen]
  rw [ha]
  simp [asAddr, hl, hy]
/-- a whole value is stored into a box -/
theorem wpList_stX (w : World) {ops : Array Oper} {rest : List Oper} {o : Oper} {a : Act} {Q : Exit → Act → World → Prop} (hg : o.guard = none) (t : TypeId) (p v : Operand) (hop : o.op = Op.store t p v)
    (g : Nat) (cs ds : Array Value) (hp : a.eval p = .pointer (some ⟨g, 0, none⟩)) (hv : a.eval v = .agg ds) (h : BxS w g t cs) (hi : (Try.prog.info? t).map (·.size) = some ds.size) (ho : cs.size = ds.size) (h1 : ds.all (·.oneCell') = true)
    (hK : ∀ w', BxS w' g t ds → w.grownBy w' (some g) → wpList Try.prog ops Q rest (a.put o.dst undef) w') :
    wpList Try.prog ops Q (o :: rest) a w := by
  refine wpList_plain hg fun K hK' => ?_
  have hst : (Instr.storeAt t (.pointer (some ⟨g, 0, none⟩)) (.agg ds)).run Try.prog w = .ok () (w.setRow g ds) := by
    simp only [Instr.storeAt, Instr.sureAddr, Sem.run_bind, Sem.run_pure, Result.andThen]
    exact run_storeVar_row w g t t cs ds h hi ho h1
  unfold Oper.wp
  simp [execOp, hop, hp, hv, hst, Result.andThen]
  exact hK' _ _ (hK _ (h.row ds) ⟨rfl, rfl, rfl, by simp, fun k _ hk => setRow_other w g k _ (fun e => hk (by rw [e]))⟩)
/-- a whole value is loaded out of a box -/
theorem wpList_ldX (w : World) {ops : Array Oper} {rest : List Oper} {o : Oper} {a : Act} {Q : Exit → Act → World → Prop} (hg : o.guard = none) (t : TypeId) (p : Operand) (hop : o.op = Op.load t p)
    (g : Nat) (cs : Array Value) (hp : a.eval p = .pointer (some ⟨g, 0, none⟩)) (h : BxS w g t cs) {fs : Array Field} (hu : Try.prog.underlying t = some (.struct fs)) (hi : (Try.prog.info? t).map (·.size) = some cs.size)
    (hK : wpList Try.prog ops Q rest (a.put o.dst (.agg cs)) w) :
    wpList Try.prog ops Q (o :: rest) a w := by
  refine wpList_plain hg fun K hK' => ?_
  have hld : (Instr.loadAt t (.pointer (some ⟨g, 0, none⟩))).run Try.prog w = .ok (.agg cs) w := by
    simp only [Instr.loadAt, Instr.sureAddr, Sem.run_bind, Sem.run_pure, Result.andThen]
    exact h.load hu hi
  unfold Oper.wp
  simp [execOp, hop, hp, hld, Result.andThen]
  exact hK' _ _ hK
/-- one cell of a box is written -/
theorem wpList_stC (w : World) {ops : Array Oper} {rest : List Oper} {o : Oper} {a : Act} {Q : Exit → Act → World → Prop} (hg : o.guard = none) (t : TypeId) (p x : Operand) (hop : o.op = Op.store t p x)
    (g i : Nat) (ty : TypeId) (A A' : Array Value) (v : Value) (hp : a.eval p = .pointer (some ⟨g, i, none⟩)) (hx : a.eval x = v) (hB : BxS w g ty A)
    (hst : ∀ w' : World, (∃ u, w'.cell? ⟨g, i, none⟩ = some u) → w'.frozen? ⟨g, i, none⟩ = false → (Instr.storeAt t (.pointer (some ⟨g, i, none⟩)) v).run Try.prog w' = .ok () (w'.setCell ⟨g, i, none⟩ v)) (hi : i < A.size) (hA : A.setIfInBounds i v = A')
    (hK : ∀ w', BxS w' g ty A' → w.grownBy w' (some g) → wpList Try.prog ops Q rest (a.put o.dst undef) w') :
    wpList Try.prog ops Q (o :: rest) a w := by
  refine wpList_plain hg fun K hK' => ?_
  have hc : ∃ u, w.cell? ⟨g, i, none⟩ = some u := ⟨A[i], by rw [cell_of_row w g i _ _ _ hB]; simp [hi]⟩
  have hf := frozen_of_row w g i _ _ hB
  unfold Oper.wp
  simp [execOp, hop, hp, hx, hst w hc hf, Result.andThen]
  exact hK' _ _ (hK _ (by unfold BxS; rw [heap_setCell_same w g i _ _ _ hB, hA]) (grown_set w g i v))
theorem stc_int (g i : Nat) (n : Int) (w : World) (hc : ∃ u, w.cell? ⟨g, i, none⟩ = some u) (hf : w.frozen? ⟨g, i, none⟩ = false) : (Instr.storeAt 3 (.pointer (some ⟨g, i, none⟩)) (.int .i64 n)).run Try.prog w = .ok () (w.setCell ⟨g, i, none⟩ (.int .i64 n)) := by
  obtain ⟨u, hc⟩ := hc
  simp [go_sem, hc, hf]
theorem stc_sl (g i : Nat) (p : Option Addr) (l c : Nat) (w : World) (hc : ∃ u, w.cell? ⟨g, i, none⟩ = some u) (hf : w.frozen? ⟨g, i, none⟩ = false) : (Instr.storeAt 23 (.pointer (some ⟨g, i, none⟩)) (.slice p l c)).run Try.prog w = .ok () (w.setCell ⟨g, i, none⟩ (.slice p l c)) := by
  obtain ⟨u, hc⟩ := hc
  simp [go_sem, hc, hf]
end

section
/-! the sum of bytes, bit by bit -/
def crS (s b : Nat) : Nat := (s * 2 % 65536) ^^^ ((b ^^^ s / 32768) * 4129)
def crB (B : List Nat) (i : Nat) : Nat := nth B (i / 8) / 2 ^ (7 - i % 8) % 2
def crN (B : List Nat) : Nat → Nat
  | 0 => 65535
  | i + 1 => crS (crN B i) (crB B i)
def sumB (B : List Nat) : Nat := crN B (8 * B.length)
theorem xor_bit {a b : Nat} (ha : a < 2) (hb : b < 2) : a ^^^ b < 2 := by
  obtain (rfl | rfl) : a = 0 ∨ a = 1 := by omega
  all_goals obtain (rfl | rfl) : b = 0 ∨ b = 1 := by omega
  all_goals decide
theorem xor_16 {a b : Nat} (ha : a < 65536) (hb : b < 65536) : a ^^^ b < 65536 := Nat.xor_lt_two_pow (n := 16) ha hb
theorem crS_lt (s b : Nat) (hs : s < 65536) (hb : b < 2) : crS s b < 65536 := by
  have h := xor_bit hb (show s / 32768 < 2 by omega)
  exact xor_16 (Nat.mod_lt _ (by decide)) (by omega)
theorem crB_lt (B : List Nat) (i : Nat) : crB B i < 2 := Nat.mod_lt _ (by decide)
theorem crN_lt (B : List Nat) (i : Nat) : crN B i < 65536 := by
  induction i with
  | zero => exact (by decide : (65535 : Nat) < 65536)
  | succ i ih => exact crS_lt _ _ ih (crB_lt _ _)
/-- the register with what is left of a byte -/
def crP (p : Nat) : Nat := (p * 2 % 65536) ^^^ (p / 32768 * 4129)
theorem dbl_xorKxNs (a b : Nat) : (a ^^^ b) * 2 % 65536 = (a * 2 % 65536) ^^^ (b * 2 % 65536) := by
  have e : ∀ x : Nat, x * 2 % 65536 = (x <<< 1) % 2 ^ 16 := fun x => by rw [Nat.shiftLeft_eq]
  rw [e, e, e, Nat.shiftLeft_xor_distrib, Nat.xor_mod_two_pow]
theorem top_xor (a b : Nat) : (a ^^^ b) / 32768 = (a / 32768) ^^^ (b / 32768) := by
  have e : ∀ x : Nat, x / 32768 = x >>> 15 := fun x => by rw [Nat.shiftRight_eq_div_pow]
  rw [e, e, e, Nat.shiftRight_xor_distrib]
theorem crP_xor (s y : Nat) (hs : s < 65536) (hy : y < 65536) : crP (s ^^^ y) = crS s (y / 32768) ^^^ (y * 2 % 65536) := by
  unfold crP crS
  rw [dbl_xorKxNs, top_xor, Nat.xor_comm (y / 32768) (s / 32768)]
  ac_rfl
theorem bits_left (x j : Nat) (hx : x < 256) (hj : j < 8) : x * 2 ^ (8 + j) % 65536 / 32768 = x / 2 ^ (7 - j) % 2 := by
  obtain (rfl | rfl | rfl | rfl | rfl | rfl | rfl | rfl) : j = 0 ∨ j = 1 ∨ j = 2 ∨ j = 3 ∨ j = 4 ∨ j = 5 ∨ j = 6 ∨ j = 7 := by omega
  all_goals simp only [Nat.reduceAdd, Nat.reduceSub, Nat.reducePow]
  all_goals omega
/-- what the program's register holds behind j bits of byte k -/
def crR (B : List Nat) (k j : Nat) : Nat := crN B (8 * k + j) ^^^ (nth B k * 2 ^ (8 + j) % 65536)
theorem crR_lt (B : List Nat) (k j : Nat) : crR B k j < 65536 := xor_16 (crN_lt _ _) (Nat.mod_lt _ (by decide))
theorem crR_step (B : List Nat) (k j : Nat) (hB : nth B k < 256) (hj : j < 8) : crP (crR B k j) = crR B k (j + 1) := by
  unfold crR
  rw [crP_xor _ _ (crN_lt _ _) (Nat.mod_lt _ (by decide)), bits_left _ _ hB hj]
  show _ = crN B (8 * k + j + 1) ^^^ _
  have e1 : crB B (8 * k + j) = nth B k / 2 ^ (7 - j) % 2 := by unfold crB; rw [show (8 * k + j) / 8 = k by omega, show (8 * k + j) % 8 = j by omega]
  show _ = crS (crN B (8 * k + j)) (crB B (8 * k + j)) ^^^ _
  rw [e1]
  congr 1
  rw [show 8 + (j + 1) = (8 + j) + 1 by omega, Nat.pow_succ, ← Nat.mul_assoc, Nat.mod_mul_mod]
theorem crR_end (B : List Nat) (k : Nat) : crR B k 8 = crN B (8 * (k + 1)) := by
  unfold crR
  rw [show nth B k * 2 ^ (8 + 8) % 65536 = 0 by rw [show (2 : Nat) ^ (8 + 8) = 65536 from rfl]; exact Nat.mul_mod_left _ _, Nat.xor_zero]
  rfl
theorem crR_zero (B : List Nat) (k : Nat) (hB : nth B k < 256) : crR B k 0 = crN B (8 * k) ^^^ (nth B k * 256) := by
  unfold crR
  rw [show (2 : Nat) ^ (8 + 0) = 256 from rfl, Nat.mod_eq_of_lt (by omega)]
  rfl
/-- bytes that lie in the call's own memory, told by a box -/
structure Row (wb w : World) (g : Nat) (a : Option Addr) (m c : Nat) (D : List Nat) : Prop where
  box : BxS w g 23 #[.slice a m c]
  ans : Ans w wb.heap.size a m c D
  far : (Value.slice a m c).ownBlock ≠ some g
  new : wb.heap.size ≤ g
  grown : wb.grownBy w none
theorem Row.push {wb wr w2 : World} {g m m' c1 cx gx : Nat} {a1 : Option Addr} {D E : List Nat} (h : Row wb wr g a1 m c1 D) (hA2 : Ans w2 wb.heap.size (some ⟨gx, 0, none⟩) m' cx E) (hG2 : wr.grownBy w2 (Value.slice a1 m c1).ownBlock)
    (hM2 : Mine wr (Value.slice a1 m c1).ownBlock (some ⟨gx, 0, none⟩) m' cx) : Row wb (w2.setCell ⟨g, 0, none⟩ (.slice (some ⟨gx, 0, none⟩) m' cx)) g (some ⟨gx, 0, none⟩) m' cx E := by
  have hb2 := h.box.keep hG2 (Ne.symm h.far)
  have hfar : (Value.slice (some ⟨gx, 0, none⟩) m' cx).ownBlock ≠ some g := by
    intro e
    rcases hM2 g e with h1 | h1
    · exact h.far h1
    · have := h.box.lt; omega
  exact ⟨hb2.set 0 _, hA2.kept (grown_set _ _ _ _) (.inr hfar), hfar, h.new, grown_far (grown_far h.grown hG2 (fun q e => h.ans.new q e)) (grown_set _ _ _ _) (fun q e => by cases e; exact h.new)⟩
end

section
open Go.ChangeShapes Go.WideShapes

/-- a type's shape, as a reading goes through it: fields in a row (a struct, an array), slices, numbers; mt: what a reading tells of cells; n: how much is read -/
structure Sh where
  agg : Bool
  mt : World → Bool → List Value → Nat → Prop
def sumN (F : Nat → Nat) : Nat → Nat
  | 0 => 0
  | n + 1 => sumN F n + F n
def Sh.met (w : World) (full : Bool) (s : Sh) (cs : List Value) (n : Nat) : Prop := s.mt w full cs n
def Sh.bool : Sh := ⟨false, fun w full cs n => n = 1 ∧ ∃ b, cs = [.bool b]⟩
def Sh.int (k : IntKind) : Sh := ⟨false, fun w full cs n => n = 1 ∧ ∃ z, cs = [.int k z] ∧ (Lit.int k z).wf = true⟩
def Sh.str : Sh := ⟨false, fun w full cs n => ∃ s : ByteArray, cs = [.string s] ∧ n = s.size + 1 ∧ s.size ≤ maxLen ∧ (full = true → s.size ≤ reachBytes)⟩
def Sh.slice (c b : Nat) (e : Sh) : Sh := ⟨false, fun w full cs n => (n = 1 ∧ cs = [.slice none 0 0]) ∨
      ∃ (a : Addr) (len cap : Nat) (F : Nat → Nat) (C : Nat → List Value), cs = [.slice (some a) len cap] ∧ n = sumN F cap + 1 ∧ len ≤ cap ∧ cap ≤ maxLen ∧ (full = true → cap * b ≤ reachBytes) ∧
        ∀ i, i < cap → (C i).length = c ∧ (∀ j, j < c → w.cell? (a.add (i * c + j)) = (C i)[j]?) ∧ e.mt w full (C i) (F i)⟩
def Sh.fend : Sh := ⟨true, fun w full cs n => cs = [] ∧ n = 1⟩
def Sh.fcons (c : Nat) (s r : Sh) : Sh := ⟨true, fun w full cs n => ∃ n1 n2, n = n1 + n2 ∧ s.mt w full (cs.take c) n1 ∧ r.mt w full (cs.drop c) n2⟩
def Sh.rep (c : Nat) (s : Sh) : Nat → Sh
  | 0 => .fend
  | n + 1 => .fcons c s (Sh.rep c s n)
def fieldsOf (P : Program) (g : TypeId → Option Sh) (top : Nat) : Nat → List Field → Option Sh
  | off, [] => if off = top then some .fend else none
  | off, f :: r => if f.offset = off then (g f.type).bind fun s => (fieldsOf P g top (off + P.cellsOf f.type) r).map fun q => .fcons (P.cellsOf f.type) s q else none
def shapeOf (P : Program) : Nat → TypeId → Option Sh
  | 0, _ => none
  | f + 1, t => match P.underlying t with
    | some .bool => some .bool
    | some (.int k) => some (.int k)
    | some .string => some .str
    | some (.slice e) => (shapeOf P f e).map fun s => .slice (P.cellsOf e) (P.bytesOf e) s
    | some (.struct fs) => fieldsOf P (shapeOf P f) (P.cellsOf t) 0 fs.toList
    | some (.array n e) => if P.cellsOf t = n * P.cellsOf e then (shapeOf P f e).map fun s => Sh.rep (P.cellsOf e) s n else none
    | _ => none
section
variable {H : Type} {enc : TypeId × Value → H} {P : Program} {w : World} {full : Bool}
theorem bulkAll_append (l r : List (DataW H)) : Rows.uptoBulkAll (l ++ r) = Rows.uptoBulkAll l + Rows.uptoBulkAll r := by
  induction l with
  | nil => simp [Rows.uptoBulkAll]
  | cons d l ih => simp only [List.cons_append, Rows.uptoBulkAll, ih]; omega
theorem bulkAll_range (D : Nat → DataW H) (n : Nat) : Rows.uptoBulkAll ((List.range n).map D) = sumN (fun i => Rows.uptoBulk (D i)) n := by
  induction n with
  | zero => rfl
  | succ n ih => rw [List.range_succ, List.map_append, bulkAll_append, ih]; simp [sumN, Rows.uptoBulkAll]
theorem weights_all {e : TypeId} {n : Nat} {d : DataW H} (hn : n ∈ d.weights P e) : ∀ {l : List (DataW H)}, d ∈ l → n ∈ DataW.weightsAll P e l
  | [], h => by cases h
  | x :: l, h => by
    simp only [DataW.weightsAll, List.mem_append]
    rcases List.mem_cons.1 h with rfl | h
    · exact .inl hn
    · exact .inr (weights_all hn h)
theorem fields_met {g : TypeId → Option Sh} {cs : List Value} {m : Nat}
    (hg : ∀ t s, g t = some s → ∀ cs' d ps, DataW.trod enc P w 0 (fun _ => true) true m t cs' = some (d, ps) → (full = true → ∀ n ∈ d.weights P t, n ≤ reachBytes) → s.met w full cs' (Rows.uptoBulk d)) :
    ∀ (fl : List Field) (off : Nat) (s : Sh) (xs : List (DataW H × List MemPlace)), fieldsOf P g cs.length off fl = some s → xs.length = fl.length →
      (∀ (i : Nat) (f : Field), fl[i]? = some f → DataW.trod enc P w 0 (fun _ => true) true m f.type ((cs.drop f.offset).take (P.cellsOf f.type)) = xs[i]?) →
      (full = true → ∀ n ∈ DataW.weightsEach P (fl.map (·.type)) (xs.map (·.1)), n ≤ reachBytes) → s.met w full (cs.drop off) (Rows.uptoBulkAll (xs.map (·.1)) + 1)
  | [], off, s, xs, hs, hl, hx, hw => by
    unfold fieldsOf at hs
    split at hs
    · rename_i ho
      obtain rfl : xs = [] := List.eq_nil_of_length_eq_zero hl
      cases hs
      exact ⟨by simp [ho], rfl⟩
    · cases hs
  | f :: r, off, s, [], hs, hl, hx, hw => by simp at hl
  | f :: r, off, s, x :: xs, hs, hl, hx, hw => by
    unfold fieldsOf at hs
    split at hs
    case isFalse => cases hs
    rename_i ho
    obtain ⟨s1, h1, h2⟩ := Option.bind_eq_some_iff.1 hs
    obtain ⟨q, h3, rfl⟩ := Option.map_eq_some_iff.1 h2
    have k0 := hx 0 f rfl
    refine ⟨Rows.uptoBulk x.1, Rows.uptoBulkAll (xs.map (·.1)) + 1, ?_, ?_, ?_⟩
    · simp only [List.map_cons, Rows.uptoBulkAll]; omega
    · rw [ho] at k0
      refine hg f.type s1 h1 _ x.1 x.2 k0 fun hf n hn => hw hf n ?_
      simp only [List.map_cons, DataW.weightsEach, List.mem_append]
      exact .inl hn
    · have := fields_met hg r (off + P.cellsOf f.type) q xs h3 (by simpa using hl) (fun i f' hf => hx (i + 1) f' hf) (fun hf n hn => hw hf n (by
        simp only [List.map_cons, DataW.weightsEach, List.mem_append]; exact .inr hn))
      rw [List.drop_drop]
      exact this
theorem rep_met {c : Nat} {s : Sh} {cs : List Value} {m : Nat} {e : TypeId}
    (hg : ∀ cs' d ps, DataW.trod enc P w 0 (fun _ => true) true m e cs' = some (d, ps) → (full = true → ∀ n ∈ d.weights P e, n ≤ reachBytes) → s.met w full cs' (Rows.uptoBulk d)) :
    ∀ (k i0 : Nat) (xs : List (DataW H × List MemPlace)), cs.length = (i0 + k) * c → xs.length = k →
      (∀ i, i < k → DataW.trod enc P w 0 (fun _ => true) true m e ((cs.drop ((i0 + i) * c)).take c) = xs[i]?) →
      (full = true → ∀ n ∈ DataW.weightsAll P e (xs.map (·.1)), n ≤ reachBytes) → (Sh.rep c s k).met w full (cs.drop (i0 * c)) (Rows.uptoBulkAll (xs.map (·.1)) + 1)
  | 0, i0, xs, hc, hl, hx, hw => by
    obtain rfl : xs = [] := List.eq_nil_of_length_eq_zero hl
    exact ⟨by simp [hc], rfl⟩
  | k + 1, i0, [], hc, hl, hx, hw => by simp at hl
  | k + 1, i0, x :: xs, hc, hl, hx, hw => by
    refine ⟨Rows.uptoBulk x.1, Rows.uptoBulkAll (xs.map (·.1)) + 1, ?_, ?_, ?_⟩
    · simp only [List.map_cons, Rows.uptoBulkAll]; omega
    · refine hg _ x.1 x.2 (hx 0 (by omega)) fun hf n hn => hw hf n ?_
      simp only [List.map_cons, DataW.weightsAll, List.mem_append]
      exact .inl hn
    · have := rep_met hg k (i0 + 1) xs (by rw [hc]; congr 1; omega) (by simpa using hl) (fun i hi => by
        have := hx (i + 1) (by omega)
        rw [show i0 + (i + 1) = i0 + 1 + i by omega] at this
        simpa using this) (fun hf n hn => hw hf n (by
        simp only [List.map_cons, DataW.weightsAll, List.mem_append]; exact .inr hn))
      rw [List.drop_drop]
      rw [show i0 * c + c = (i0 + 1) * c by rw [Nat.add_mul]; omega]
      exact this
theorem met_of_trod : ∀ (f : Nat) (t : TypeId) (s : Sh), shapeOf P f t = some s → ∀ (fuel : Nat) (cs : List Value) (d : DataW H) (ps : List MemPlace),
    DataW.trod enc P w 0 (fun _ => true) true fuel t cs = some (d, ps) → (full = true → ∀ n ∈ d.weights P t, n ≤ reachBytes) → s.met w full cs (Rows.uptoBulk d)
  | 0, t, s, hs, _, _, _, _, _, _ => by cases hs
  | f + 1, t, s, hs, fuel, cs, d, ps, h, hw => by
    unfold shapeOf at hs
    split at hs
    · rename_i hu
      cases hs
      obtain ⟨b, rfl, hx⟩ := DataW.trod_bool hu h
      cases hx
      exact ⟨rfl, b, rfl⟩
    · rename_i k hu
      cases hs
      obtain ⟨z, rfl, hx, hz⟩ := DataW.trod_int hu h
      cases hx
      exact ⟨rfl, z, rfl, hz⟩
    · rename_i hu
      cases hs
      obtain ⟨b, rfl, hx, hz⟩ := DataW.trod_string hu h
      cases hx
      have hb : b.data.toList.length = b.size := Array.length_toList
      refine ⟨b, rfl, by simp only [Rows.uptoBulk]; rw [hb], hz, fun hf => ?_⟩
      have := hw hf b.data.toList.length (by simp only [DataW.weights]; exact List.mem_singleton.2 rfl)
      rw [hb] at this
      exact this
    · rename_i e hu
      obtain ⟨s1, h1, rfl⟩ := Option.map_eq_some_iff.1 hs
      rcases Go.Deep.open_slice hu h with ⟨rfl, hx⟩ | ⟨a, len, cap, m, n, D, Pl, rfl, _, hl, hm, hmm, hx, hel⟩
      · cases hx
        exact .inl ⟨by simp [Rows.uptoBulk], rfl⟩
      · simp only [if_true] at hmm
        subst hmm
        cases hx
        have hall : (List.range len).map D ++ (List.range (m - len)).map (fun j => D (len + j)) = (List.range m).map D := by
          have e1 : m = len + (m - len) := by omega
          conv => rhs; rw [e1, List.range_add]
          simp [List.map_append, Function.comp_def]
        have hD : ∀ i, i < m → D i ∈ (List.range len).map D ∨ D i ∈ (List.range (m - len)).map (fun j => D (len + j)) := by
          intro i hi
          have : D i ∈ (List.range m).map D := List.mem_map.2 ⟨i, List.mem_range.2 hi, rfl⟩
          rw [← hall] at this
          exact List.mem_append.1 this
        have each : ∀ i, i < m → ∃ c : List Value, c.length = P.cellsOf e ∧ (∀ j, j < P.cellsOf e → w.cell? (a.add (i * P.cellsOf e + j)) = c[j]?) ∧ s1.met w full c (Rows.uptoBulk (D i)) := by
          intro i hi
          obtain ⟨c, g1, g2⟩ := hel i hi
          obtain ⟨_, g3, g4⟩ := World.cells?_some g1
          refine ⟨c, g3, fun j hj => ?_, met_of_trod f e s1 h1 n c (D i) (Pl i) g2 fun hf k hk => hw hf k ?_⟩
          · rw [← g4 j hj, Go.Deep.add_add]
          · simp only [DataW.weights, hu, List.mem_cons, List.mem_append]
            rcases hD i hi with q | q
            · exact .inr (.inl (weights_all hk q))
            · exact .inr (.inr (weights_all hk q))
        obtain ⟨C, hC⟩ := Go.Deep.choose_lt each
        refine .inr ⟨a, len, m, fun i => Rows.uptoBulk (D i), C, rfl, ?_, hl, hm, fun hf => ?_, hC⟩
        · simp only [Rows.uptoBulk]
          rw [← bulkAll_append, hall, bulkAll_range]
        · have := hw hf ((((List.range len).map D).length + ((List.range (m - len)).map (fun j => D (len + j))).length) * P.bytesOf e) (by
            simp only [DataW.weights, hu]; exact List.mem_cons_self)
          simp only [List.length_map, List.length_range] at this
          rw [show len + (m - len) = m by omega] at this
          exact this
    · rename_i fs hu
      obtain ⟨xs, n, hn, hx, hcl, hxl, hf⟩ := DataW.trod_struct hu h
      cases hx
      rw [← hcl] at hs
      have := fields_met (enc := enc) (P := P) (w := w) (full := full) (cs := cs) (m := n) (fun t' s' h' cs' d' ps' => met_of_trod f t' s' h' n cs' d' ps') fs.toList 0 s xs hs (by simpa using hxl) (fun i f' hf' => hf i f' (by simpa using hf')) (fun hfu k hk => hw hfu k (by simp only [DataW.weights, hu]; exact hk))
      simpa [Rows.uptoBulk] using this
    · rename_i n e hu
      split at hs
      case isFalse => cases hs
      rename_i hc
      obtain ⟨s1, h1, rfl⟩ := Option.map_eq_some_iff.1 hs
      obtain ⟨xs, m, hm, hx, hcl, hxl, hf⟩ := DataW.trod_array hu h
      cases hx
      have := rep_met (enc := enc) (P := P) (w := w) (full := full) (c := P.cellsOf e) (s := s1) (cs := cs) (m := m) (e := e) (fun cs' d' ps' => met_of_trod f e s1 h1 m cs' d' ps') n 0 xs (by rw [hcl, hc]; simp) hxl (fun i hi => by simpa using hf i hi) (fun hfu k hk => hw hfu k (by simp only [DataW.weights, hu]; exact hk))
      simpa [Rows.uptoBulk] using this
    · cases hs
/-- an argument -/
def Sh.shown (w : World) (full : Bool) (s : Sh) (v : Value) (n : Nat) : Prop := match s.agg with
  | true => ∃ cs, v = .agg cs ∧ s.met w full cs.toList n
  | false => s.met w full [v] n
theorem fields_agg {g : TypeId → Option Sh} {top : Nat} : ∀ {fl : List Field} {off : Nat} {s : Sh}, fieldsOf P g top off fl = some s → s.agg = true
  | [], off, s, h => by
    unfold fieldsOf at h
    split at h
    · cases h; rfl
    · cases h
  | f :: r, off, s, h => by
    unfold fieldsOf at h
    split at h
    · obtain ⟨s1, h1, h2⟩ := Option.bind_eq_some_iff.1 h
      obtain ⟨q, h3, rfl⟩ := Option.map_eq_some_iff.1 h2
      rfl
    · cases h
theorem rep_agg (c : Nat) (s : Sh) (n : Nat) : (Sh.rep c s n).agg = true := by
  cases n with
  | zero => rfl
  | succ n => rfl
theorem shown_agg {s : Sh} {cs : Array Value} {n : Nat} (hs : s.agg = true) (h : s.met w full cs.toList n) : s.shown w full (.agg cs) n := by
  unfold Sh.shown
  rw [hs]
  exact ⟨cs, rfl, h⟩
theorem shown_of {f : Nat} {t : TypeId} {s : Sh} (hs : shapeOf P f t = some s) {r : Reach} {base : Nat} {v : Value} {d : DataW H} {ps : List MemPlace} (hv : Value.okWide P w r base t v)
    (h : DataW.Trod enc P w 0 (fun _ => true) true t v d ps) (hw : full = true → ∀ n ∈ d.weights P t, n ≤ reachBytes) : s.shown w full v (Rows.uptoBulk d) := by
  obtain ⟨fuel, hf⟩ := h
  have hm := met_of_trod (full := full) f t s hs fuel _ d ps hf hw
  cases f with
  | zero => cases hs
  | succ f =>
    unfold shapeOf at hs
    split at hs
    · rename_i hu
      cases hs
      obtain ⟨b, rfl⟩ := okWide_bool hu hv
      exact hm
    · rename_i k hu
      cases hs
      obtain ⟨z, rfl⟩ := okWide_int hu hv
      exact hm
    · rename_i hu
      cases hs
      obtain ⟨z, rfl⟩ := okWide_string hu hv
      exact hm
    · rename_i e hu
      obtain ⟨s1, h1, rfl⟩ := Option.map_eq_some_iff.1 hs
      obtain ⟨a, l, c, rfl⟩ := okWide_slice hu hv
      exact hm
    · rename_i fs hu
      obtain ⟨cs, rfl, _⟩ := okWide_struct hu hv
      exact shown_agg (fields_agg hs) hm
    · rename_i n e hu
      split at hs
      case isFalse => cases hs
      obtain ⟨s1, h1, rfl⟩ := Option.map_eq_some_iff.1 hs
      have hv2 := hv
      simp only [Value.okWide, hu] at hv2
      obtain ⟨cs, rfl, _⟩ := hv2
      exact shown_agg (rep_agg _ _ _) hm
    · cases hs
end
end

section
theorem sumN_le {F : Nat → Nat} {n : Nat} (h : ∀ i, i < n → 1 ≤ F i) : n ≤ sumN F n := by
  induction n with
  | zero => exact Nat.le_refl _
  | succ n ih =>
    have h1 := ih (fun i hi => h i (by omega))
    have h2 := h n (by omega)
    simp only [sumN]; omega
/-- a slice of numbers of one kind: its cells -/
theorem met_ints {w : World} {full : Bool} {k : IntKind} {b n : Nat} {cs : List Value} (h : (Sh.slice 1 b (.int k)).met w full cs n) :
    ∃ a len cap zs, cs = [.slice a len cap] ∧ ((a = none ∧ len = 0 ∧ cap = 0 ∧ zs = []) ∨ ∃ x, a = some x ∧ len ≤ cap ∧ cap ≤ maxLen ∧ zs.length = cap ∧ (∀ i, i < zs.length → w.cell? (x.add i) = some (.int k (zs.getD i 0))) ∧ ∀ n ∈ zs, (Lit.int k n).wf = true) ∧
      (full = true → cap * b ≤ reachBytes) ∧ cap + 1 ≤ n := by
  rcases h with ⟨rfl, rfl⟩ | ⟨x, len, cap, F, C, rfl, rfl, hl, hm, hf, hc⟩
  · exact ⟨none, 0, 0, [], rfl, .inl ⟨rfl, rfl, rfl, rfl⟩, fun _ => by rw [Nat.zero_mul]; exact Nat.zero_le _, Nat.le_refl _⟩
  · have each : ∀ i, i < cap → ∃ z : Int, w.cell? (x.add i) = some (.int k z) ∧ (Lit.int k z).wf = true ∧ F i = 1 := by
      intro i hi
      obtain ⟨h1, h2, h3, z, h4, h5⟩ := hc i hi
      have := h2 0 (by omega)
      rw [h4] at this
      rw [Nat.mul_one, Nat.add_zero] at this
      exact ⟨z, this, h5, h3⟩
    obtain ⟨Z, hZ⟩ := Go.Deep.choose_lt each
    have hget : ∀ i, i < cap → ((List.range cap).map Z).getD i 0 = Z i := by
      intro i hi
      rw [List.getD_eq_getElem?_getD, List.getElem?_map, List.getElem?_range hi]; rfl
    refine ⟨some x, len, cap, (List.range cap).map Z, rfl, .inr ⟨x, rfl, hl, hm, by simp, fun i hi => ?_, fun z hz => ?_⟩, hf, ?_⟩
    · have hi' : i < cap := by simpa using hi
      rw [hget i hi']
      exact (hZ i hi').1
    · obtain ⟨i, hi, rfl⟩ := List.mem_map.1 hz
      exact (hZ i (List.mem_range.1 hi)).2.1
    · have := sumN_le (F := F) (n := cap) (fun i hi => by rw [(hZ i hi).2.2]; exact Nat.le_refl _)
      omega
/-- a slice of bytes -/
theorem met_bytes {w : World} {full : Bool} {n : Nat} {cs : List Value} (h : (Sh.slice 1 1 (.int .u8)).met w full cs n) :
    ∃ a len cap L, cs = [.slice a len cap] ∧ Rd w a len cap L ∧ (full = true → cap ≤ 140737488351232) ∧ cap + 1 ≤ n := by
  obtain ⟨a, len, cap, zs, rfl, hr, hf, hn⟩ := met_ints h
  obtain ⟨L, hL, _⟩ := rd_of_row hr
  exact ⟨a, len, cap, L, rfl, hL, fun h => by have := hf h; unfold reachBytes at this; omega, hn⟩
end

section
/-- is a number from l to m? -/
def kwB (n l m : Int) : Bool := decide (l ≤ n ∧ n ≤ m)
theorem kwB_t {n l m : Int} (h : l ≤ n ∧ n ≤ m) : kwB n l m = true := decide_eq_true h
theorem kwB_f {n l m : Int} (h : ¬ (l ≤ n ∧ n ≤ m)) : kwB n l m = false := decide_eq_false h
theorem kwB_ok {n l m : Int} (h : kwB n l m = true) : l ≤ n ∧ n ≤ m := of_decide_eq_true h
end
end Go.Proofs.Ytnimehkfnpepfaa
