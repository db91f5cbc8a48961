import Derived.Test.YtpcejajijaphbaaRows
import Derived.WalkKit
import Derived.WalkSpells
import Derived.WalkLawsBesides
import Derived.Laws.BitsAllLaws
import Derived.Outline
import Derived.Deep.QuietTactic
import Derived.BigQuiet
import Derived.Laws.CopyOwn
import Derived.Laws.AppendOwnNone
import Derived.Deep.RegionHeld3
import Derived.Laws.BytesArg
import Derived.ArgAppend
import Derived.Laws.Rows
import Derived.Laws.Tables
import Derived.Deep.DeepAppendWide
import Derived.OpenShut
import Derived.SizedLaws
import Derived.Deep.Slices
namespace Go.Proofs.Ytpcejajijaphbaa
open Go.RowKit
set_option maxRecDepth 100000
set_option linter.unusedVariables false
set_option linter.unusedSimpArgs false

section
/-
  The field of 256 numbers, plainly: products by doubling, the document's product (all out, then the rest), inverses, powers of 2. No Go in sight.
-/
namespace Fld
/-- x times 2 -/
def dbl (a : Nat) : Nat := if a < 128 then 2 * a else (2 * a % 256) ^^^ 135
def dblN : Nat → Nat → Nat
  | 0, a => a
  | k + 1, a => dbl (dblN k a)
def mulS (a b : Nat) : Nat → Nat
  | 0 => 0
  | k + 1 => mulS a b k ^^^ (if b.testBit k then dblN k a else 0)
def mul (a b : Nat) : Nat := mulS a b 8

/-! two additive functions that agree at the bits agree -/
theorem mul_one_all : ∀ a, a < 256 → mul a 1 = a := by decide +kernel
theorem mul_one {a : Nat} (h : a < 256) : mul a 1 = a := mul_one_all a h
/-! powers and inverse -/
/-! the document's product: all out, then the rest -/
/-! logs -/
/-- the powers, one behind the other: does a come among the k from p on? -/
def comes (a : Nat) : Nat → Nat → Bool
  | 0, _ => false
  | k + 1, p => p == a || comes a k (dbl p)
end Fld

/-! the document's -/
/-! powers of 2 -/
/-! the contracts once more, over whole numbers: they fit whatever stands in a slot -/
end

section
/-! lists of bytes, and how they lie in memory -/
def nth (L : List Nat) (k : Nat) : Nat := L.getD k 0
def bys (L : List Nat) : List Value := L.map fun (n : Nat) => Value.int .u8 (n : Int)
def IsB (L : List Nat) : Prop := ∀ x, x ∈ L → x < 256
theorem IsB.nth {L : List Nat} (h : IsB L) (k : Nat) : nth L k < 256 := by
  unfold Go.Proofs.Ytpcejajijaphbaa.nth
  by_cases hk : k < L.length
  · rw [List.getD_eq_getElem?_getD, List.getElem?_eq_getElem hk]; exact h _ (List.getElem_mem hk)
  · rw [List.getD_eq_getElem?_getD, List.getElem?_eq_none (by omega)]; decide
/-- A slice of bytes as it is read: n of them, the numbers L. -/
structure Rd (w : World) (a : Option Addr) (n cap : Nat) (L : List Nat) : Prop where
  len : L.length = n
  le : n ≤ cap
  max : cap ≤ maxLen
  nil : a = none → cap = 0
  byte : IsB L
  at' : 0 < n → ∃ b off, a = some ⟨b, off, none⟩ ∧ b < w.heap.size ∧ ∀ i, i < n → w.cell? ⟨b, off + i, none⟩ = some (.int .u8 (nth L i : Nat))
/-- Block g is a row of bytes, the call's own: the numbers L. -/
def Blk (w : World) (g : Nat) (L : List Nat) : Prop := w.heap[g]? = some (.cells (bys L).toArray 5)
theorem nth_bys (L : List Nat) (i : Nat) (hi : i < L.length) : (bys L)[i]? = some (.int .u8 (nth L i : Nat)) := by
  unfold bys nth
  rw [List.getElem?_map, List.getElem?_eq_getElem hi, List.getD_eq_getElem?_getD, List.getElem?_eq_getElem hi]; rfl
theorem Blk.lt {w : World} {g : Nat} {L : List Nat} (h : Blk w g L) : g < w.heap.size := (Array.getElem?_eq_some_iff.1 h).1
theorem Blk.cell {w : World} {g : Nat} {L : List Nat} (h : Blk w g L) (i : Nat) (hi : i < L.length) : w.cell? ⟨g, i, none⟩ = some (.int .u8 (nth L i : Nat)) := by
  rw [cell_of_row w g i _ _ _ h]; simpa using nth_bys L i hi
theorem Blk.free {w : World} {g : Nat} {L : List Nat} (h : Blk w g L) (i : Nat) : w.frozen? ⟨g, i, none⟩ = false := frozen_of_row w g i _ _ h
theorem Blk.set {w : World} {g : Nat} {L : List Nat} (h : Blk w g L) (i x : Nat) : Blk (w.setCell ⟨g, i, none⟩ (.int .u8 (x : Int))) g (L.set i x) := by
  unfold Blk
  rw [heap_setCell_same w g i _ _ _ h]
  simp [bys, List.map_set]
theorem Blk.grown {w w' : World} {g : Nat} {L : List Nat} {r : Option Nat} (h : Blk w g L) (hg : w.grownBy w' r) (hne : some g ≠ r) : Blk w' g L := by
  unfold Blk; rw [hg.block g h.lt hne]; exact h
theorem grown_set (w : World) (g i : Nat) (v : Value) : w.grownBy (w.setCell ⟨g, i, none⟩ v) (some g) :=
  ⟨rfl, rfl, rfl, by simp [World.setCell], fun k _ hk => heap_setCell_other w _ k v (fun e => hk (by rw [e]))⟩
theorem grown_trans {a b c : World} {r : Option Nat} (h : a.grownBy b r) (k : b.grownBy c r) : a.grownBy c r :=
  ⟨k.os.trans h.os, k.tape.trans h.tape, k.output.trans h.output, Nat.le_trans h.size k.size, fun i hi hn => (k.block i (Nat.lt_of_lt_of_le hi h.size) hn).trans (h.block i hi hn)⟩
theorem grown_drew (w : World) (r : Option Nat) : w.grownBy w.drew r := ⟨rfl, rfl, rfl, Nat.le_refl _, fun _ _ _ => rfl⟩
theorem grown_weak {a b : World} (h : a.grownBy b none) (r : Option Nat) : a.grownBy b r := ⟨h.os, h.tape, h.output, h.size, fun k hk _ => h.block k hk (by simp)⟩
theorem Rd.grown {w w' : World} {a : Option Addr} {n cap : Nat} {L : List Nat} {r : Option Nat} (h : Rd w a n cap L) (hg : w.grownBy w' r) (hne : ∀ b off, a = some ⟨b, off, none⟩ → some b ≠ r) : Rd w' a n cap L := by
  refine ⟨h.len, h.le, h.max, h.nil, h.byte, fun h0 => ?_⟩
  obtain ⟨b, off, rfl, hb, hc⟩ := h.at' h0
  refine ⟨b, off, rfl, Nat.lt_of_lt_of_le hb hg.size, fun i hi => ?_⟩
  exact (World.cell?_of_block (w := w) (hg.block b hb (hne b off rfl))).trans (hc i hi)

theorem Rd.ne {w : World} {a : Option Addr} {n cap g : Nat} {L : List Nat} (h : Rd w a n cap L) (hg : w.heap.size ≤ g) : 0 < n → ∀ b off, a = some ⟨b, off, none⟩ → some b ≠ some g := by
  intro h0 b off e
  obtain ⟨b', off', e', hb, _⟩ := h.at' h0
  rw [e'] at e
  cases e
  simp; omega
theorem isB_set {L : List Nat} (h : IsB L) (i x : Nat) (hx : x < 256) : IsB (L.set i x) := by
  intro y hy
  rcases List.mem_or_eq_of_mem_set hy with h1 | h1
  · exact h y h1
  · rw [h1]; exact hx
theorem bys_length (L : List Nat) : (bys L).length = L.length := by simp [bys]

theorem isB_take {A : List Nat} (h : IsB A) (n : Nat) : IsB (A.take n) := fun x hx => h x (List.mem_of_mem_take hx)

/-- a copy of L with marks in its spare room -/
structure Roomy (w : World) (g n : Nat) (L D : List Nat) : Prop where
  blk : Blk w g D
  len : D.length = n + 5
  byte : IsB D
  own : ∀ i, i < n → nth D i = nth L i
  mark : ∀ i, n ≤ i → i < n + 5 → nth D i = (90 + i) % 256
theorem Roomy.grown {w w' : World} {g n : Nat} {L D : List Nat} {r : Option Nat} (h : Roomy w g n L D) (hg : w.grownBy w' r) (hne : some g ≠ r) : Roomy w' g n L D :=
  ⟨h.blk.grown hg hne, h.len, h.byte, h.own, h.mark⟩

theorem addr_add (b off j : Nat) : (⟨b, off, none⟩ : Addr).add j = ⟨b, off + j, none⟩ := by unfold Addr.add; split <;> simp_all

theorem own_cell {w : World} {g n cap : Nat} {L : List Nat} (h : w.ownsRow 0 5 1 (.slice (some ⟨g, 0, none⟩) n cap) n (bys L)) (j : Nat) (hj : j < n) : w.cell? ⟨g, j, none⟩ = some (.int .u8 (nth L j : Nat)) := by
  have hl : L.length = n := by have := h.1; rw [bys_length] at this; omega
  rw [h.cellAt j (by omega)]
  exact nth_bys L j (by omega)
theorem own_set {w : World} {g n cap : Nat} {L : List Nat} (h : w.ownsRow 0 5 1 (.slice (some ⟨g, 0, none⟩) n cap) n (bys L)) (j x : Nat) :
    (w.setCell ⟨g, j, none⟩ (.int .u8 (x : Int))).ownsRow 0 5 1 (.slice (some ⟨g, 0, none⟩) n cap) n (bys (L.set j x)) := by
  have := (h.stored j (.int .u8 (x : Int))).1
  have e : (bys L).set j (.int .u8 (x : Int)) = bys (L.set j x) := by simp [bys, List.map_set]
  rw [e] at this; exact this
/-- An answer: the bytes L, in memory of its own, from block lo on. -/
structure Ans (w : World) (lo : Nat) (a : Option Addr) (n cap : Nat) (L : List Nat) : Prop where
  own : w.ownsRow 0 5 1 (.slice a n cap) n (bys L)
  byte : IsB L
  new : ∀ g, (Value.slice a n cap).ownBlock = some g → lo ≤ g
theorem Ans.len {w : World} {lo : Nat} {a : Option Addr} {n cap : Nat} {L : List Nat} (h : Ans w lo a n cap L) : L.length = n := by
  have := h.own.1; rw [bys_length] at this; omega
theorem Ans.cases {w : World} {lo : Nat} {a : Option Addr} {n cap : Nat} {L : List Nat} (h : Ans w lo a n cap L) :
    (a = none ∧ n = 0 ∧ cap = 0) ∨ ∃ g, a = some ⟨g, 0, none⟩ ∧ lo ≤ g ∧ g < w.heap.size := by
  rcases h.own.2 with ⟨h1, h2⟩ | ⟨g, cap', cur, h1, _, h3, _⟩
  · simp only [Value.slice.injEq] at h1; exact .inl h1
  · simp only [Value.slice.injEq] at h1
    obtain ⟨rfl, _, _⟩ := h1
    exact .inr ⟨g, rfl, h.new g rfl, (Array.getElem?_eq_some_iff.1 h3).1⟩
theorem Ans.max {w : World} {lo : Nat} {a : Option Addr} {n cap : Nat} {L : List Nat} (h : Ans w lo a n cap L) : n ≤ cap ∧ cap ≤ maxLen := by
  rcases h.own.2 with ⟨h1, h2⟩ | ⟨g, cap', cur, h1, _, h3, h4, h5, _⟩
  · simp only [Value.slice.injEq] at h1; obtain ⟨_, h6, h7⟩ := h1; subst h6; subst h7; exact ⟨Nat.le_refl _, Nat.zero_le _⟩
  · simp only [Value.slice.injEq] at h1; obtain ⟨_, _, h7⟩ := h1; subst h7; exact ⟨h4, h5⟩
theorem Ans.rd {w : World} {lo : Nat} {a : Option Addr} {n cap : Nat} {L : List Nat} (h : Ans w lo a n cap L) : Rd w a n cap L := by
  refine ⟨h.len, h.max.1, h.max.2, fun h0 => ?_, h.byte, fun h0 => ?_⟩
  · rcases h.cases with ⟨_, _, h3⟩ | ⟨g, h1, _⟩
    · exact h3
    · rw [h0] at h1; cases h1
  · rcases h.cases with ⟨_, h2, _⟩ | ⟨g, rfl, _, hl⟩
    · omega
    · exact ⟨g, 0, rfl, hl, fun i hi => by rw [Nat.zero_add]; exact own_cell h.own i hi⟩
theorem Ans.kept {w w' : World} {lo : Nat} {a : Option Addr} {n cap : Nat} {L : List Nat} {r : Option Nat} (h : Ans w lo a n cap L) (hg : w.grownBy w' r) (hne : (Value.slice a n cap).ownBlock = none ∨ (Value.slice a n cap).ownBlock ≠ r) : Ans w' lo a n cap L :=
  ⟨h.own.kept hg hne, h.byte, h.new⟩
theorem Blk.ans {w : World} {g n lo : Nat} {D : List Nat} (h : Blk w g D) (hB : IsB D) (hn : n ≤ D.length) (hm : D.length ≤ maxLen) (hlo : lo ≤ g) : Ans w lo (some ⟨g, 0, none⟩) n D.length (D.take n) := by
  refine ⟨⟨by rw [bys_length, List.length_take]; omega, .inr ⟨g, D.length, _, rfl, Nat.zero_le _, h, hn, hm, by simp [bys], ?_⟩⟩, isB_take hB _, ?_⟩
  · simp [bys, List.map_take]
  · intro g' hg'; simp [Value.ownBlock] at hg'; omega
theorem Blk.rd {w : World} {g n : Nat} {D : List Nat} (h : Blk w g D) (hB : IsB D) (hl : D.length = n) (hm : n ≤ maxLen) : Rd w (some ⟨g, 0, none⟩) n n D :=
  ⟨hl, Nat.le_refl _, hm, (fun h => by cases h), hB, fun _ => ⟨g, 0, rfl, h.lt, fun i hi => by rw [Nat.zero_add]; exact h.cell i (by omega)⟩⟩
end

section
theorem Roomy.rd {w : World} {g n : Nat} {L D : List Nat} (h : Roomy w g n L D) (hL : IsB L) (hl : L.length = n) (hn : n ≤ 140737488351232) : Rd w (some ⟨g, 0, none⟩) n (n + 5) L :=
  ⟨hl, by omega, by unfold maxLen; omega, (fun h => by cases h), hL, fun _ => ⟨g, 0, rfl, h.blk.lt, fun i hi => by rw [Nat.zero_add, ← h.own i hi]; exact h.blk.cell i (by rw [h.len]; omega)⟩⟩
theorem grown_far {a b c : World} {r : Option Nat} (h : a.grownBy b none) (k : b.grownBy c r) (hr : ∀ g, r = some g → a.heap.size ≤ g) : a.grownBy c none :=
  ⟨k.os.trans h.os, k.tape.trans h.tape, k.output.trans h.output, Nat.le_trans h.size k.size, fun i hi hn => (k.block i (Nat.lt_of_lt_of_le hi h.size) (fun e => by have := hr i e.symm; omega)).trans (h.block i hi hn)⟩
theorem Ans.far {wa : World} {lo : Nat} {a : Option Addr} {n cap : Nat} {L : List Nat} (ha : Ans wa lo a n cap L) (B : Nat) (h : B ≤ lo) : ∀ g, (Value.slice a n cap).ownBlock = some g → B ≤ g := fun g hg => Nat.le_trans h (ha.new g hg)
theorem Ans.keep {w w' : World} {lo : Nat} {a : Option Addr} {n cap : Nat} {L : List Nat} (h : Ans w lo a n cap L) (hg : w.grownBy w' none) : Ans w' lo a n cap L :=
  h.kept hg (by cases (Value.slice a n cap).ownBlock <;> simp)
theorem Rd.keep {w w' : World} {a : Option Addr} {n cap : Nat} {L : List Nat} (h : Rd w a n cap L) (hg : w.grownBy w' none) : Rd w' a n cap L := h.grown hg (fun _ _ _ => by simp)
theorem Roomy.keep {w w' : World} {g n : Nat} {L D : List Nat} (h : Roomy w g n L D) (hg : w.grownBy w' none) : Roomy w' g n L D := h.grown hg (by simp)
end

section
/-- a value of several cells in a box -/
def BxS (w : World) (g : Nat) (t : TypeId) (cs : Array Value) : Prop := w.heap[g]? = some (.cells cs t)
theorem BxS.lt {w : World} {g : Nat} {t : TypeId} {cs : Array Value} (h : BxS w g t cs) : g < w.heap.size := (Array.getElem?_eq_some_iff.1 h).1
theorem BxS.free {w : World} {g : Nat} {t : TypeId} {cs : Array Value} (h : BxS w g t cs) (i : Nat) : w.frozen? ⟨g, i, none⟩ = false := frozen_of_row w g i _ _ h
theorem BxS.cell {w : World} {g : Nat} {t : TypeId} {cs : Array Value} (h : BxS w g t cs) (i : Nat) (hi : i < cs.size) : w.cell? ⟨g, i, none⟩ = some cs[i] := by
  rw [cell_of_row w g i cs t (0, 0) h, Array.getElem?_eq_getElem hi]
theorem BxS.keep {w w' : World} {g : Nat} {t : TypeId} {cs : Array Value} {r : Option Nat} (h : BxS w g t cs) (hg : w.grownBy w' r) (hne : some g ≠ r) : BxS w' g t cs := (hg.block g h.lt hne).trans h
theorem BxS.new (w : World) (t : TypeId) (cs : Array Value) : BxS (w.alloc (.cells cs t)) w.heap.size t cs := heap_alloc_new w _
theorem BxS.set {w : World} {g : Nat} {t : TypeId} {cs : Array Value} (h : BxS w g t cs) (i : Nat) (v : Value) : BxS (w.setCell ⟨g, i, none⟩ v) g t (cs.set! i v) := by
  unfold BxS
  rw [setCell_eq_setRow w g i _ _ _ _ h]
  exact setRow_heap w g _ _ _ _ h
theorem BxS.row {w : World} {g : Nat} {t : TypeId} {cs : Array Value} (h : BxS w g t cs) (ds : Array Value) : BxS (w.setRow g ds) g t ds := setRow_heap w g _ _ _ _ h
theorem BxS.load {w : World} {g : Nat} {t : TypeId} {cs : Array Value} (h : BxS w g t cs) {fs : Array Field} (hu : Try.prog.underlying t = some (.struct fs)) (hi : (Try.prog.info? t).map (·.size) = some cs.size) :
    (loadVar t ⟨g, 0, none⟩).run Try.prog w = .ok (.agg cs) w := run_loadVar_row w g t t cs (0, 0) (.struct fs) h hu rfl hi
/-- a whole value is stored into a box -/
theorem wpList_stX (w : World) {ops : Array Oper} {rest : List Oper} {o : Oper} {a : Act} {Q : Exit → Act → World → Prop} (hg : o.guard = none) (t : TypeId) (p v : Operand) (hop : o.op = Op.store t p v)
    (g : Nat) (cs ds : Array Value) (hp : a.eval p = .pointer (some ⟨g, 0, none⟩)) (hv : a.eval v = .agg ds) (h : BxS w g t cs) (hi : (Try.prog.info? t).map (·.size) = some ds.size) (ho : cs.size = ds.size) (h1 : ds.all (·.oneCell') = true)
    (hK : ∀ w', BxS w' g t ds → w.grownBy w' (some g) → wpList Try.prog ops Q rest (a.put o.dst undef) w') :
    wpList Try.prog ops Q (o :: rest) a w := by
  refine wpList_plain hg fun K hK' => ?_
  have hst : (Instr.storeAt t (.pointer (some ⟨g, 0, none⟩)) (.agg ds)).run Try.prog w = .ok () (w.setRow g ds) := by
    simp only [Instr.storeAt, Instr.sureAddr, Sem.run_bind, Sem.run_pure, Result.andThen]
    exact run_storeVar_row w g t t cs ds h hi ho h1
  unfold Oper.wp
  simp [execOp, hop, hp, hv, hst, Result.andThen]
  exact hK' _ _ (hK _ (h.row ds) ⟨rfl, rfl, rfl, by simp, fun k _ hk => setRow_other w g k _ (fun e => hk (by rw [e]))⟩)
/-- one cell of a box is written -/
theorem wpList_stC (w : World) {ops : Array Oper} {rest : List Oper} {o : Oper} {a : Act} {Q : Exit → Act → World → Prop} (hg : o.guard = none) (t : TypeId) (p x : Operand) (hop : o.op = Op.store t p x)
    (g i : Nat) (ty : TypeId) (A A' : Array Value) (v : Value) (hp : a.eval p = .pointer (some ⟨g, i, none⟩)) (hx : a.eval x = v) (hB : BxS w g ty A)
    (hst : ∀ w' : World, (∃ u, w'.cell? ⟨g, i, none⟩ = some u) → w'.frozen? ⟨g, i, none⟩ = false → (Instr.storeAt t (.pointer (some ⟨g, i, none⟩)) v).run Try.prog w' = .ok () (w'.setCell ⟨g, i, none⟩ v)) (hi : i < A.size) (hA : A.setIfInBounds i v = A')
    (hK : ∀ w', BxS w' g ty A' → w.grownBy w' (some g) → wpList Try.prog ops Q rest (a.put o.dst undef) w') :
    wpList Try.prog ops Q (o :: rest) a w := by
  refine wpList_plain hg fun K hK' => ?_
  have hc : ∃ u, w.cell? ⟨g, i, none⟩ = some u := ⟨A[i], by rw [cell_of_row w g i _ _ _ hB]; simp [hi]⟩
  have hf := frozen_of_row w g i _ _ hB
  unfold Oper.wp
  simp [execOp, hop, hp, hx, hst w hc hf, Result.andThen]
  exact hK' _ _ (hK _ (by unfold BxS; rw [heap_setCell_same w g i _ _ _ hB, hA]) (grown_set w g i v))
theorem stc_int (g i : Nat) (n : Int) (w : World) (hc : ∃ u, w.cell? ⟨g, i, none⟩ = some u) (hf : w.frozen? ⟨g, i, none⟩ = false) : (Instr.storeAt 3 (.pointer (some ⟨g, i, none⟩)) (.int .i64 n)).run Try.prog w = .ok () (w.setCell ⟨g, i, none⟩ (.int .i64 n)) := by
  obtain ⟨u, hc⟩ := hc
  simp [go_sem, hc, hf]
end

section
/-- t: slices of e, whose values take one cell -/
structure ElT (t e : TypeId) (z : Value) (by' : Nat) : Prop where
  und : Try.prog.underlying t = some (.slice e)
  inf : (Try.prog.info? e).map (fun i => (i.zero, i.size, i.bytes)) = some (some z, 1, by')
  one : z.cells.size = 1
  pos : by' ≤ 16
/-- a slice as it is read -/
structure RdX (w : World) (a : Option Addr) (n cap : Nat) (X : List Value) : Prop where
  len : X.length = n
  le : n ≤ cap
  max : cap ≤ maxLen
  nil : a = none → cap = 0
  one : ∀ u, u ∈ X → u.oneCell' = true
  at' : 0 < n → ∃ b off, a = some ⟨b, off, none⟩ ∧ b < w.heap.size ∧ ∀ i u, X[i]? = some u → w.cell? ⟨b, off + i, none⟩ = some u
theorem RdX.grown {w w' : World} {a : Option Addr} {n cap : Nat} {X : List Value} {r : Option Nat} (h : RdX w a n cap X) (hg : w.grownBy w' r) (hne : ∀ b off, a = some ⟨b, off, none⟩ → some b ≠ r) : RdX w' a n cap X := by
  refine ⟨h.len, h.le, h.max, h.nil, h.one, fun h0 => ?_⟩
  obtain ⟨b, off, rfl, hb, hc⟩ := h.at' h0
  refine ⟨b, off, rfl, Nat.lt_of_lt_of_le hb hg.size, fun i u hu => ?_⟩
  exact (World.cell?_of_block (w := w) (hg.block b hb (hne b off rfl))).trans (hc i u hu)
theorem RdX.keep {w w' : World} {a : Option Addr} {n cap : Nat} {X : List Value} (h : RdX w a n cap X) (hg : w.grownBy w' none) : RdX w' a n cap X := h.grown hg (fun _ _ _ => by simp)
theorem RdX.nil0 (w : World) : RdX w none 0 0 [] := ⟨rfl, Nat.le_refl _, Nat.zero_le _, fun _ => rfl, (fun u h => by cases h), fun h => absurd h (by decide)⟩
/-- a row of the call's own, in memory from block lo on -/
structure AnsX (e : TypeId) (w : World) (lo : Nat) (a : Option Addr) (n cap : Nat) (X : List Value) : Prop where
  own : w.ownsRow 0 e 1 (.slice a n cap) n X
  one : ∀ u, u ∈ X → u.oneCell' = true
  new : ∀ g, (Value.slice a n cap).ownBlock = some g → lo ≤ g
theorem AnsX.len {e : TypeId} {w : World} {lo : Nat} {a : Option Addr} {n cap : Nat} {X : List Value} (h : AnsX e w lo a n cap X) : X.length = n := by
  have := h.own.1; omega
theorem AnsX.cases {e : TypeId} {w : World} {lo : Nat} {a : Option Addr} {n cap : Nat} {X : List Value} (h : AnsX e w lo a n cap X) :
    (a = none ∧ n = 0 ∧ cap = 0) ∨ ∃ g, a = some ⟨g, 0, none⟩ ∧ lo ≤ g ∧ g < w.heap.size := by
  rcases h.own.2 with ⟨h1, h2⟩ | ⟨g, cap', cur, h1, _, h3, _⟩
  · simp only [Value.slice.injEq] at h1; exact .inl h1
  · simp only [Value.slice.injEq] at h1
    obtain ⟨rfl, _, _⟩ := h1
    exact .inr ⟨g, rfl, h.new g rfl, (Array.getElem?_eq_some_iff.1 h3).1⟩
theorem AnsX.ty {e : TypeId} {w : World} {lo : Nat} {g n cap : Nat} {X : List Value} (h : AnsX e w lo (some ⟨g, 0, none⟩) n cap X) : ∃ cs fr, w.heap[g]? = some (.cells cs e fr) := by
  rcases h.own.2 with ⟨h1, h2⟩ | ⟨g', cap', cur, h1, _, h3, _⟩
  · simp at h1
  · simp only [Value.slice.injEq, Option.some.injEq, Addr.mk.injEq] at h1
    obtain ⟨⟨rfl, _⟩, _⟩ := h1
    exact ⟨_, _, h3⟩
theorem AnsX.max {e : TypeId} {w : World} {lo : Nat} {a : Option Addr} {n cap : Nat} {X : List Value} (h : AnsX e w lo a n cap X) : n ≤ cap ∧ cap ≤ maxLen := by
  rcases h.own.2 with ⟨h1, h2⟩ | ⟨g, cap', cur, h1, _, h3, h4, h5, _⟩
  · simp only [Value.slice.injEq] at h1; obtain ⟨_, h6, h7⟩ := h1; subst h6; subst h7; exact ⟨Nat.le_refl _, Nat.zero_le _⟩
  · simp only [Value.slice.injEq] at h1; obtain ⟨_, _, h7⟩ := h1; subst h7; exact ⟨h4, h5⟩
theorem AnsX.rd {e : TypeId} {w : World} {lo : Nat} {a : Option Addr} {n cap : Nat} {X : List Value} (h : AnsX e w lo a n cap X) : RdX w a n cap X := by
  refine ⟨h.len, h.max.1, h.max.2, fun h0 => ?_, h.one, fun h0 => ?_⟩
  · rcases h.cases with ⟨_, _, h3⟩ | ⟨g, h1, _⟩
    · exact h3
    · rw [h0] at h1; cases h1
  · rcases h.cases with ⟨_, h2, _⟩ | ⟨g, rfl, _, hl⟩
    · omega
    · refine ⟨g, 0, rfl, hl, fun i u hu => ?_⟩
      have := h.own.cells (g := g) rfl i u hu
      rw [addr_add] at this
      exact this
theorem AnsX.kept {e : TypeId} {w w' : World} {lo : Nat} {a : Option Addr} {n cap : Nat} {X : List Value} {r : Option Nat} (h : AnsX e w lo a n cap X) (hg : w.grownBy w' r) (hne : (Value.slice a n cap).ownBlock = none ∨ (Value.slice a n cap).ownBlock ≠ r) : AnsX e w' lo a n cap X :=
  ⟨h.own.kept hg hne, h.one, h.new⟩
theorem AnsX.keep {e : TypeId} {w w' : World} {lo : Nat} {a : Option Addr} {n cap : Nat} {X : List Value} (h : AnsX e w lo a n cap X) (hg : w.grownBy w' none) : AnsX e w' lo a n cap X :=
  h.kept hg (by cases (Value.slice a n cap).ownBlock <;> simp)
theorem AnsX.low {e : TypeId} {w : World} {lo lo' : Nat} {a : Option Addr} {n cap : Nat} {X : List Value} (h : AnsX e w lo a n cap X) (hl : lo' ≤ lo) : AnsX e w lo' a n cap X :=
  ⟨h.own, h.one, fun g hg => Nat.le_trans hl (h.new g hg)⟩
theorem AnsX.lt {e : TypeId} {w : World} {lo : Nat} {a : Option Addr} {n cap : Nat} {X : List Value} (h : AnsX e w lo a n cap X) : ∀ g, (Value.slice a n cap).ownBlock = some g → g < w.heap.size := by
  intro g hg
  rcases h.cases with ⟨rfl, _, _⟩ | ⟨g', rfl, _, hl⟩
  · simp [Value.ownBlock] at hg
  · have : g' = g := by simpa [Value.ownBlock] using hg
    omega
theorem AnsX.nil0 (e : TypeId) (w : World) (lo : Nat) : AnsX e w lo none 0 0 [] := ⟨World.ownsRow_nil _ _ _ _, (fun u h => by cases h), fun g h => by simp [Value.ownBlock] at h⟩
theorem AnsX.up {e : TypeId} {w : World} {lo : Nat} {a : Option Addr} {n cap : Nat} {X : List Value} (h : AnsX e w lo a n cap X) : w.ownsRow lo e 1 (.slice a n cap) n X := by
  refine ⟨h.own.1, ?_⟩
  rcases h.own.2 with h1 | ⟨g, c1, cur, h1, h2, h3⟩
  · exact .inl h1
  · refine .inr ⟨g, c1, cur, h1, ?_, h3⟩
    simp only [Value.slice.injEq] at h1
    obtain ⟨rfl, _, _⟩ := h1
    exact h.new g rfl
theorem AnsX.cell {e : TypeId} {w : World} {lo g n cap : Nat} {X : List Value} (h : AnsX e w lo (some ⟨g, 0, none⟩) n cap X) (i : Nat) (u : Value) (hu : X[i]? = some u) : w.cell? ⟨g, i, none⟩ = some u := by
  have := h.own.cells (g := g) rfl i u hu
  rw [addr_add, Nat.zero_add] at this
  exact this
theorem AnsX.free {e : TypeId} {w : World} {lo g n cap : Nat} {X : List Value} (h : AnsX e w lo (some ⟨g, 0, none⟩) n cap X) (i : Nat) : w.frozen? ⟨g, i, none⟩ = false := h.own.frozenAt i
theorem AnsX.set {e : TypeId} {w : World} {lo g n cap : Nat} {X : List Value} (h : AnsX e w lo (some ⟨g, 0, none⟩) n cap X) (i : Nat) (u : Value) (h1 : u.oneCell' = true) : AnsX e (w.setCell ⟨g, i, none⟩ u) lo (some ⟨g, 0, none⟩) n cap (X.set i u) := by
  refine ⟨(h.own.stored i u).1, fun v hv => ?_, h.new⟩
  rcases List.mem_or_eq_of_mem_set hv with h2 | h2
  · exact h.one v h2
  · rw [h2]; exact h1
theorem own_baseX {w : World} {base : Nat} {e : TypeId} {v : Value} {n : Nat} {xs : List Value} (h : w.ownsRow base e 1 v n xs) : w.ownsRow 0 e 1 v n xs := by
  refine ⟨h.1, ?_⟩
  rcases h.2 with h2 | ⟨g, cap, cur, h3, h4, h5⟩
  · exact .inl h2
  · exact .inr ⟨g, cap, cur, h3, Nat.zero_le _, h5⟩
end

section
open Go.ChangeShapes Go.WideShapes

/-- a type's shape, as a reading goes through it: fields in a row (a struct, an array), slices, numbers; mt: what a reading tells of cells; n: how much is read -/
structure Sh where
  agg : Bool
  mt : World → Bool → List Value → Nat → Prop
def sumN (F : Nat → Nat) : Nat → Nat
  | 0 => 0
  | n + 1 => sumN F n + F n
def Sh.met (w : World) (full : Bool) (s : Sh) (cs : List Value) (n : Nat) : Prop := s.mt w full cs n
def Sh.bool : Sh := ⟨false, fun w full cs n => n = 1 ∧ ∃ b, cs = [.bool b]⟩
def Sh.int (k : IntKind) : Sh := ⟨false, fun w full cs n => n = 1 ∧ ∃ z, cs = [.int k z] ∧ (Lit.int k z).wf = true⟩
def Sh.str : Sh := ⟨false, fun w full cs n => ∃ s : ByteArray, cs = [.string s] ∧ n = s.size + 1 ∧ s.size ≤ maxLen ∧ (full = true → s.size ≤ reachBytes)⟩
def Sh.slice (c b : Nat) (e : Sh) : Sh := ⟨false, fun w full cs n => (n = 1 ∧ cs = [.slice none 0 0]) ∨
      ∃ (a : Addr) (len cap : Nat) (F : Nat → Nat) (C : Nat → List Value), cs = [.slice (some a) len cap] ∧ n = sumN F cap + 1 ∧ len ≤ cap ∧ cap ≤ maxLen ∧ (full = true → cap * b ≤ reachBytes) ∧
        ∀ i, i < cap → (C i).length = c ∧ (∀ j, j < c → w.cell? (a.add (i * c + j)) = (C i)[j]?) ∧ e.mt w full (C i) (F i)⟩
def Sh.fend : Sh := ⟨true, fun w full cs n => cs = [] ∧ n = 1⟩
def Sh.fcons (c : Nat) (s r : Sh) : Sh := ⟨true, fun w full cs n => ∃ n1 n2, n = n1 + n2 ∧ s.mt w full (cs.take c) n1 ∧ r.mt w full (cs.drop c) n2⟩
def Sh.rep (c : Nat) (s : Sh) : Nat → Sh
  | 0 => .fend
  | n + 1 => .fcons c s (Sh.rep c s n)
def fieldsOf (P : Program) (g : TypeId → Option Sh) (top : Nat) : Nat → List Field → Option Sh
  | off, [] => if off = top then some .fend else none
  | off, f :: r => if f.offset = off then (g f.type).bind fun s => (fieldsOf P g top (off + P.cellsOf f.type) r).map fun q => .fcons (P.cellsOf f.type) s q else none
def shapeOf (P : Program) : Nat → TypeId → Option Sh
  | 0, _ => none
  | f + 1, t => match P.underlying t with
    | some .bool => some .bool
    | some (.int k) => some (.int k)
    | some .string => some .str
    | some (.slice e) => (shapeOf P f e).map fun s => .slice (P.cellsOf e) (P.bytesOf e) s
    | some (.struct fs) => fieldsOf P (shapeOf P f) (P.cellsOf t) 0 fs.toList
    | some (.array n e) => if P.cellsOf t = n * P.cellsOf e then (shapeOf P f e).map fun s => Sh.rep (P.cellsOf e) s n else none
    | _ => none
section
variable {H : Type} {enc : TypeId × Value → H} {P : Program} {w : World} {full : Bool}
theorem bulkAll_append (l r : List (DataW H)) : Rows.uptoBulkAll (l ++ r) = Rows.uptoBulkAll l + Rows.uptoBulkAll r := by
  induction l with
  | nil => simp [Rows.uptoBulkAll]
  | cons d l ih => simp only [List.cons_append, Rows.uptoBulkAll, ih]; omega
theorem bulkAll_range (D : Nat → DataW H) (n : Nat) : Rows.uptoBulkAll ((List.range n).map D) = sumN (fun i => Rows.uptoBulk (D i)) n := by
  induction n with
  | zero => rfl
  | succ n ih => rw [List.range_succ, List.map_append, bulkAll_append, ih]; simp [sumN, Rows.uptoBulkAll]
theorem weights_all {e : TypeId} {n : Nat} {d : DataW H} (hn : n ∈ d.weights P e) : ∀ {l : List (DataW H)}, d ∈ l → n ∈ DataW.weightsAll P e l
  | [], h => by cases h
  | x :: l, h => by
    simp only [DataW.weightsAll, List.mem_append]
    rcases List.mem_cons.1 h with rfl | h
    · exact .inl hn
    · exact .inr (weights_all hn h)
theorem fields_met {g : TypeId → Option Sh} {cs : List Value} {m : Nat}
    (hg : ∀ t s, g t = some s → ∀ cs' d ps, DataW.trod enc P w 0 (fun _ => true) true m t cs' = some (d, ps) → (full = true → ∀ n ∈ d.weights P t, n ≤ reachBytes) → s.met w full cs' (Rows.uptoBulk d)) :
    ∀ (fl : List Field) (off : Nat) (s : Sh) (xs : List (DataW H × List MemPlace)), fieldsOf P g cs.length off fl = some s → xs.length = fl.length →
      (∀ (i : Nat) (f : Field), fl[i]? = some f → DataW.trod enc P w 0 (fun _ => true) true m f.type ((cs.drop f.offset).take (P.cellsOf f.type)) = xs[i]?) →
      (full = true → ∀ n ∈ DataW.weightsEach P (fl.map (·.type)) (xs.map (·.1)), n ≤ reachBytes) → s.met w full (cs.drop off) (Rows.uptoBulkAll (xs.map (·.1)) + 1)
  | [], off, s, xs, hs, hl, hx, hw => by
    unfold fieldsOf at hs
    split at hs
    · rename_i ho
      obtain rfl : xs = [] := List.eq_nil_of_length_eq_zero hl
      cases hs
      exact ⟨by simp [ho], rfl⟩
    · cases hs
  | f :: r, off, s, [], hs, hl, hx, hw => by simp at hl
  | f :: r, off, s, x :: xs, hs, hl, hx, hw => by
    unfold fieldsOf at hs
    split at hs
    case isFalse => cases hs
    rename_i ho
    obtain ⟨s1, h1, h2⟩ := Option.bind_eq_some_iff.1 hs
    obtain ⟨q, h3, rfl⟩ := Option.map_eq_some_iff.1 h2
    have k0 := hx 0 f rfl
    refine ⟨Rows.uptoBulk x.1, Rows.uptoBulkAll (xs.map (·.1)) + 1, ?_, ?_, ?_⟩
    · simp only [List.map_cons, Rows.uptoBulkAll]; omega
    · rw [ho] at k0
      refine hg f.type s1 h1 _ x.1 x.2 k0 fun hf n hn => hw hf n ?_
      simp only [List.map_cons, DataW.weightsEach, List.mem_append]
      exact .inl hn
    · have := fields_met hg r (off + P.cellsOf f.type) q xs h3 (by simpa using hl) (fun i f' hf => hx (i + 1) f' hf) (fun hf n hn => hw hf n (by
        simp only [List.map_cons, DataW.weightsEach, List.mem_append]; exact .inr hn))
      rw [List.drop_drop]
      exact this
theorem rep_met {c : Nat} {s : Sh} {cs : List Value} {m : Nat} {e : TypeId}
    (hg : ∀ cs' d ps, DataW.trod enc P w 0 (fun _ => true) true m e cs' = some (d, ps) → (full = true → ∀ n ∈ d.weights P e, n ≤ reachBytes) → s.met w full cs' (Rows.uptoBulk d)) :
    ∀ (k i0 : Nat) (xs : List (DataW H × List MemPlace)), cs.length = (i0 + k) * c → xs.length = k →
      (∀ i, i < k → DataW.trod enc P w 0 (fun _ => true) true m e ((cs.drop ((i0 + i) * c)).take c) = xs[i]?) →
      (full = true → ∀ n ∈ DataW.weightsAll P e (xs.map (·.1)), n ≤ reachBytes) → (Sh.rep c s k).met w full (cs.drop (i0 * c)) (Rows.uptoBulkAll (xs.map (·.1)) + 1)
  | 0, i0, xs, hc, hl, hx, hw => by
    obtain rfl : xs = [] := List.eq_nil_of_length_eq_zero hl
    exact ⟨by simp [hc], rfl⟩
  | k + 1, i0, [], hc, hl, hx, hw => by simp at hl
  | k + 1, i0, x :: xs, hc, hl, hx, hw => by
    refine ⟨Rows.uptoBulk x.1, Rows.uptoBulkAll (xs.map (·.1)) + 1, ?_, ?_, ?_⟩
    · simp only [List.map_cons, Rows.uptoBulkAll]; omega
    · refine hg _ x.1 x.2 (hx 0 (by omega)) fun hf n hn => hw hf n ?_
      simp only [List.map_cons, DataW.weightsAll, List.mem_append]
      exact .inl hn
    · have := rep_met hg k (i0 + 1) xs (by rw [hc]; congr 1; omega) (by simpa using hl) (fun i hi => by
        have := hx (i + 1) (by omega)
        rw [show i0 + (i + 1) = i0 + 1 + i by omega] at this
        simpa using this) (fun hf n hn => hw hf n (by
        simp only [List.map_cons, DataW.weightsAll, List.mem_append]; exact .inr hn))
      rw [List.drop_drop]
      rw [show i0 * c + c = (i0 + 1) * c by rw [Nat.add_mul]; omega]
      exact this
theorem met_of_trod : ∀ (f : Nat) (t : TypeId) (s : Sh), shapeOf P f t = some s → ∀ (fuel : Nat) (cs : List Value) (d : DataW H) (ps : List MemPlace),
    DataW.trod enc P w 0 (fun _ => true) true fuel t cs = some (d, ps) → (full = true → ∀ n ∈ d.weights P t, n ≤ reachBytes) → s.met w full cs (Rows.uptoBulk d)
  | 0, t, s, hs, _, _, _, _, _, _ => by cases hs
  | f + 1, t, s, hs, fuel, cs, d, ps, h, hw => by
    unfold shapeOf at hs
    split at hs
    · rename_i hu
      cases hs
      obtain ⟨b, rfl, hx⟩ := DataW.trod_bool hu h
      cases hx
      exact ⟨rfl, b, rfl⟩
    · rename_i k hu
      cases hs
      obtain ⟨z, rfl, hx, hz⟩ := DataW.trod_int hu h
      cases hx
      exact ⟨rfl, z, rfl, hz⟩
    · rename_i hu
      cases hs
      obtain ⟨b, rfl, hx, hz⟩ := DataW.trod_string hu h
      cases hx
      have hb : b.data.toList.length = b.size := Array.length_toList
      refine ⟨b, rfl, by simp only [Rows.uptoBulk]; rw [hb], hz, fun hf => ?_⟩
      have := hw hf b.data.toList.length (by simp only [DataW.weights]; exact List.mem_singleton.2 rfl)
      rw [hb] at this
      exact this
    · rename_i e hu
      obtain ⟨s1, h1, rfl⟩ := Option.map_eq_some_iff.1 hs
      rcases Go.Deep.open_slice hu h with ⟨rfl, hx⟩ | ⟨a, len, cap, m, n, D, Pl, rfl, _, hl, hm, hmm, hx, hel⟩
      · cases hx
        exact .inl ⟨by simp [Rows.uptoBulk], rfl⟩
      · simp only [if_true] at hmm
        subst hmm
        cases hx
        have hall : (List.range len).map D ++ (List.range (m - len)).map (fun j => D (len + j)) = (List.range m).map D := by
          have e1 : m = len + (m - len) := by omega
          conv => rhs; rw [e1, List.range_add]
          simp [List.map_append, Function.comp_def]
        have hD : ∀ i, i < m → D i ∈ (List.range len).map D ∨ D i ∈ (List.range (m - len)).map (fun j => D (len + j)) := by
          intro i hi
          have : D i ∈ (List.range m).map D := List.mem_map.2 ⟨i, List.mem_range.2 hi, rfl⟩
          rw [← hall] at this
          exact List.mem_append.1 this
        have each : ∀ i, i < m → ∃ c : List Value, c.length = P.cellsOf e ∧ (∀ j, j < P.cellsOf e → w.cell? (a.add (i * P.cellsOf e + j)) = c[j]?) ∧ s1.met w full c (Rows.uptoBulk (D i)) := by
          intro i hi
          obtain ⟨c, g1, g2⟩ := hel i hi
          obtain ⟨_, g3, g4⟩ := World.cells?_some g1
          refine ⟨c, g3, fun j hj => ?_, met_of_trod f e s1 h1 n c (D i) (Pl i) g2 fun hf k hk => hw hf k ?_⟩
          · rw [← g4 j hj, Go.Deep.add_add]
          · simp only [DataW.weights, hu, List.mem_cons, List.mem_append]
            rcases hD i hi with q | q
            · exact .inr (.inl (weights_all hk q))
            · exact .inr (.inr (weights_all hk q))
        obtain ⟨C, hC⟩ := Go.Deep.choose_lt each
        refine .inr ⟨a, len, m, fun i => Rows.uptoBulk (D i), C, rfl, ?_, hl, hm, fun hf => ?_, hC⟩
        · simp only [Rows.uptoBulk]
          rw [← bulkAll_append, hall, bulkAll_range]
        · have := hw hf ((((List.range len).map D).length + ((List.range (m - len)).map (fun j => D (len + j))).length) * P.bytesOf e) (by
            simp only [DataW.weights, hu]; exact List.mem_cons_self)
          simp only [List.length_map, List.length_range] at this
          rw [show len + (m - len) = m by omega] at this
          exact this
    · rename_i fs hu
      obtain ⟨xs, n, hn, hx, hcl, hxl, hf⟩ := DataW.trod_struct hu h
      cases hx
      rw [← hcl] at hs
      have := fields_met (enc := enc) (P := P) (w := w) (full := full) (cs := cs) (m := n) (fun t' s' h' cs' d' ps' => met_of_trod f t' s' h' n cs' d' ps') fs.toList 0 s xs hs (by simpa using hxl) (fun i f' hf' => hf i f' (by simpa using hf')) (fun hfu k hk => hw hfu k (by simp only [DataW.weights, hu]; exact hk))
      simpa [Rows.uptoBulk] using this
    · rename_i n e hu
      split at hs
      case isFalse => cases hs
      rename_i hc
      obtain ⟨s1, h1, rfl⟩ := Option.map_eq_some_iff.1 hs
      obtain ⟨xs, m, hm, hx, hcl, hxl, hf⟩ := DataW.trod_array hu h
      cases hx
      have := rep_met (enc := enc) (P := P) (w := w) (full := full) (c := P.cellsOf e) (s := s1) (cs := cs) (m := m) (e := e) (fun cs' d' ps' => met_of_trod f e s1 h1 m cs' d' ps') n 0 xs (by rw [hcl, hc]; simp) hxl (fun i hi => by simpa using hf i hi) (fun hfu k hk => hw hfu k (by simp only [DataW.weights, hu]; exact hk))
      simpa [Rows.uptoBulk] using this
    · cases hs
/-- an argument -/
def Sh.shown (w : World) (full : Bool) (s : Sh) (v : Value) (n : Nat) : Prop := match s.agg with
  | true => ∃ cs, v = .agg cs ∧ s.met w full cs.toList n
  | false => s.met w full [v] n
theorem fields_agg {g : TypeId → Option Sh} {top : Nat} : ∀ {fl : List Field} {off : Nat} {s : Sh}, fieldsOf P g top off fl = some s → s.agg = true
  | [], off, s, h => by
    unfold fieldsOf at h
    split at h
    · cases h; rfl
    · cases h
  | f :: r, off, s, h => by
    unfold fieldsOf at h
    split at h
    · obtain ⟨s1, h1, h2⟩ := Option.bind_eq_some_iff.1 h
      obtain ⟨q, h3, rfl⟩ := Option.map_eq_some_iff.1 h2
      rfl
    · cases h
theorem rep_agg (c : Nat) (s : Sh) (n : Nat) : (Sh.rep c s n).agg = true := by
  cases n with
  | zero => rfl
  | succ n => rfl
theorem shown_agg {s : Sh} {cs : Array Value} {n : Nat} (hs : s.agg = true) (h : s.met w full cs.toList n) : s.shown w full (.agg cs) n := by
  unfold Sh.shown
  rw [hs]
  exact ⟨cs, rfl, h⟩
theorem shown_of {f : Nat} {t : TypeId} {s : Sh} (hs : shapeOf P f t = some s) {r : Reach} {base : Nat} {v : Value} {d : DataW H} {ps : List MemPlace} (hv : Value.okWide P w r base t v)
    (h : DataW.Trod enc P w 0 (fun _ => true) true t v d ps) (hw : full = true → ∀ n ∈ d.weights P t, n ≤ reachBytes) : s.shown w full v (Rows.uptoBulk d) := by
  obtain ⟨fuel, hf⟩ := h
  have hm := met_of_trod (full := full) f t s hs fuel _ d ps hf hw
  cases f with
  | zero => cases hs
  | succ f =>
    unfold shapeOf at hs
    split at hs
    · rename_i hu
      cases hs
      obtain ⟨b, rfl⟩ := okWide_bool hu hv
      exact hm
    · rename_i k hu
      cases hs
      obtain ⟨z, rfl⟩ := okWide_int hu hv
      exact hm
    · rename_i hu
      cases hs
      obtain ⟨z, rfl⟩ := okWide_string hu hv
      exact hm
    · rename_i e hu
      obtain ⟨s1, h1, rfl⟩ := Option.map_eq_some_iff.1 hs
      obtain ⟨a, l, c, rfl⟩ := okWide_slice hu hv
      exact hm
    · rename_i fs hu
      obtain ⟨cs, rfl, _⟩ := okWide_struct hu hv
      exact shown_agg (fields_agg hs) hm
    · rename_i n e hu
      split at hs
      case isFalse => cases hs
      obtain ⟨s1, h1, rfl⟩ := Option.map_eq_some_iff.1 hs
      have hv2 := hv
      simp only [Value.okWide, hu] at hv2
      obtain ⟨cs, rfl, _⟩ := hv2
      exact shown_agg (rep_agg _ _ _) hm
    · cases hs
end
end

section
theorem Ans.set {w : World} {lo g n cap : Nat} {L : List Nat} (h : Ans w lo (some ⟨g, 0, none⟩) n cap L) (j x : Nat) (hx : x < 256) : Ans (w.setCell ⟨g, j, none⟩ (.int .u8 (x : Int))) lo (some ⟨g, 0, none⟩) n cap (L.set j x) :=
  ⟨own_set h.own j x, isB_set h.byte _ _ hx, h.new⟩
theorem Ans.wide {w : World} {lo lo' : Nat} {a : Option Addr} {n cap : Nat} {L : List Nat} (h : Ans w lo a n cap L) (hl : lo' ≤ lo) : Ans w lo' a n cap L := ⟨h.own, h.byte, fun g hg => Nat.le_trans hl (h.new g hg)⟩
end
end Go.Proofs.Ytpcejajijaphbaa
