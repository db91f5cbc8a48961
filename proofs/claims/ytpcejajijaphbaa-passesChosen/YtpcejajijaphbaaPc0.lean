import Derived.Test.YtpcejajijaphbaaRows
import Derived.WalkKit
import Derived.WalkSpells
import Derived.WalkLawsBesides
import Derived.Laws.BitsAllLaws
import Derived.Outline
import Derived.Deep.QuietTactic
import Derived.BigQuiet
import Derived.Laws.CopyOwn
import Derived.Laws.AppendOwnNone
import Derived.Deep.RegionHeld3
import Derived.Laws.BytesArg
import Derived.ArgAppend
import Derived.Laws.Rows
import Derived.Laws.Tables
import Derived.Deep.DeepAppendWide
import Derived.OpenShut
namespace Go.Proofs.Ytpcejajijaphbaa
open Go.RowKit
set_option maxRecDepth 100000
set_option linter.unusedVariables false
set_option linter.unusedSimpArgs false

section
/-
  The field of 256 numbers, plainly: products by doubling, the document's product (all out, then the rest), inverses, powers of 2. No Go in sight.
-/
namespace Fld
/-- x times 2 -/
def dbl (a : Nat) : Nat := if a < 128 then 2 * a else (2 * a % 256) ^^^ 135
def dblN : Nat → Nat → Nat
  | 0, a => a
  | k + 1, a => dbl (dblN k a)
def mulS (a b : Nat) : Nat → Nat
  | 0 => 0
  | k + 1 => mulS a b k ^^^ (if b.testBit k then dblN k a else 0)
def mul (a b : Nat) : Nat := mulS a b 8

/-! two additive functions that agree at the bits agree -/
theorem mul_one_all : ∀ a, a < 256 → mul a 1 = a := by decide +kernel
theorem mul_one {a : Nat} (h : a < 256) : mul a 1 = a := mul_one_all a h
/-! powers and inverse -/
def pw (b : Nat) : Nat → Nat
  | 0 => 1
  | n + 1 => mul (pw b n) b
/-! the document's product: all out, then the rest -/
/-! logs -/
/-- the powers, one behind the other: does a come among the k from p on? -/
def comes (a : Nat) : Nat → Nat → Bool
  | 0, _ => false
  | k + 1, p => p == a || comes a k (dbl p)
end Fld

/-! the document's -/
/-! powers of 2 -/
/-! the contracts once more, over whole numbers: they fit whatever stands in a slot -/
end

section
/-! lists of bytes, and how they lie in memory -/
def nth (L : List Nat) (k : Nat) : Nat := L.getD k 0
def bys (L : List Nat) : List Value := L.map fun (n : Nat) => Value.int .u8 (n : Int)
def IsB (L : List Nat) : Prop := ∀ x, x ∈ L → x < 256
theorem IsB.nth {L : List Nat} (h : IsB L) (k : Nat) : nth L k < 256 := by
  unfold Go.Proofs.Ytpcejajijaphbaa.nth
  by_cases hk : k < L.length
  · rw [List.getD_eq_getElem?_getD, List.getElem?_eq_getElem hk]; exact h _ (List.getElem_mem hk)
  · rw [List.getD_eq_getElem?_getD, List.getElem?_eq_none (by omega)]; decide
/-- A slice of bytes as it is read: n of them, the numbers L. -/
structure Rd (w : World) (a : Option Addr) (n cap : Nat) (L : List Nat) : Prop where
  len : L.length = n
  le : n ≤ cap
  max : cap ≤ maxLen
  nil : a = none → cap = 0
  byte : IsB L
  at' : 0 < n → ∃ b off, a = some ⟨b, off, none⟩ ∧ b < w.heap.size ∧ ∀ i, i < n → w.cell? ⟨b, off + i, none⟩ = some (.int .u8 (nth L i : Nat))
/-- Block g is a row of bytes, the call's own: the numbers L. -/
def Blk (w : World) (g : Nat) (L : List Nat) : Prop := w.heap[g]? = some (.cells (bys L).toArray 5)
theorem nth_bys (L : List Nat) (i : Nat) (hi : i < L.length) : (bys L)[i]? = some (.int .u8 (nth L i : Nat)) := by
  unfold bys nth
  rw [List.getElem?_map, List.getElem?_eq_getElem hi, List.getD_eq_getElem?_getD, List.getElem?_eq_getElem hi]; rfl
theorem Blk.lt {w : World} {g : Nat} {L : List Nat} (h : Blk w g L) : g < w.heap.size := (Array.getElem?_eq_some_iff.1 h).1
theorem Blk.cell {w : World} {g : Nat} {L : List Nat} (h : Blk w g L) (i : Nat) (hi : i < L.length) : w.cell? ⟨g, i, none⟩ = some (.int .u8 (nth L i : Nat)) := by
  rw [cell_of_row w g i _ _ _ h]; simpa using nth_bys L i hi
theorem Blk.free {w : World} {g : Nat} {L : List Nat} (h : Blk w g L) (i : Nat) : w.frozen? ⟨g, i, none⟩ = false := frozen_of_row w g i _ _ h
theorem Blk.set {w : World} {g : Nat} {L : List Nat} (h : Blk w g L) (i x : Nat) : Blk (w.setCell ⟨g, i, none⟩ (.int .u8 (x : Int))) g (L.set i x) := by
  unfold Blk
  rw [heap_setCell_same w g i _ _ _ h]
  simp [bys, List.map_set]
theorem Blk.grown {w w' : World} {g : Nat} {L : List Nat} {r : Option Nat} (h : Blk w g L) (hg : w.grownBy w' r) (hne : some g ≠ r) : Blk w' g L := by
  unfold Blk; rw [hg.block g h.lt hne]; exact h
theorem Blk.below {w w' : World} {g B : Nat} {L : List Nat} (h : Blk w g L) (hb : Below B w w') (hl : g < B) : Blk w' g L := by
  unfold Blk; rw [hb.block g hl]; exact h
theorem grown_set (w : World) (g i : Nat) (v : Value) : w.grownBy (w.setCell ⟨g, i, none⟩ v) (some g) :=
  ⟨rfl, rfl, rfl, by simp [World.setCell], fun k _ hk => heap_setCell_other w _ k v (fun e => hk (by rw [e]))⟩
theorem grown_trans {a b c : World} {r : Option Nat} (h : a.grownBy b r) (k : b.grownBy c r) : a.grownBy c r :=
  ⟨k.os.trans h.os, k.tape.trans h.tape, k.output.trans h.output, Nat.le_trans h.size k.size, fun i hi hn => (k.block i (Nat.lt_of_lt_of_le hi h.size) hn).trans (h.block i hi hn)⟩
theorem grown_drew (w : World) (r : Option Nat) : w.grownBy w.drew r := ⟨rfl, rfl, rfl, Nat.le_refl _, fun _ _ _ => rfl⟩
theorem grown_weak {a b : World} (h : a.grownBy b none) (r : Option Nat) : a.grownBy b r := ⟨h.os, h.tape, h.output, h.size, fun k hk _ => h.block k hk (by simp)⟩
theorem Rd.grown {w w' : World} {a : Option Addr} {n cap : Nat} {L : List Nat} {r : Option Nat} (h : Rd w a n cap L) (hg : w.grownBy w' r) (hne : ∀ b off, a = some ⟨b, off, none⟩ → some b ≠ r) : Rd w' a n cap L := by
  refine ⟨h.len, h.le, h.max, h.nil, h.byte, fun h0 => ?_⟩
  obtain ⟨b, off, rfl, hb, hc⟩ := h.at' h0
  refine ⟨b, off, rfl, Nat.lt_of_lt_of_le hb hg.size, fun i hi => ?_⟩
  exact (World.cell?_of_block (w := w) (hg.block b hb (hne b off rfl))).trans (hc i hi)

theorem Rd.ne {w : World} {a : Option Addr} {n cap g : Nat} {L : List Nat} (h : Rd w a n cap L) (hg : w.heap.size ≤ g) : 0 < n → ∀ b off, a = some ⟨b, off, none⟩ → some b ≠ some g := by
  intro h0 b off e
  obtain ⟨b', off', e', hb, _⟩ := h.at' h0
  rw [e'] at e
  cases e
  simp; omega
theorem isB_set {L : List Nat} (h : IsB L) (i x : Nat) (hx : x < 256) : IsB (L.set i x) := by
  intro y hy
  rcases List.mem_or_eq_of_mem_set hy with h1 | h1
  · exact h y h1
  · rw [h1]; exact hx
theorem bys_length (L : List Nat) : (bys L).length = L.length := by simp [bys]

theorem isB_take {A : List Nat} (h : IsB A) (n : Nat) : IsB (A.take n) := fun x hx => h x (List.mem_of_mem_take hx)

/-- a copy of L with marks in its spare room -/
structure Roomy (w : World) (g n : Nat) (L D : List Nat) : Prop where
  blk : Blk w g D
  len : D.length = n + 5
  byte : IsB D
  own : ∀ i, i < n → nth D i = nth L i
  mark : ∀ i, n ≤ i → i < n + 5 → nth D i = (90 + i) % 256
theorem grown_drewN (w : World) (n : Nat) (r : Option Nat) : w.grownBy (w.drewN n) r := ⟨rfl, rfl, rfl, Nat.le_refl _, fun _ _ _ => rfl⟩
theorem Roomy.grown {w w' : World} {g n : Nat} {L D : List Nat} {r : Option Nat} (h : Roomy w g n L D) (hg : w.grownBy w' r) (hne : some g ≠ r) : Roomy w' g n L D :=
  ⟨h.blk.grown hg hne, h.len, h.byte, h.own, h.mark⟩

theorem addr_add (b off j : Nat) : (⟨b, off, none⟩ : Addr).add j = ⟨b, off + j, none⟩ := by unfold Addr.add; split <;> simp_all

theorem own_cell {w : World} {g n cap : Nat} {L : List Nat} (h : w.ownsRow 0 5 1 (.slice (some ⟨g, 0, none⟩) n cap) n (bys L)) (j : Nat) (hj : j < n) : w.cell? ⟨g, j, none⟩ = some (.int .u8 (nth L j : Nat)) := by
  have hl : L.length = n := by have := h.1; rw [bys_length] at this; omega
  rw [h.cellAt j (by omega)]
  exact nth_bys L j (by omega)
theorem own_set {w : World} {g n cap : Nat} {L : List Nat} (h : w.ownsRow 0 5 1 (.slice (some ⟨g, 0, none⟩) n cap) n (bys L)) (j x : Nat) :
    (w.setCell ⟨g, j, none⟩ (.int .u8 (x : Int))).ownsRow 0 5 1 (.slice (some ⟨g, 0, none⟩) n cap) n (bys (L.set j x)) := by
  have := (h.stored j (.int .u8 (x : Int))).1
  have e : (bys L).set j (.int .u8 (x : Int)) = bys (L.set j x) := by simp [bys, List.map_set]
  rw [e] at this; exact this
theorem grown_new {a b c : World} {g : Nat} {r : Option Nat} (h : a.grownBy b r) (k : b.grownBy c (some g)) (hg : r = some g ∨ a.heap.size ≤ g) : a.grownBy c r :=
  ⟨k.os.trans h.os, k.tape.trans h.tape, k.output.trans h.output, Nat.le_trans h.size k.size, fun i hi hn => (k.block i (Nat.lt_of_lt_of_le hi h.size) (by rcases hg with rfl | hg <;> simp_all <;> omega)).trans (h.block i hi hn)⟩
/-- An answer: the bytes L, in memory of its own, from block lo on. -/
structure Ans (w : World) (lo : Nat) (a : Option Addr) (n cap : Nat) (L : List Nat) : Prop where
  own : w.ownsRow 0 5 1 (.slice a n cap) n (bys L)
  byte : IsB L
  new : ∀ g, (Value.slice a n cap).ownBlock = some g → lo ≤ g
theorem Ans.len {w : World} {lo : Nat} {a : Option Addr} {n cap : Nat} {L : List Nat} (h : Ans w lo a n cap L) : L.length = n := by
  have := h.own.1; rw [bys_length] at this; omega
theorem Ans.cases {w : World} {lo : Nat} {a : Option Addr} {n cap : Nat} {L : List Nat} (h : Ans w lo a n cap L) :
    (a = none ∧ n = 0 ∧ cap = 0) ∨ ∃ g, a = some ⟨g, 0, none⟩ ∧ lo ≤ g ∧ g < w.heap.size := by
  rcases h.own.2 with ⟨h1, h2⟩ | ⟨g, cap', cur, h1, _, h3, _⟩
  · simp only [Value.slice.injEq] at h1; exact .inl h1
  · simp only [Value.slice.injEq] at h1
    obtain ⟨rfl, _, _⟩ := h1
    exact .inr ⟨g, rfl, h.new g rfl, (Array.getElem?_eq_some_iff.1 h3).1⟩
theorem Ans.max {w : World} {lo : Nat} {a : Option Addr} {n cap : Nat} {L : List Nat} (h : Ans w lo a n cap L) : n ≤ cap ∧ cap ≤ maxLen := by
  rcases h.own.2 with ⟨h1, h2⟩ | ⟨g, cap', cur, h1, _, h3, h4, h5, _⟩
  · simp only [Value.slice.injEq] at h1; obtain ⟨_, h6, h7⟩ := h1; subst h6; subst h7; exact ⟨Nat.le_refl _, Nat.zero_le _⟩
  · simp only [Value.slice.injEq] at h1; obtain ⟨_, _, h7⟩ := h1; subst h7; exact ⟨h4, h5⟩
theorem Ans.rd {w : World} {lo : Nat} {a : Option Addr} {n cap : Nat} {L : List Nat} (h : Ans w lo a n cap L) : Rd w a n cap L := by
  refine ⟨h.len, h.max.1, h.max.2, fun h0 => ?_, h.byte, fun h0 => ?_⟩
  · rcases h.cases with ⟨_, _, h3⟩ | ⟨g, h1, _⟩
    · exact h3
    · rw [h0] at h1; cases h1
  · rcases h.cases with ⟨_, h2, _⟩ | ⟨g, rfl, _, hl⟩
    · omega
    · exact ⟨g, 0, rfl, hl, fun i hi => by rw [Nat.zero_add]; exact own_cell h.own i hi⟩
theorem Ans.kept {w w' : World} {lo : Nat} {a : Option Addr} {n cap : Nat} {L : List Nat} {r : Option Nat} (h : Ans w lo a n cap L) (hg : w.grownBy w' r) (hne : (Value.slice a n cap).ownBlock = none ∨ (Value.slice a n cap).ownBlock ≠ r) : Ans w' lo a n cap L :=
  ⟨h.own.kept hg hne, h.byte, h.new⟩
theorem Blk.ans {w : World} {g n lo : Nat} {D : List Nat} (h : Blk w g D) (hB : IsB D) (hn : n ≤ D.length) (hm : D.length ≤ maxLen) (hlo : lo ≤ g) : Ans w lo (some ⟨g, 0, none⟩) n D.length (D.take n) := by
  refine ⟨⟨by rw [bys_length, List.length_take]; omega, .inr ⟨g, D.length, _, rfl, Nat.zero_le _, h, hn, hm, by simp [bys], ?_⟩⟩, isB_take hB _, ?_⟩
  · simp [bys, List.map_take]
  · intro g' hg'; simp [Value.ownBlock] at hg'; omega
theorem Blk.rd {w : World} {g n : Nat} {D : List Nat} (h : Blk w g D) (hB : IsB D) (hl : D.length = n) (hm : n ≤ maxLen) : Rd w (some ⟨g, 0, none⟩) n n D :=
  ⟨hl, Nat.le_refl _, hm, (fun h => by cases h), hB, fun _ => ⟨g, 0, rfl, h.lt, fun i hi => by rw [Nat.zero_add]; exact h.cell i (by omega)⟩⟩
end

section
theorem Roomy.rd {w : World} {g n : Nat} {L D : List Nat} (h : Roomy w g n L D) (hL : IsB L) (hl : L.length = n) (hn : n ≤ 140737488351232) : Rd w (some ⟨g, 0, none⟩) n (n + 5) L :=
  ⟨hl, by omega, by unfold maxLen; omega, (fun h => by cases h), hL, fun _ => ⟨g, 0, rfl, h.blk.lt, fun i hi => by rw [Nat.zero_add, ← h.own i hi]; exact h.blk.cell i (by rw [h.len]; omega)⟩⟩
theorem grown_far {a b c : World} {r : Option Nat} (h : a.grownBy b none) (k : b.grownBy c r) (hr : ∀ g, r = some g → a.heap.size ≤ g) : a.grownBy c none :=
  ⟨k.os.trans h.os, k.tape.trans h.tape, k.output.trans h.output, Nat.le_trans h.size k.size, fun i hi hn => (k.block i (Nat.lt_of_lt_of_le hi h.size) (fun e => by have := hr i e.symm; omega)).trans (h.block i hi hn)⟩
theorem Ans.later {wa wb : World} {lo lo' : Nat} {a b : Option Addr} {n m cap cap' : Nat} {L M : List Nat} (ha : Ans wa lo a n cap L) (hb : Ans wb lo' b m cap' M) (h : wa.heap.size ≤ lo') :
    ∀ g off, b = some ⟨g, off, none⟩ → some g ≠ (Value.slice a n cap).ownBlock := by
  intro g off e
  rcases hb.cases with ⟨rfl, _, _⟩ | ⟨gb, rfl, h1, _⟩
  · cases e
  · cases e
    rcases ha.cases with ⟨rfl, _, _⟩ | ⟨ga, rfl, _, h2⟩
    · simp [Value.ownBlock]
    · simp only [Value.ownBlock, ne_eq, Option.some.injEq]; omega
theorem Ans.far {wa : World} {lo : Nat} {a : Option Addr} {n cap : Nat} {L : List Nat} (ha : Ans wa lo a n cap L) (B : Nat) (h : B ≤ lo) : ∀ g, (Value.slice a n cap).ownBlock = some g → B ≤ g := fun g hg => Nat.le_trans h (ha.new g hg)
theorem Ans.keep {w w' : World} {lo : Nat} {a : Option Addr} {n cap : Nat} {L : List Nat} (h : Ans w lo a n cap L) (hg : w.grownBy w' none) : Ans w' lo a n cap L :=
  h.kept hg (by cases (Value.slice a n cap).ownBlock <;> simp)
theorem Rd.keep {w w' : World} {a : Option Addr} {n cap : Nat} {L : List Nat} (h : Rd w a n cap L) (hg : w.grownBy w' none) : Rd w' a n cap L := h.grown hg (fun _ _ _ => by simp)
theorem Roomy.keep {w w' : World} {g n : Nat} {L D : List Nat} (h : Roomy w g n L D) (hg : w.grownBy w' none) : Roomy w' g n L D := h.grown hg (by simp)
end

section
/-- a value of several cells in a box -/
def BxS (w : World) (g : Nat) (t : TypeId) (cs : Array Value) : Prop := w.heap[g]? = some (.cells cs t)
theorem BxS.lt {w : World} {g : Nat} {t : TypeId} {cs : Array Value} (h : BxS w g t cs) : g < w.heap.size := (Array.getElem?_eq_some_iff.1 h).1
theorem BxS.free {w : World} {g : Nat} {t : TypeId} {cs : Array Value} (h : BxS w g t cs) (i : Nat) : w.frozen? ⟨g, i, none⟩ = false := frozen_of_row w g i _ _ h
theorem BxS.cell {w : World} {g : Nat} {t : TypeId} {cs : Array Value} (h : BxS w g t cs) (i : Nat) (hi : i < cs.size) : w.cell? ⟨g, i, none⟩ = some cs[i] := by
  rw [cell_of_row w g i cs t (0, 0) h, Array.getElem?_eq_getElem hi]
theorem BxS.keep {w w' : World} {g : Nat} {t : TypeId} {cs : Array Value} {r : Option Nat} (h : BxS w g t cs) (hg : w.grownBy w' r) (hne : some g ≠ r) : BxS w' g t cs := (hg.block g h.lt hne).trans h
theorem BxS.new (w : World) (t : TypeId) (cs : Array Value) : BxS (w.alloc (.cells cs t)) w.heap.size t cs := heap_alloc_new w _
theorem BxS.set {w : World} {g : Nat} {t : TypeId} {cs : Array Value} (h : BxS w g t cs) (i : Nat) (v : Value) : BxS (w.setCell ⟨g, i, none⟩ v) g t (cs.set! i v) := by
  unfold BxS
  rw [setCell_eq_setRow w g i _ _ _ _ h]
  exact setRow_heap w g _ _ _ _ h
theorem BxS.row {w : World} {g : Nat} {t : TypeId} {cs : Array Value} (h : BxS w g t cs) (ds : Array Value) : BxS (w.setRow g ds) g t ds := setRow_heap w g _ _ _ _ h
theorem BxS.load {w : World} {g : Nat} {t : TypeId} {cs : Array Value} (h : BxS w g t cs) {fs : Array Field} (hu : Try.prog.underlying t = some (.struct fs)) (hi : (Try.prog.info? t).map (·.size) = some cs.size) :
    (loadVar t ⟨g, 0, none⟩).run Try.prog w = .ok (.agg cs) w := run_loadVar_row w g t t cs (0, 0) (.struct fs) h hu rfl hi
/-- a whole value is stored into a box -/
theorem wpList_stX (w : World) {ops : Array Oper} {rest : List Oper} {o : Oper} {a : Act} {Q : Exit → Act → World → Prop} (hg : o.guard = none) (t : TypeId) (p v : Operand) (hop : o.op = Op.store t p v)
    (g : Nat) (cs ds : Array Value) (hp : a.eval p = .pointer (some ⟨g, 0, none⟩)) (hv : a.eval v = .agg ds) (h : BxS w g t cs) (hi : (Try.prog.info? t).map (·.size) = some ds.size) (ho : cs.size = ds.size) (h1 : ds.all (·.oneCell') = true)
    (hK : ∀ w', BxS w' g t ds → w.grownBy w' (some g) → wpList Try.prog ops Q rest (a.put o.dst undef) w') :
    wpList Try.prog ops Q (o :: rest) a w := by
  refine wpList_plain hg fun K hK' => ?_
  have hst : (Instr.storeAt t (.pointer (some ⟨g, 0, none⟩)) (.agg ds)).run Try.prog w = .ok () (w.setRow g ds) := by
    simp only [Instr.storeAt, Instr.sureAddr, Sem.run_bind, Sem.run_pure, Result.andThen]
    exact run_storeVar_row w g t t cs ds h hi ho h1
  unfold Oper.wp
  simp [execOp, hop, hp, hv, hst, Result.andThen]
  exact hK' _ _ (hK _ (h.row ds) ⟨rfl, rfl, rfl, by simp, fun k _ hk => setRow_other w g k _ (fun e => hk (by rw [e]))⟩)
/-- one cell of a box is written -/
theorem wpList_stC (w : World) {ops : Array Oper} {rest : List Oper} {o : Oper} {a : Act} {Q : Exit → Act → World → Prop} (hg : o.guard = none) (t : TypeId) (p x : Operand) (hop : o.op = Op.store t p x)
    (g i : Nat) (ty : TypeId) (A A' : Array Value) (v : Value) (hp : a.eval p = .pointer (some ⟨g, i, none⟩)) (hx : a.eval x = v) (hB : BxS w g ty A)
    (hst : ∀ w' : World, (∃ u, w'.cell? ⟨g, i, none⟩ = some u) → w'.frozen? ⟨g, i, none⟩ = false → (Instr.storeAt t (.pointer (some ⟨g, i, none⟩)) v).run Try.prog w' = .ok () (w'.setCell ⟨g, i, none⟩ v)) (hi : i < A.size) (hA : A.setIfInBounds i v = A')
    (hK : ∀ w', BxS w' g ty A' → w.grownBy w' (some g) → wpList Try.prog ops Q rest (a.put o.dst undef) w') :
    wpList Try.prog ops Q (o :: rest) a w := by
  refine wpList_plain hg fun K hK' => ?_
  have hc : ∃ u, w.cell? ⟨g, i, none⟩ = some u := ⟨A[i], by rw [cell_of_row w g i _ _ _ hB]; simp [hi]⟩
  have hf := frozen_of_row w g i _ _ hB
  unfold Oper.wp
  simp [execOp, hop, hp, hx, hst w hc hf, Result.andThen]
  exact hK' _ _ (hK _ (by unfold BxS; rw [heap_setCell_same w g i _ _ _ hB, hA]) (grown_set w g i v))
theorem stc_int (g i : Nat) (n : Int) (w : World) (hc : ∃ u, w.cell? ⟨g, i, none⟩ = some u) (hf : w.frozen? ⟨g, i, none⟩ = false) : (Instr.storeAt 3 (.pointer (some ⟨g, i, none⟩)) (.int .i64 n)).run Try.prog w = .ok () (w.setCell ⟨g, i, none⟩ (.int .i64 n)) := by
  obtain ⟨u, hc⟩ := hc
  simp [go_sem, hc, hf]
end

section
/-- t: slices of e, whose values take one cell -/
structure ElT (t e : TypeId) (z : Value) (by' : Nat) : Prop where
  und : Try.prog.underlying t = some (.slice e)
  inf : (Try.prog.info? e).map (fun i => (i.zero, i.size, i.bytes)) = some (some z, 1, by')
  one : z.cells.size = 1
  pos : by' ≤ 16
/-- a slice as it is read -/
structure RdX (w : World) (a : Option Addr) (n cap : Nat) (X : List Value) : Prop where
  len : X.length = n
  le : n ≤ cap
  max : cap ≤ maxLen
  nil : a = none → cap = 0
  one : ∀ u, u ∈ X → u.oneCell' = true
  at' : 0 < n → ∃ b off, a = some ⟨b, off, none⟩ ∧ b < w.heap.size ∧ ∀ i u, X[i]? = some u → w.cell? ⟨b, off + i, none⟩ = some u
theorem RdX.grown {w w' : World} {a : Option Addr} {n cap : Nat} {X : List Value} {r : Option Nat} (h : RdX w a n cap X) (hg : w.grownBy w' r) (hne : ∀ b off, a = some ⟨b, off, none⟩ → some b ≠ r) : RdX w' a n cap X := by
  refine ⟨h.len, h.le, h.max, h.nil, h.one, fun h0 => ?_⟩
  obtain ⟨b, off, rfl, hb, hc⟩ := h.at' h0
  refine ⟨b, off, rfl, Nat.lt_of_lt_of_le hb hg.size, fun i u hu => ?_⟩
  exact (World.cell?_of_block (w := w) (hg.block b hb (hne b off rfl))).trans (hc i u hu)
theorem RdX.keep {w w' : World} {a : Option Addr} {n cap : Nat} {X : List Value} (h : RdX w a n cap X) (hg : w.grownBy w' none) : RdX w' a n cap X := h.grown hg (fun _ _ _ => by simp)
theorem RdX.nil0 (w : World) : RdX w none 0 0 [] := ⟨rfl, Nat.le_refl _, Nat.zero_le _, fun _ => rfl, (fun u h => by cases h), fun h => absurd h (by decide)⟩
/-- a row of the call's own, in memory from block lo on -/
structure AnsX (e : TypeId) (w : World) (lo : Nat) (a : Option Addr) (n cap : Nat) (X : List Value) : Prop where
  own : w.ownsRow 0 e 1 (.slice a n cap) n X
  one : ∀ u, u ∈ X → u.oneCell' = true
  new : ∀ g, (Value.slice a n cap).ownBlock = some g → lo ≤ g
theorem AnsX.len {e : TypeId} {w : World} {lo : Nat} {a : Option Addr} {n cap : Nat} {X : List Value} (h : AnsX e w lo a n cap X) : X.length = n := by
  have := h.own.1; omega
theorem AnsX.cases {e : TypeId} {w : World} {lo : Nat} {a : Option Addr} {n cap : Nat} {X : List Value} (h : AnsX e w lo a n cap X) :
    (a = none ∧ n = 0 ∧ cap = 0) ∨ ∃ g, a = some ⟨g, 0, none⟩ ∧ lo ≤ g ∧ g < w.heap.size := by
  rcases h.own.2 with ⟨h1, h2⟩ | ⟨g, cap', cur, h1, _, h3, _⟩
  · simp only [Value.slice.injEq] at h1; exact .inl h1
  · simp only [Value.slice.injEq] at h1
    obtain ⟨rfl, _, _⟩ := h1
    exact .inr ⟨g, rfl, h.new g rfl, (Array.getElem?_eq_some_iff.1 h3).1⟩
theorem AnsX.ty {e : TypeId} {w : World} {lo : Nat} {g n cap : Nat} {X : List Value} (h : AnsX e w lo (some ⟨g, 0, none⟩) n cap X) : ∃ cs fr, w.heap[g]? = some (.cells cs e fr) := by
  rcases h.own.2 with ⟨h1, h2⟩ | ⟨g', cap', cur, h1, _, h3, _⟩
  · simp at h1
  · simp only [Value.slice.injEq, Option.some.injEq, Addr.mk.injEq] at h1
    obtain ⟨⟨rfl, _⟩, _⟩ := h1
    exact ⟨_, _, h3⟩
theorem AnsX.max {e : TypeId} {w : World} {lo : Nat} {a : Option Addr} {n cap : Nat} {X : List Value} (h : AnsX e w lo a n cap X) : n ≤ cap ∧ cap ≤ maxLen := by
  rcases h.own.2 with ⟨h1, h2⟩ | ⟨g, cap', cur, h1, _, h3, h4, h5, _⟩
  · simp only [Value.slice.injEq] at h1; obtain ⟨_, h6, h7⟩ := h1; subst h6; subst h7; exact ⟨Nat.le_refl _, Nat.zero_le _⟩
  · simp only [Value.slice.injEq] at h1; obtain ⟨_, _, h7⟩ := h1; subst h7; exact ⟨h4, h5⟩
theorem AnsX.rd {e : TypeId} {w : World} {lo : Nat} {a : Option Addr} {n cap : Nat} {X : List Value} (h : AnsX e w lo a n cap X) : RdX w a n cap X := by
  refine ⟨h.len, h.max.1, h.max.2, fun h0 => ?_, h.one, fun h0 => ?_⟩
  · rcases h.cases with ⟨_, _, h3⟩ | ⟨g, h1, _⟩
    · exact h3
    · rw [h0] at h1; cases h1
  · rcases h.cases with ⟨_, h2, _⟩ | ⟨g, rfl, _, hl⟩
    · omega
    · refine ⟨g, 0, rfl, hl, fun i u hu => ?_⟩
      have := h.own.cells (g := g) rfl i u hu
      rw [addr_add] at this
      exact this
theorem AnsX.kept {e : TypeId} {w w' : World} {lo : Nat} {a : Option Addr} {n cap : Nat} {X : List Value} {r : Option Nat} (h : AnsX e w lo a n cap X) (hg : w.grownBy w' r) (hne : (Value.slice a n cap).ownBlock = none ∨ (Value.slice a n cap).ownBlock ≠ r) : AnsX e w' lo a n cap X :=
  ⟨h.own.kept hg hne, h.one, h.new⟩
theorem AnsX.keep {e : TypeId} {w w' : World} {lo : Nat} {a : Option Addr} {n cap : Nat} {X : List Value} (h : AnsX e w lo a n cap X) (hg : w.grownBy w' none) : AnsX e w' lo a n cap X :=
  h.kept hg (by cases (Value.slice a n cap).ownBlock <;> simp)
theorem AnsX.low {e : TypeId} {w : World} {lo lo' : Nat} {a : Option Addr} {n cap : Nat} {X : List Value} (h : AnsX e w lo a n cap X) (hl : lo' ≤ lo) : AnsX e w lo' a n cap X :=
  ⟨h.own, h.one, fun g hg => Nat.le_trans hl (h.new g hg)⟩
theorem AnsX.lt {e : TypeId} {w : World} {lo : Nat} {a : Option Addr} {n cap : Nat} {X : List Value} (h : AnsX e w lo a n cap X) : ∀ g, (Value.slice a n cap).ownBlock = some g → g < w.heap.size := by
  intro g hg
  rcases h.cases with ⟨rfl, _, _⟩ | ⟨g', rfl, _, hl⟩
  · simp [Value.ownBlock] at hg
  · have : g' = g := by simpa [Value.ownBlock] using hg
    omega
theorem AnsX.nil0 (e : TypeId) (w : World) (lo : Nat) : AnsX e w lo none 0 0 [] := ⟨World.ownsRow_nil _ _ _ _, (fun u h => by cases h), fun g h => by simp [Value.ownBlock] at h⟩
theorem AnsX.up {e : TypeId} {w : World} {lo : Nat} {a : Option Addr} {n cap : Nat} {X : List Value} (h : AnsX e w lo a n cap X) : w.ownsRow lo e 1 (.slice a n cap) n X := by
  refine ⟨h.own.1, ?_⟩
  rcases h.own.2 with h1 | ⟨g, c1, cur, h1, h2, h3⟩
  · exact .inl h1
  · refine .inr ⟨g, c1, cur, h1, ?_, h3⟩
    simp only [Value.slice.injEq] at h1
    obtain ⟨rfl, _, _⟩ := h1
    exact h.new g rfl
theorem AnsX.cell {e : TypeId} {w : World} {lo g n cap : Nat} {X : List Value} (h : AnsX e w lo (some ⟨g, 0, none⟩) n cap X) (i : Nat) (u : Value) (hu : X[i]? = some u) : w.cell? ⟨g, i, none⟩ = some u := by
  have := h.own.cells (g := g) rfl i u hu
  rw [addr_add, Nat.zero_add] at this
  exact this
theorem AnsX.free {e : TypeId} {w : World} {lo g n cap : Nat} {X : List Value} (h : AnsX e w lo (some ⟨g, 0, none⟩) n cap X) (i : Nat) : w.frozen? ⟨g, i, none⟩ = false := h.own.frozenAt i
theorem AnsX.set {e : TypeId} {w : World} {lo g n cap : Nat} {X : List Value} (h : AnsX e w lo (some ⟨g, 0, none⟩) n cap X) (i : Nat) (u : Value) (h1 : u.oneCell' = true) : AnsX e (w.setCell ⟨g, i, none⟩ u) lo (some ⟨g, 0, none⟩) n cap (X.set i u) := by
  refine ⟨(h.own.stored i u).1, fun v hv => ?_, h.new⟩
  rcases List.mem_or_eq_of_mem_set hv with h2 | h2
  · exact h.one v h2
  · rw [h2]; exact h1
theorem own_baseX {w : World} {base : Nat} {e : TypeId} {v : Value} {n : Nat} {xs : List Value} (h : w.ownsRow base e 1 v n xs) : w.ownsRow 0 e 1 v n xs := by
  refine ⟨h.1, ?_⟩
  rcases h.2 with h2 | ⟨g, cap, cur, h3, h4, h5⟩
  · exact .inl h2
  · exact .inr ⟨g, cap, cur, h3, Nat.zero_le _, h5⟩
theorem own_ansX {w : World} {lo : Nat} {e : TypeId} {v : Value} {n : Nat} {xs : List Value} (h : w.ownsRow lo e 1 v n xs) (h1 : ∀ u, u ∈ xs → u.oneCell' = true) : ∃ a c, v = .slice a n c ∧ AnsX e w lo a n c xs := by
  have h' := own_baseX h
  rcases h.2 with ⟨rfl, h0⟩ | ⟨g, cap, cur, rfl, hb, hr⟩
  · subst h0
    exact ⟨none, 0, rfl, h', h1, fun g h => by simp [Value.ownBlock] at h⟩
  · exact ⟨some ⟨g, 0, none⟩, cap, rfl, h', h1, fun g' h => by have e : g = g' := Option.some.inj h; omega⟩
/-- 'append(v, x...)', v of the call's own, x whatever -/
theorem wpList_apX {t e : TypeId} {z : Value} {by' : Nat} (E : ElT t e z by') {w : World} {ops : Array Oper} {rest : List Oper} {o : Oper} {a : Act} {Q : Exit → Act → World → Prop} (hg : o.guard = none) (s x : Operand)
    (hop : o.op = Op.call { callee := .builtin .append, args := #[s, x], argTypes := #[t, t] }) (ao : Option Addr) (m co lo : Nat) (D : List Value) (hs : a.eval s = .slice ao m co)
    (hA : AnsX e w lo ao m co D) (hlo : lo ≤ w.heap.size) (ax : Option Addr) (nx cx : Nat) (X : List Value) (hx : a.eval x = .slice ax nx cx) (hR : RdX w ax nx cx X) (hb : (m + nx) * by' ≤ 140737488351232)
    (hb2 : m + nx ≤ 140737488351232)
    (hK : ∀ a' c' w', AnsX e w' lo a' (m + nx) c' (D ++ X) → w.grownBy w' (Value.slice ao m co).ownBlock → wpList Try.prog ops Q rest (a.put o.dst (.slice a' (m + nx) c')) w') :
    wpList Try.prog ops Q (o :: rest) a w := by
  obtain ⟨i0, hi, hz0, hz1, hz2⟩ := info_parts E.inf
  cases ax with
  | none =>
    have hc0 : cx = 0 := hR.nil rfl
    have hn0 : nx = 0 := by have := hR.le; omega
    subst hc0 hn0
    have e0 : X = [] := List.eq_nil_of_length_eq_zero hR.len
    subst e0
    refine wpList_append_own_none hg s x t hop 0 e i0 1 E.und hi (.slice ao m co) m D hs hA.own hx ?_
    exact hK ao co w (by rw [List.append_nil]; exact hA) (World.grownBy.refl _ _)
  | some ad =>
    have hl := hR.len
    have hq : ∀ u, u ∈ D ++ X → u.oneCell' = true := fun u hu => by
      rcases List.mem_append.1 hu with h | h
      · exact hA.one u h
      · exact hR.one u h
    have hpos := E.pos
    have hfq : ((m + nx) / 4) * by' * 4 ≤ (m + nx) * by' := by
      rw [Nat.mul_right_comm]
      exact Nat.mul_le_mul_right _ (Nat.div_mul_le_self _ _)
    have hfe : (m + nx + (m + nx) / 4 + 192) * by' = (m + nx) * by' + ((m + nx) / 4) * by' + 192 * by' := by rw [Nat.add_mul, Nat.add_mul]
    refine wpList_append_own_wide w hg s x t hop lo e i0 z 1 by' E.und hi hz0 hz1 hz2 E.one (by decide) (.slice ao m co) m D hs hA.up ad nx cx X hx (by omega) ?_ hR.one (by unfold maxLen; omega) (by rw [hfe]; omega) hlo ?_
    · intro j u hu
      have hj : j < X.length := (List.getElem?_eq_some_iff.1 hu).1
      obtain ⟨b, off, e', _, hc⟩ := hR.at' (by omega)
      cases e'
      rw [addr_add]
      exact hc j u hu
    · intro v' w' hown hgr _
      obtain ⟨a', c', rfl, hA'⟩ := own_ansX hown hq
      exact hK a' c' w' hA' hgr
end
end Go.Proofs.Ytpcejajijaphbaa
