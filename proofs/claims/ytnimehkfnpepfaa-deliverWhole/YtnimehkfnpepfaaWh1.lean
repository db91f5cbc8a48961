import Derived.Test.YtnimehkfnpepfaaRows
import Derived.WalkSpells
import Derived.WalkLawsBesides
import Derived.BigQuiet
import Derived.Laws.CopyOwn
import Derived.Laws.AppendOwnNone
import Derived.Deep.RegionHeld3
namespace Go.Proofs.Ytnimehkfnpepfaa
open Go.RowKit
set_option maxRecDepth 100000
set_option linter.unusedVariables false
set_option linter.unusedSimpArgs false

section
/-! lists of bytes, and how they lie in memory -/
def nth (L : List Nat) (k : Nat) : Nat := L.getD k 0
def bys (L : List Nat) : List Value := L.map fun (n : Nat) => Value.int .u8 (n : Int)
def IsB (L : List Nat) : Prop := ∀ x, x ∈ L → x < 256
theorem IsB.nth {L : List Nat} (h : IsB L) (k : Nat) : nth L k < 256 := by
  unfold Go.Proofs.Ytnimehkfnpepfaa.nth
  by_cases hk : k < L.length
  · rw [List.getD_eq_getElem?_getD, List.getElem?_eq_getElem hk]; exact h _ (List.getElem_mem hk)
  · rw [List.getD_eq_getElem?_getD, List.getElem?_eq_none (by omega)]; decide
/-- A slice of bytes as it is read: n of them, the numbers L. -/
structure Rd (w : World) (a : Option Addr) (n cap : Nat) (L : List Nat) : Prop where
  len : L.length = n
  le : n ≤ cap
  max : cap ≤ maxLen
  nil : a = none → cap = 0
  byte : IsB L
  at' : 0 < n → ∃ b off, a = some ⟨b, off, none⟩ ∧ b < w.heap.size ∧ ∀ i, i < n → w.cell? ⟨b, off + i, none⟩ = some (.int .u8 (nth L i : Nat))
theorem nth_bys (L : List Nat) (i : Nat) (hi : i < L.length) : (bys L)[i]? = some (.int .u8 (nth L i : Nat)) := by
  unfold bys nth
  rw [List.getElem?_map, List.getElem?_eq_getElem hi, List.getD_eq_getElem?_getD, List.getElem?_eq_getElem hi]; rfl
theorem grown_set (w : World) (g i : Nat) (v : Value) : w.grownBy (w.setCell ⟨g, i, none⟩ v) (some g) :=
  ⟨rfl, rfl, rfl, by simp [World.setCell], fun k _ hk => heap_setCell_other w _ k v (fun e => hk (by rw [e]))⟩
theorem grown_trans {a b c : World} {r : Option Nat} (h : a.grownBy b r) (k : b.grownBy c r) : a.grownBy c r :=
  ⟨k.os.trans h.os, k.tape.trans h.tape, k.output.trans h.output, Nat.le_trans h.size k.size, fun i hi hn => (k.block i (Nat.lt_of_lt_of_le hi h.size) hn).trans (h.block i hi hn)⟩
theorem grown_drew (w : World) (r : Option Nat) : w.grownBy w.drew r := ⟨rfl, rfl, rfl, Nat.le_refl _, fun _ _ _ => rfl⟩
theorem grown_weak {a b : World} (h : a.grownBy b none) (r : Option Nat) : a.grownBy b r := ⟨h.os, h.tape, h.output, h.size, fun k hk _ => h.block k hk (by simp)⟩
theorem Rd.grown {w w' : World} {a : Option Addr} {n cap : Nat} {L : List Nat} {r : Option Nat} (h : Rd w a n cap L) (hg : w.grownBy w' r) (hne : ∀ b off, a = some ⟨b, off, none⟩ → some b ≠ r) : Rd w' a n cap L := by
  refine ⟨h.len, h.le, h.max, h.nil, h.byte, fun h0 => ?_⟩
  obtain ⟨b, off, rfl, hb, hc⟩ := h.at' h0
  refine ⟨b, off, rfl, Nat.lt_of_lt_of_le hb hg.size, fun i hi => ?_⟩
  exact (World.cell?_of_block (w := w) (hg.block b hb (hne b off rfl))).trans (hc i hi)

theorem Try.info_u8 : (Try.prog.info? 5).map (fun i => (i.zero, i.size, i.bytes)) = some (some (.int .u8 0), 1, 1) := by kernel_rfl
theorem bys_zero (n : Nat) : List.replicate n (Value.int .u8 0) = bys (List.replicate n 0) := by simp [bys]
theorem bys_one (L : List Nat) : ∀ u, u ∈ bys L → u.oneCell' = true := by
  intro u hu
  obtain ⟨n, _, rfl⟩ := List.mem_map.1 hu
  rfl
theorem bys_length (L : List Nat) : (bys L).length = L.length := by simp [bys]

theorem nth_append_left (A B : List Nat) (i : Nat) (h : i < A.length) : nth (A ++ B) i = nth A i := by
  unfold nth; rw [List.getD_eq_getElem?_getD, List.getD_eq_getElem?_getD, List.getElem?_append_left h]
theorem isB_append {A B : List Nat} (h : IsB A) (k : IsB B) : IsB (A ++ B) := by
  intro x hx
  rcases List.mem_append.1 hx with h1 | h1
  · exact h x h1
  · exact k x h1
theorem isB_take {A : List Nat} (h : IsB A) (n : Nat) : IsB (A.take n) := fun x hx => h x (List.mem_of_mem_take hx)

theorem grown_drewN (w : World) (n : Nat) (r : Option Nat) : w.grownBy (w.drewN n) r := ⟨rfl, rfl, rfl, Nat.le_refl _, fun _ _ _ => rfl⟩
def strB (L : List Nat) : ByteArray := strOfNums (L.map fun (n : Nat) => (n : Int))
theorem getD_cast (L : List Nat) (i : Nat) : (L.map fun (n : Nat) => (n : Int)).getD i 0 = (nth L i : Nat) := by
  unfold nth
  rw [List.getD_eq_getElem?_getD, List.getD_eq_getElem?_getD, List.getElem?_map]
  cases L[i]? <;> rfl
theorem str_any (w : World) (a : Option Addr) (n cap : Nat) (L : List Nat) (h : Rd w a n cap L) :
    (convert 23 9 (.slice a n cap)).run Try.prog w = .ok (.string (strB L)) w := by
  by_cases h0 : n = 0
  · subst h0
    have e : L = [] := List.eq_nil_of_length_eq_zero h.len
    subst e
    cases a with
    | none => exact run_convert_bytes_nil w 23 5 Try.underlying23 Try.underlying5 0 cap 9 Try.underlying9
    | some x =>
      rw [run_convert_bytes_string w 23 9 5 _ _ _ Try.underlying23 Try.underlying5 Try.underlying9]
      have := run_bytesToString (P := Try.prog) w x 0 cap [] (by simp [loadCells, loadCellsFrom])
      exact this
  · obtain ⟨b, off, rfl, hb, hc⟩ := h.at' (by omega)
    exact run_convert_bytes_arg w 23 5 Try.underlying23 Try.underlying5 b off n cap _ (by simp [h.len]) (fun i hi => by rw [getD_cast]; exact hc i hi) 9 Try.underlying9

theorem own_base {w : World} {base : Nat} {v : Value} {n : Nat} {xs : List Value} (h : w.ownsRow base 5 1 v n xs) : w.ownsRow 0 5 1 v n xs := by
  refine ⟨h.1, ?_⟩
  rcases h.2 with h2 | ⟨g, cap, cur, h3, h4, h5⟩
  · exact .inl h2
  · exact .inr ⟨g, cap, cur, h3, Nat.zero_le _, h5⟩
theorem addr_add (b off j : Nat) : (⟨b, off, none⟩ : Addr).add j = ⟨b, off + j, none⟩ := by unfold Addr.add; split <;> simp_all

/-- 'append(v, x...)', v the call's own, x not empty -/
theorem wpList_apB (w : World) {ops : Array Oper} {rest : List Oper} {o : Oper} {a : Act} {Q : Exit → Act → World → Prop} (hg : o.guard = none) (s x : Operand)
    (hop : o.op = Op.call { callee := .builtin .append, args := #[s, x], argTypes := #[23, 23] }) (v : Value) (n : Nat) (xs : List Value) (hs : a.eval s = v)
    (hown : w.ownsRow 0 5 1 v n xs) (ad : Addr) (m c : Nat) (news : List Value) (hx : a.eval x = .slice (some ad) m c) (hn : news.length = m)
    (hc : ∀ j u, news[j]? = some u → w.cell? (ad.add j) = some u) (h1 : ∀ u, u ∈ news → u.oneCell' = true) (hm : 0 < m) (hb : n + m ≤ 140737488355328)
    (hK : ∀ g cap w', (v.ownBlock = some g ∨ w.heap.size ≤ g) → w.grownBy w' v.ownBlock → w'.ownsRow 0 5 1 (.slice (some ⟨g, 0, none⟩) (n + m) cap) (n + m) (xs ++ news) →
      wpList Try.prog ops Q rest (a.put o.dst (.slice (some ⟨g, 0, none⟩) (n + m) cap)) w') :
    wpList Try.prog ops Q (o :: rest) a w := by
  obtain ⟨i0, hi, hz0, hz1, hz2⟩ := info_parts Try.info_u8
  have grow : ∀ (ao : Option Addr) (cap : Nat), v = .slice ao n cap → (ao = none → n = 0 ∧ cap = 0) → (∀ b, ao = some b → ∀ j u, xs[j]? = some u → w.cell? (b.add j) = some u) → cap < n + m → wpList Try.prog ops Q (o :: rest) a w := by
    intro ao cap hv hnone hcells hfull
    refine wpList_append_grows w hg s x 23 hop 5 i0 (.int .u8 0) 1 1 Try.underlying23 hi hz0 hz1 hz2 rfl (by decide) ao n cap xs (by rw [hs, hv]) hnone (by rw [hown.1]) hcells ad m c news hx (by rw [hn, Nat.mul_one]) hc h1 hfull (by unfold maxLen; omega) (by omega) ?_
    intro v' w' hown' hgr
    rcases hown'.2 with ⟨_, h0⟩ | ⟨g, cap', cur, rfl, hge, hrest⟩
    · omega
    · exact hK g cap' w' (.inr hge) (grown_weak hgr _) (own_base hown')
  rcases hown.2 with ⟨rfl, h0⟩ | ⟨g, cap, cur, rfl, hbase, hh, hle, hmax, hsz, htake⟩
  · subst h0
    exact grow none 0 rfl (fun _ => ⟨rfl, rfl⟩) (fun b hb => by cases hb) (by omega)
  · by_cases hroom : n + m ≤ cap
    · refine wpList_append_fits w hg s x 23 hop 0 5 i0 1 Try.underlying23 hi hz1 g n cap xs hs hown ad m c news hx (by rw [hn, Nat.mul_one]) hc h1 hroom ?_
      intro w' hown' hgr
      exact hK g cap w' (.inl rfl) hgr hown'
    · refine grow (some ⟨g, 0, none⟩) cap rfl (fun h => by cases h) ?_ (by omega)
      intro b hb j u hu
      cases hb
      exact hown.cells (g := g) rfl j u hu

theorem own_cell {w : World} {g n cap : Nat} {L : List Nat} (h : w.ownsRow 0 5 1 (.slice (some ⟨g, 0, none⟩) n cap) n (bys L)) (j : Nat) (hj : j < n) : w.cell? ⟨g, j, none⟩ = some (.int .u8 (nth L j : Nat)) := by
  have hl : L.length = n := by have := h.1; rw [bys_length] at this; omega
  rw [h.cellAt j (by omega)]
  exact nth_bys L j (by omega)
/-- An answer: the bytes L, in memory of its own, from block lo on. -/
structure Ans (w : World) (lo : Nat) (a : Option Addr) (n cap : Nat) (L : List Nat) : Prop where
  own : w.ownsRow 0 5 1 (.slice a n cap) n (bys L)
  byte : IsB L
  new : ∀ g, (Value.slice a n cap).ownBlock = some g → lo ≤ g
theorem Ans.len {w : World} {lo : Nat} {a : Option Addr} {n cap : Nat} {L : List Nat} (h : Ans w lo a n cap L) : L.length = n := by
  have := h.own.1; rw [bys_length] at this; omega
theorem Ans.cases {w : World} {lo : Nat} {a : Option Addr} {n cap : Nat} {L : List Nat} (h : Ans w lo a n cap L) :
    (a = none ∧ n = 0 ∧ cap = 0) ∨ ∃ g, a = some ⟨g, 0, none⟩ ∧ lo ≤ g ∧ g < w.heap.size := by
  rcases h.own.2 with ⟨h1, h2⟩ | ⟨g, cap', cur, h1, _, h3, _⟩
  · simp only [Value.slice.injEq] at h1; exact .inl h1
  · simp only [Value.slice.injEq] at h1
    obtain ⟨rfl, _, _⟩ := h1
    exact .inr ⟨g, rfl, h.new g rfl, (Array.getElem?_eq_some_iff.1 h3).1⟩
theorem Ans.max {w : World} {lo : Nat} {a : Option Addr} {n cap : Nat} {L : List Nat} (h : Ans w lo a n cap L) : n ≤ cap ∧ cap ≤ maxLen := by
  rcases h.own.2 with ⟨h1, h2⟩ | ⟨g, cap', cur, h1, _, h3, h4, h5, _⟩
  · simp only [Value.slice.injEq] at h1; obtain ⟨_, h6, h7⟩ := h1; subst h6; subst h7; exact ⟨Nat.le_refl _, Nat.zero_le _⟩
  · simp only [Value.slice.injEq] at h1; obtain ⟨_, _, h7⟩ := h1; subst h7; exact ⟨h4, h5⟩
theorem Ans.rd {w : World} {lo : Nat} {a : Option Addr} {n cap : Nat} {L : List Nat} (h : Ans w lo a n cap L) : Rd w a n cap L := by
  refine ⟨h.len, h.max.1, h.max.2, fun h0 => ?_, h.byte, fun h0 => ?_⟩
  · rcases h.cases with ⟨_, _, h3⟩ | ⟨g, h1, _⟩
    · exact h3
    · rw [h0] at h1; cases h1
  · rcases h.cases with ⟨_, h2, _⟩ | ⟨g, rfl, _, hl⟩
    · omega
    · exact ⟨g, 0, rfl, hl, fun i hi => by rw [Nat.zero_add]; exact own_cell h.own i hi⟩
theorem Ans.kept {w w' : World} {lo : Nat} {a : Option Addr} {n cap : Nat} {L : List Nat} {r : Option Nat} (h : Ans w lo a n cap L) (hg : w.grownBy w' r) (hne : (Value.slice a n cap).ownBlock = none ∨ (Value.slice a n cap).ownBlock ≠ r) : Ans w' lo a n cap L :=
  ⟨h.own.kept hg hne, h.byte, h.new⟩
theorem nth_out (L : List Nat) (i : Nat) (h : L.length ≤ i) : nth L i = 0 := by
  unfold nth; rw [List.getD_eq_getElem?_getD, List.getElem?_eq_none h]; rfl
theorem nth_map_range (f : Nat → Nat) (n i : Nat) (h : i < n) : nth ((List.range n).map f) i = f i := by
  unfold nth; rw [List.getD_eq_getElem?_getD, List.getElem?_map, List.getElem?_range h]; rfl
theorem Rd.cut {w : World} {a : Option Addr} {n cap m : Nat} {L : List Nat} (h : Rd w a n cap L) (hm : m ≤ n) : Rd w a m cap (L.take m) := by
  refine ⟨by rw [List.length_take, h.len]; omega, Nat.le_trans hm h.le, h.max, h.nil, isB_take h.byte _, fun h0 => ?_⟩
  obtain ⟨b, off, rfl, hb, hc⟩ := h.at' (by omega)
  refine ⟨b, off, rfl, hb, fun i hi => ?_⟩
  rw [hc i (by omega)]
  have : nth (L.take m) i = nth L i := by
    unfold nth; rw [List.getD_eq_getElem?_getD, List.getD_eq_getElem?_getD, List.getElem?_take, if_pos hi]
  rw [this]
end

section
theorem grown_far {a b c : World} {r : Option Nat} (h : a.grownBy b none) (k : b.grownBy c r) (hr : ∀ g, r = some g → a.heap.size ≤ g) : a.grownBy c none :=
  ⟨k.os.trans h.os, k.tape.trans h.tape, k.output.trans h.output, Nat.le_trans h.size k.size, fun i hi hn => (k.block i (Nat.lt_of_lt_of_le hi h.size) (fun e => by have := hr i e.symm; omega)).trans (h.block i hi hn)⟩
theorem Ans.keep {w w' : World} {lo : Nat} {a : Option Addr} {n cap : Nat} {L : List Nat} (h : Ans w lo a n cap L) (hg : w.grownBy w' none) : Ans w' lo a n cap L :=
  h.kept hg (by cases (Value.slice a n cap).ownBlock <;> simp)
theorem Rd.keep {w w' : World} {a : Option Addr} {n cap : Nat} {L : List Nat} (h : Rd w a n cap L) (hg : w.grownBy w' none) : Rd w' a n cap L := h.grown hg (fun _ _ _ => by simp)
theorem ans_nil (w : World) (lo : Nat) : Ans w lo none 0 0 [] := ⟨World.ownsRow_nil _ _ _ _, (fun x hx => by cases hx), fun g h => by simp [Value.ownBlock] at h⟩
end

section
/-- a value of several cells in a box -/
def BxS (w : World) (g : Nat) (t : TypeId) (cs : Array Value) : Prop := w.heap[g]? = some (.cells cs t)
theorem BxS.lt {w : World} {g : Nat} {t : TypeId} {cs : Array Value} (h : BxS w g t cs) : g < w.heap.size := (Array.getElem?_eq_some_iff.1 h).1
theorem BxS.free {w : World} {g : Nat} {t : TypeId} {cs : Array Value} (h : BxS w g t cs) (i : Nat) : w.frozen? ⟨g, i, none⟩ = false := frozen_of_row w g i _ _ h
theorem BxS.cell {w : World} {g : Nat} {t : TypeId} {cs : Array Value} (h : BxS w g t cs) (i : Nat) (hi : i < cs.size) : w.cell? ⟨g, i, none⟩ = some cs[i] := by
  rw [cell_of_row w g i cs t (0, 0) h, Array.getElem?_eq_getElem hi]
theorem BxS.keep {w w' : World} {g : Nat} {t : TypeId} {cs : Array Value} {r : Option Nat} (h : BxS w g t cs) (hg : w.grownBy w' r) (hne : some g ≠ r) : BxS w' g t cs := (hg.block g h.lt hne).trans h
theorem BxS.new (w : World) (t : TypeId) (cs : Array Value) : BxS (w.alloc (.cells cs t)) w.heap.size t cs := heap_alloc_new w _
theorem BxS.set {w : World} {g : Nat} {t : TypeId} {cs : Array Value} (h : BxS w g t cs) (i : Nat) (v : Value) : BxS (w.setCell ⟨g, i, none⟩ v) g t (cs.set! i v) := by
  unfold BxS
  rw [setCell_eq_setRow w g i _ _ _ _ h]
  exact setRow_heap w g _ _ _ _ h
theorem BxS.row {w : World} {g : Nat} {t : TypeId} {cs : Array Value} (h : BxS w g t cs) (ds : Array Value) : BxS (w.setRow g ds) g t ds := setRow_heap w g _ _ _ _ h
theorem BxS.load {w : World} {g : Nat} {t : TypeId} {cs : Array Value} (h : BxS w g t cs) {fs : Array Field} (hu : Try.prog.underlying t = some (.struct fs)) (hi : (Try.prog.info? t).map (·.size) = some cs.size) :
    (loadVar t ⟨g, 0, none⟩).run Try.prog w = .ok (.agg cs) w := run_loadVar_row w g t t cs (0, 0) (.struct fs) h hu rfl hi
/-- results, the first of which lies in a box -/
theorem results_cell3 {fn : Func} {p u x : Tmp} {ty : TypeId} (h : fn.results = #[.cell p ty, .tmp u, .tmp x]) (tmps : Array Value) (P : Program) (w : World) (a : Addr) (v y z : Value) (ha : tmps.getD p undef = .pointer (some a)) (hl : (loadVar ty a).run P w = .ok v w) (hy : tmps.getD u undef = y) (hz : tmps.getD x undef = z) :
    (results fn tmps).run P w = .ok (.tuple #[v, y, z]) w := by
  simp only [results, h]
  rw [Array.getD_eq_getD_getElem?] at ha hy hz
  simp [Sem.run_bind, Result.andThen]
  rw [ha]
  simp [asAddr, hl, hy, hz]
theorem results_cell1t {fn : Func} {p u : Tmp} {ty : TypeId} (h : fn.results = #[.cell p ty, .tmp u]) (tmps : Array Value) (P : Program) (w : World) (a : Addr) (v y : Value) (ha : tmps.getD p undef = .pointer (some a)) (hl : (loadVar ty a).run P w = .ok v w) (hy : tmps.getD u undef = y) :
    (results fn tmps).run P w = .ok (.tuple #[v, y]) w := by
  simp only [results, h]
  rw [Array.getD_eq_getD_getElem?] at ha hy
  simp [Sem.run_bind, Result.andThen]
  rw [ha]
  simp [asAddr, hl, hy]
/-- a whole value is stored into a box -/
theorem wpList_stX (w : World) {ops : Array Oper} {rest : List Oper} {o : Oper} {a : Act} {Q : Exit → Act → World → Prop} (hg : o.guard = none) (t : TypeId) (p v : Operand) (hop : o.op = Op.store t p v)
    (g : Nat) (cs ds : Array Value) (hp : a.eval p = .pointer (some ⟨g, 0, none⟩)) (hv : a.eval v = .agg ds) (h : BxS w g t cs) (hi : (Try.prog.info? t).map (·.size) = some ds.size) (ho : cs.size = ds.size) (h1 : ds.all (·.oneCell') = true)
    (hK : ∀ w', BxS w' g t ds → w.grownBy w' (some g) → wpList Try.prog ops Q rest (a.put o.dst undef) w') :
    wpList Try.prog ops Q (o :: rest) a w := by
  refine wpList_plain hg fun K hK' => ?_
  have hst : (Instr.storeAt t (.pointer (some ⟨g, 0, none⟩)) (.agg ds)).run Try.prog w = .ok () (w.setRow g ds) := by
    simp only [Instr.storeAt, Instr.sureAddr, Sem.run_bind, Sem.run_pure, Result.andThen]
    exact run_storeVar_row w g t t cs ds h hi ho h1
  unfold Oper.wp
  simp [execOp, hop, hp, hv, hst, Result.andThen]
  exact hK' _ _ (hK _ (h.row ds) ⟨rfl, rfl, rfl, by simp, fun k _ hk => setRow_other w g k _ (fun e => hk (by rw [e]))⟩)
/-- a whole value is loaded out of a box -/
theorem wpList_ldX (w : World) {ops : Array Oper} {rest : List Oper} {o : Oper} {a : Act} {Q : Exit → Act → World → Prop} (hg : o.guard = none) (t : TypeId) (p : Operand) (hop : o.op = Op.load t p)
    (g : Nat) (cs : Array Value) (hp : a.eval p = .pointer (some ⟨g, 0, none⟩)) (h : BxS w g t cs) {fs : Array Field} (hu : Try.prog.underlying t = some (.struct fs)) (hi : (Try.prog.info? t).map (·.size) = some cs.size)
    (hK : wpList Try.prog ops Q rest (a.put o.dst (.agg cs)) w) :
    wpList Try.prog ops Q (o :: rest) a w := by
  refine wpList_plain hg fun K hK' => ?_
  have hld : (Instr.loadAt t (.pointer (some ⟨g, 0, none⟩))).run Try.prog w = .ok (.agg cs) w := by
    simp only [Instr.loadAt, Instr.sureAddr, Sem.run_bind, Sem.run_pure, Result.andThen]
    exact h.load hu hi
  unfold Oper.wp
  simp [execOp, hop, hp, hld, Result.andThen]
  exact hK' _ _ hK
/-- one cell of a box is written -/
theorem wpList_stC (w : World) {ops : Array Oper} {rest : List Oper} {o : Oper} {a : Act} {Q : Exit → Act → World → Prop} (hg : o.guard = none) (t : TypeId) (p x : Operand) (hop : o.op = Op.store t p x)
    (g i : Nat) (ty : TypeId) (A A' : Array Value) (v : Value) (hp : a.eval p = .pointer (some ⟨g, i, none⟩)) (hx : a.eval x = v) (hB : BxS w g ty A)
    (hst : ∀ w' : World, (∃ u, w'.cell? ⟨g, i, none⟩ = some u) → w'.frozen? ⟨g, i, none⟩ = false → (Instr.storeAt t (.pointer (some ⟨g, i, none⟩)) v).run Try.prog w' = .ok () (w'.setCell ⟨g, i, none⟩ v)) (hi : i < A.size) (hA : A.setIfInBounds i v = A')
    (hK : ∀ w', BxS w' g ty A' → w.grownBy w' (some g) → wpList Try.prog ops Q rest (a.put o.dst undef) w') :
    wpList Try.prog ops Q (o :: rest) a w := by
  refine wpList_plain hg fun K hK' => ?_
  have hc : ∃ u, w.cell? ⟨g, i, none⟩ = some u := ⟨A[i], by rw [cell_of_row w g i _ _ _ hB]; simp [hi]⟩
  have hf := frozen_of_row w g i _ _ hB
  unfold Oper.wp
  simp [execOp, hop, hp, hx, hst w hc hf, Result.andThen]
  exact hK' _ _ (hK _ (by unfold BxS; rw [heap_setCell_same w g i _ _ _ hB, hA]) (grown_set w g i v))
theorem stc_int (g i : Nat) (n : Int) (w : World) (hc : ∃ u, w.cell? ⟨g, i, none⟩ = some u) (hf : w.frozen? ⟨g, i, none⟩ = false) : (Instr.storeAt 3 (.pointer (some ⟨g, i, none⟩)) (.int .i64 n)).run Try.prog w = .ok () (w.setCell ⟨g, i, none⟩ (.int .i64 n)) := by
  obtain ⟨u, hc⟩ := hc
  simp [go_sem, hc, hf]
theorem stc_bool (g i : Nat) (b : Bool) (w : World) (hc : ∃ u, w.cell? ⟨g, i, none⟩ = some u) (hf : w.frozen? ⟨g, i, none⟩ = false) : (Instr.storeAt 4 (.pointer (some ⟨g, i, none⟩)) (.bool b)).run Try.prog w = .ok () (w.setCell ⟨g, i, none⟩ (.bool b)) := by
  obtain ⟨u, hc⟩ := hc
  simp [go_sem, hc, hf]
theorem stc_sl (g i : Nat) (p : Option Addr) (l c : Nat) (w : World) (hc : ∃ u, w.cell? ⟨g, i, none⟩ = some u) (hf : w.frozen? ⟨g, i, none⟩ = false) : (Instr.storeAt 23 (.pointer (some ⟨g, i, none⟩)) (.slice p l c)).run Try.prog w = .ok () (w.setCell ⟨g, i, none⟩ (.slice p l c)) := by
  obtain ⟨u, hc⟩ := hc
  simp [go_sem, hc, hf]
end
end Go.Proofs.Ytnimehkfnpepfaa
