import Derived.Laws.BitsAllLaws
import Derived.OpenShut
import Derived.Test.YtlfacjpehhcdiaaOn0
import Derived.Deep.RegionLawGrows
import Derived.Laws.Rows
import Derived.Laws.Tables
import Derived.Lib.AppendZerosOnto
namespace Go.Proofs.Ytlfacjpehhcdiaa
open Go.RowKit
set_option maxRecDepth 100000
set_option linter.unusedVariables false
set_option linter.unusedSimpArgs false

section
theorem shown_int {w : World} {full : Bool} {n : Nat} {v : Value} (h : (Sh.int .i64).shown w full v n) : ∃ z, v = .int .i64 z ∧ -9223372036854775808 ≤ z ∧ z ≤ 9223372036854775807 := by
  obtain ⟨_, z, e, hz⟩ := h
  cases e
  exact ⟨z, rfl, bounds_i64 hz⟩
end

section
theorem xor4KxTm : ∀ a b c d : Nat, a < 2 → b < 2 → c < 2 → d < 2 → ((a ^^^ b) ^^^ c) ^^^ d = (a + b + c + d) % 2 := by
  intro a b c d ha hb hc hd
  have e : ∀ a, a < 2 → ∀ b, b < 2 → ∀ c, c < 2 → ∀ d, d < 2 → ((a ^^^ b) ^^^ c) ^^^ d = (a + b + c + d) % 2 := by decide
  exact e a ha b hb c hc d hd

/-! the program's row -/
/-! lists that are told by their places -/
theorem own_nil (w : World) (lo g c : Nat) (h : w.ownsRow lo 5 1 (.slice (some ⟨g, 0, none⟩) 0 c) 0 []) (hg : lo ≤ g) : Ans w lo (some ⟨g, 0, none⟩) 0 c [] :=
  ⟨own_base h, (fun x hx => by cases hx), fun g' h' => by simp [Value.ownBlock] at h'; omega⟩
/-- the block that an answer may be written into: the one that it had at first, or a new one -/
def Mine (w0 : World) (r : Option Nat) (ao : Option Addr) (m co : Nat) : Prop := ∀ g, (Value.slice ao m co).ownBlock = some g → r = some g ∨ w0.heap.size ≤ g
theorem grown_mine {a b c : World} {r s : Option Nat} (h : a.grownBy b r) (k : b.grownBy c s) (hs : ∀ g, s = some g → r = some g ∨ a.heap.size ≤ g) : a.grownBy c r :=
  ⟨k.os.trans h.os, k.tape.trans h.tape, k.output.trans h.output, Nat.le_trans h.size k.size, fun i hi hn => (k.block i (Nat.lt_of_lt_of_le hi h.size) (fun e => by
    rcases hs i e.symm with h1 | h1
    · exact hn h1.symm
    · omega)).trans (h.block i hi hn)⟩
theorem step_append_fits {P : Program} {ops : Array Oper} {o : Oper} {a : Act} {w : World} {K : Act → World → Prop} {Q : Exit → Act → World → Prop} {E : Prop}
    (hg : o.guard = none) (s x : Operand) (t : TypeId) (hop : o.op = Op.call { callee := Callee.builtin Builtin.append, args := #[s, x], argTypes := #[t, t] })
    (base : Nat) (e : TypeId) (i : TypeInfo) (size : Nat) (h1 : P.underlying t = some (.slice e)) (h2 : P.info? e = some i) (h4 : i.size = size)
    (g k cap : Nat) (xs : List Value) (hs : a.eval s = .slice (some ⟨g, 0, none⟩) k cap) (hown : w.ownsRow base e size (.slice (some ⟨g, 0, none⟩) k cap) k xs) (ad : Addr) (m c : Nat) (news : List Value) (hx : a.eval x = .slice (some ad) m c) (hn : news.length = m * size)
    (hc : ∀ j u, news[j]? = some u → w.cell? (ad.add j) = some u) (h1c : ∀ u ∈ news, u.oneCell' = true) (b1 : k + m ≤ cap)
    (hK : ∀ w', w'.ownsRow base e size (.slice (some ⟨g, 0, none⟩) (k + m) cap) (k + m) (xs ++ news) → w.grownBy w' (some g) → K (a.put o.dst (.slice (some ⟨g, 0, none⟩) (k + m) cap)) w') :
    if Region.wanted o (yielded ops a.tmps) = true then Oper.wp P o a w K Q else E := by
  have hw : Region.wanted o (yielded ops a.tmps) = true := by simp [Region.wanted, hg]
  rw [if_pos hw]
  obtain ⟨w', hrun, r1, r2⟩ := run_append_fits (P := P) w base t o.type e i size h1 h2 h4 g k cap xs hown ad m c news hn hc h1c b1
  unfold Oper.wp
  simp [execOp, hop, resolve, invoke, builtin, hs, hx, hrun, Result.andThen]
  exact hK w' r1 r2
/-- 'append(v, x...)', v the call's own, x not empty, in a region that draws -/
theorem step_apB (w : World) {ops : Array Oper} {o : Oper} {a : Act} {K : Act → World → Prop} {Q : Exit → Act → World → Prop} {E : Prop} (hg : o.guard = none) (s x : Operand)
    (hop : o.op = Op.call { callee := .builtin .append, args := #[s, x], argTypes := #[29, 29] }) (v : Value) (n : Nat) (xs : List Value) (hs : a.eval s = v)
    (hown : w.ownsRow 0 5 1 v n xs) (ad : Addr) (m c : Nat) (news : List Value) (hx : a.eval x = .slice (some ad) m c) (hn : news.length = m)
    (hc : ∀ j u, news[j]? = some u → w.cell? (ad.add j) = some u) (h1 : ∀ u, u ∈ news → u.oneCell' = true) (hm : 0 < m) (hb : n + m ≤ 140737488355328)
    (hK : ∀ g cap w', (v.ownBlock = some g ∨ w.heap.size ≤ g) → w.grownBy w' v.ownBlock → w'.ownsRow 0 5 1 (.slice (some ⟨g, 0, none⟩) (n + m) cap) (n + m) (xs ++ news) → (∀ g0, v.ownBlock = some g0 → ∀ j u, xs[j]? = some u → w'.cell? ⟨g0, j, none⟩ = some u) →
      K (a.put o.dst (.slice (some ⟨g, 0, none⟩) (n + m) cap)) w') :
    if Region.wanted o (yielded ops a.tmps) = true then Oper.wp Try.prog o a w K Q else E := by
  obtain ⟨i0, hi, hz0, hz1, hz2⟩ := info_parts Try.info_u8
  have grow : ∀ (ao : Option Addr) (cap : Nat), v = .slice ao n cap → (ao = none → n = 0 ∧ cap = 0) → (∀ b, ao = some b → ∀ j u, xs[j]? = some u → w.cell? (b.add j) = some u) → (∀ b, ao = some b → b = ⟨b.block, 0, none⟩) → cap < n + m → if Region.wanted o (yielded ops a.tmps) = true then Oper.wp Try.prog o a w K Q else E := by
    intro ao cap hv hnone hcells hfirst hfull
    refine step_append_grows hg s x 29 hop 5 i0 (.int .u8 0) 1 1 Try.underlying29 hi hz0 hz1 hz2 rfl (by decide) ao n cap xs (by rw [hs, hv]) hnone (by rw [hown.1]) hcells ad m c news hx (by rw [hn, Nat.mul_one]) hc h1 hfull (by unfold maxLen; omega) (by omega) ?_
    intro v' w' hown' hgr
    rcases hown'.2 with ⟨_, h0⟩ | ⟨g, cap', cur, rfl, hge, hrest⟩
    · omega
    · refine hK g cap' w' (.inr hge) (grown_weak hgr _) (own_base hown') (fun g0 hg0 j u hu => ?_)
      subst hv
      cases ao with
      | none => simp [Value.ownBlock] at hg0
      | some b =>
        have hb0 : b.block = g0 := by simpa [Value.ownBlock] using hg0
        have hc0 := hcells b rfl j u hu
        have hz := hfirst b rfl
        rw [hb0] at hz
        rw [hz, addr_add, Nat.zero_add] at hc0
        exact (World.cell?_of_block (w := w) (hgr.block _ (World.block_lt_of_cell? w _ hc0) (by simp))).trans hc0
  rcases hown.2 with ⟨rfl, h0⟩ | ⟨g, cap, cur, rfl, hbase, hh, hle, hmax, hsz, htake⟩
  · subst h0
    exact grow none 0 rfl (fun _ => ⟨rfl, rfl⟩) (fun b hb => by cases hb) (fun b hb => by cases hb) (by omega)
  · by_cases hroom : n + m ≤ cap
    · refine step_append_fits hg s x 29 hop 0 5 i0 1 Try.underlying29 hi hz1 g n cap xs hs hown ad m c news hx (by rw [hn, Nat.mul_one]) hc h1 hroom ?_
      intro w' hown' hgr
      refine hK g cap w' (.inl rfl) hgr hown' (fun g0 hg0 j u hu => ?_)
      have e : g = g0 := Option.some.inj hg0
      subst e
      have hj : j < xs.length := (List.getElem?_eq_some_iff.1 hu).1
      have h2 := hown'.cells (g := g) rfl j u (by rw [List.getElem?_append_left hj]; exact hu)
      rw [addr_add, Nat.zero_add] at h2
      exact h2
    · refine grow (some ⟨g, 0, none⟩) cap rfl (fun h => by cases h) ?_ (fun b hb => by cases hb; rfl) (by omega)
      intro b hb j u hu
      cases hb
      exact hown.cells (g := g) rfl j u hu
theorem rd_news {w : World} {b off n cap : Nat} {L : List Nat} (h : Rd w (some ⟨b, off, none⟩) n cap L) (h0 : 0 < n) : ∀ j u, (bys L)[j]? = some u → w.cell? ((⟨b, off, none⟩ : Addr).add j) = some u := by
  intro j u hu
  have hj : j < L.length := by have := (List.getElem?_eq_some_iff.1 hu).1; rw [bys_length] at this; exact this
  obtain ⟨b', off', e, _, hc⟩ := h.at' h0
  cases e
  rw [nth_bys L j hj] at hu
  rw [addr_add, ← hu]
  exact hc j (by rw [← h.len]; exact hj)
theorem bys_app (A B : List Nat) : bys A ++ bys B = bys (A ++ B) := by simp [bys]
/-- 'append(v, x...)', v an answer, x another -/
theorem wpList_join (w0 w : World) {ops : Array Oper} {rest : List Oper} {o : Oper} {a : Act} {Q : Exit → Act → World → Prop} (hg : o.guard = none) (s x : Operand)
    (hop : o.op = Op.call { callee := .builtin .append, args := #[s, x], argTypes := #[29, 29] }) (ao : Option Addr) (m co lo : Nat) (r : Option Nat) (D : List Nat) (hs : a.eval s = .slice ao m co)
    (hA : Ans w lo ao m co D) (hG : w0.grownBy w r) (hM : Mine w0 r ao m co) (hlo : lo ≤ w0.heap.size) (ax : Option Addr) (nx cx : Nat) (X : List Nat) (hx : a.eval x = .slice ax nx cx) (hR : Rd w ax nx cx X) (h0 : 0 < nx) (hb : m + nx ≤ 140737488355328)
    (hK : ∀ gx cx w', Ans w' lo (some ⟨gx, 0, none⟩) (m + nx) cx (D ++ X) → w0.grownBy w' r → Mine w0 r (some ⟨gx, 0, none⟩) (m + nx) cx → wpList Try.prog ops Q rest (a.put o.dst (.slice (some ⟨gx, 0, none⟩) (m + nx) cx)) w') :
    wpList Try.prog ops Q (o :: rest) a w := by
  obtain ⟨b, off, rfl, _, _⟩ := hR.at' h0
  refine wpList_apB _ hg s x hop (.slice ao m co) m (bys D) hs hA.own ⟨b, off, none⟩ nx cx (bys X) hx (by rw [bys_length, hR.len]) (rd_news hR h0) (bys_one _) h0 hb ?_
  intro gx cx' w2 hgx hgr2 hown2
  rw [bys_app] at hown2
  have hG2 := grown_mine hG hgr2 hM
  have hsz := hG.size
  refine hK gx cx' w2 ⟨hown2, isB_append hA.byte hR.byte, fun g h => ?_⟩ hG2 (fun g h => ?_)
  · have e : gx = g := Option.some.inj h
    subst e
    rcases hgx with h | h
    · exact hA.new gx h
    · exact Nat.le_trans hlo (Nat.le_trans hsz h)
  · have e : gx = g := Option.some.inj h
    subst e
    rcases hgx with h | h
    · exact hM gx h
    · exact .inr (Nat.le_trans hsz h)
end

section
/-- the head of a packet, as a number and as bytes -/
def hd1 (u s : Nat) : Nat := u * 2 + s
theorem toNat_le (b : Bool) : b.toNat < 2 := by cases b <;> decide
/-- 'append(v, x...)', v an answer, x other bytes, in a region that draws -/
theorem step_join (w0 w : World) {ops : Array Oper} {o : Oper} {a : Act} {K : Act → World → Prop} {Q : Exit → Act → World → Prop} {E : Prop} (hg : o.guard = none) (s x : Operand)
    (hop : o.op = Op.call { callee := .builtin .append, args := #[s, x], argTypes := #[29, 29] }) (ao : Option Addr) (m co lo : Nat) (r : Option Nat) (D : List Nat) (hs : a.eval s = .slice ao m co)
    (hA : Ans w lo ao m co D) (hG : w0.grownBy w r) (hM : Mine w0 r ao m co) (hlo : lo ≤ w0.heap.size) (ax : Option Addr) (nx cx : Nat) (X : List Nat) (hx : a.eval x = .slice ax nx cx) (hR : Rd w ax nx cx X) (h0 : 0 < nx) (hb : m + nx ≤ 140737488355328)
    (hK : ∀ gx cx w', Ans w' lo (some ⟨gx, 0, none⟩) (m + nx) cx (D ++ X) → w0.grownBy w' r → Mine w0 r (some ⟨gx, 0, none⟩) (m + nx) cx → K (a.put o.dst (.slice (some ⟨gx, 0, none⟩) (m + nx) cx)) w') :
    if Region.wanted o (yielded ops a.tmps) = true then Oper.wp Try.prog o a w K Q else E := by
  obtain ⟨b, off, rfl, _, _⟩ := hR.at' h0
  refine step_apB _ hg s x hop (.slice ao m co) m (bys D) hs hA.own ⟨b, off, none⟩ nx cx (bys X) hx (by rw [bys_length, hR.len]) (rd_news hR h0) (bys_one _) h0 hb ?_
  intro gx cx' w2 hgx hgr2 hown2 _
  rw [bys_app] at hown2
  have hG2 := grown_mine hG hgr2 hM
  have hsz := hG.size
  refine hK gx cx' w2 ⟨hown2, isB_append hA.byte hR.byte, fun g h => ?_⟩ hG2 (fun g h => ?_)
  · have e : gx = g := Option.some.inj h
    subst e
    rcases hgx with h | h
    · exact hA.new gx h
    · exact Nat.le_trans hlo (Nat.le_trans hsz h)
  · have e : gx = g := Option.some.inj h
    subst e
    rcases hgx with h | h
    · exact hM gx h
    · exact .inr (Nat.le_trans hsz h)
end

section
/-- a value of several cells in a box -/
def BxS (w : World) (g : Nat) (t : TypeId) (cs : Array Value) : Prop := w.heap[g]? = some (.cells cs t)
theorem BxS.lt {w : World} {g : Nat} {t : TypeId} {cs : Array Value} (h : BxS w g t cs) : g < w.heap.size := (Array.getElem?_eq_some_iff.1 h).1
theorem BxS.free {w : World} {g : Nat} {t : TypeId} {cs : Array Value} (h : BxS w g t cs) (i : Nat) : w.frozen? ⟨g, i, none⟩ = false := frozen_of_row w g i _ _ h
theorem BxS.cell {w : World} {g : Nat} {t : TypeId} {cs : Array Value} (h : BxS w g t cs) (i : Nat) (hi : i < cs.size) : w.cell? ⟨g, i, none⟩ = some cs[i] := by
  rw [cell_of_row w g i cs t (0, 0) h, Array.getElem?_eq_getElem hi]
theorem BxS.keep {w w' : World} {g : Nat} {t : TypeId} {cs : Array Value} {r : Option Nat} (h : BxS w g t cs) (hg : w.grownBy w' r) (hne : some g ≠ r) : BxS w' g t cs := (hg.block g h.lt hne).trans h
theorem BxS.new (w : World) (t : TypeId) (cs : Array Value) : BxS (w.alloc (.cells cs t)) w.heap.size t cs := heap_alloc_new w _
theorem BxS.set {w : World} {g : Nat} {t : TypeId} {cs : Array Value} (h : BxS w g t cs) (i : Nat) (v : Value) : BxS (w.setCell ⟨g, i, none⟩ v) g t (cs.set! i v) := by
  unfold BxS
  rw [setCell_eq_setRow w g i _ _ _ _ h]
  exact setRow_heap w g _ _ _ _ h
theorem BxS.row {w : World} {g : Nat} {t : TypeId} {cs : Array Value} (h : BxS w g t cs) (ds : Array Value) : BxS (w.setRow g ds) g t ds := setRow_heap w g _ _ _ _ h
theorem BxS.load {w : World} {g : Nat} {t : TypeId} {cs : Array Value} (h : BxS w g t cs) {fs : Array Field} (hu : Try.prog.underlying t = some (.struct fs)) (hi : (Try.prog.info? t).map (·.size) = some cs.size) :
    (loadVar t ⟨g, 0, none⟩).run Try.prog w = .ok (.agg cs) w := run_loadVar_row w g t t cs (0, 0) (.struct fs) h hu rfl hi
/-- results, the first of which lies in a box -/
theorem results_cell3 {fn : Func} {p u x : Tmp} {ty : TypeId} (h : fn.results = #[.cell p ty, .tmp u, .tmp x]) (tmps : Array Value) (P : Program) (w : World) (a : Addr) (v y z : Value) (ha : tmps.getD p undef = .pointer (some a)) (hl : (loadVar ty a).run P w = .ok v w) (hy : tmps.getD u undef = y) (hz : tmps.getD x undef = z) :
    (results fn tmps).run P w = .ok (.tuple #[v, y, z]) w := by
  simp only [results, h]
  rw [Array.getD_eq_getD_getElem?] at ha hy hz
  simp [Sem.run_bind, Result.andThen]
  rw [ha]
  simp [asAddr, hl, hy, hz]
theorem results_cell1t {fn : Func} {p u : Tmp} {ty : TypeId} (h : fn.results = #[.cell p ty, .tmp u]) (tmps : Array Value) (P : Program) (w : World) (a : Addr) (v y : Value) (ha : tmps.getD p undef = .pointer (some a)) (hl : (loadVar ty a).run P w = .ok v w) (hy : tmps.getD u undef = y) :
    (results fn tmps).run P w = .ok (.tuple #[v, y]) w := by
  simp only [results, h]
  rw [Array.getD_eq_getD_getElem?] at ha hy
  simp [Sem.run_bind, Result.andThen]
  rw [ha]
  simp [asAddr, hl, hy]
/-- a whole value is stored into a box -/
theorem wpList_stX (w : World) {ops : Array Oper} {rest : List Oper} {o : Oper} {a : Act} {Q : Exit → Act → World → Prop} (hg : o.guard = none) (t : TypeId) (p v : Operand) (hop : o.op = Op.store t p v)
    (g : Nat) (cs ds : Array Value) (hp : a.eval p = .pointer (some ⟨g, 0, none⟩)) (hv : a.eval v = .agg ds) (h : BxS w g t cs) (hi : (Try.prog.info? t).map (·.size) = some ds.size) (ho : cs.size = ds.size) (h1 : ds.all (·.oneCell') = true)
    (hK : ∀ w', BxS w' g t ds → w.grownBy w' (some g) → wpList Try.prog ops Q rest (a.put o.dst undef) w') :
    wpList Try.prog ops Q (o :: rest) a w := by
  refine wpList_plain hg fun K hK' => ?_
  have hst : (Instr.storeAt t (.pointer (some ⟨g, 0, none⟩)) (.agg ds)).run Try.prog w = .ok () (w.setRow g ds) := by
    simp only [Instr.storeAt, Instr.sureAddr, Sem.run_bind, Sem.run_pure, Result.andThen]
    exact run_storeVar_row w g t t cs ds h hi ho h1
  unfold Oper.wp
  simp [execOp, hop, hp, hv, hst, Result.andThen]
  exact hK' _ _ (hK _ (h.row ds) ⟨rfl, rfl, rfl, by simp, fun k _ hk => setRow_other w g k _ (fun e => hk (by rw [e]))⟩)
/-- a whole value is loaded out of a box -/
theorem wpList_ldX (w : World) {ops : Array Oper} {rest : List Oper} {o : Oper} {a : Act} {Q : Exit → Act → World → Prop} (hg : o.guard = none) (t : TypeId) (p : Operand) (hop : o.op = Op.load t p)
    (g : Nat) (cs : Array Value) (hp : a.eval p = .pointer (some ⟨g, 0, none⟩)) (h : BxS w g t cs) {fs : Array Field} (hu : Try.prog.underlying t = some (.struct fs)) (hi : (Try.prog.info? t).map (·.size) = some cs.size)
    (hK : wpList Try.prog ops Q rest (a.put o.dst (.agg cs)) w) :
    wpList Try.prog ops Q (o :: rest) a w := by
  refine wpList_plain hg fun K hK' => ?_
  have hld : (Instr.loadAt t (.pointer (some ⟨g, 0, none⟩))).run Try.prog w = .ok (.agg cs) w := by
    simp only [Instr.loadAt, Instr.sureAddr, Sem.run_bind, Sem.run_pure, Result.andThen]
    exact h.load hu hi
  unfold Oper.wp
  simp [execOp, hop, hp, hld, Result.andThen]
  exact hK' _ _ hK
/-- one cell of a box is written -/
theorem wpList_stC (w : World) {ops : Array Oper} {rest : List Oper} {o : Oper} {a : Act} {Q : Exit → Act → World → Prop} (hg : o.guard = none) (t : TypeId) (p x : Operand) (hop : o.op = Op.store t p x)
    (g i : Nat) (ty : TypeId) (A A' : Array Value) (v : Value) (hp : a.eval p = .pointer (some ⟨g, i, none⟩)) (hx : a.eval x = v) (hB : BxS w g ty A)
    (hst : ∀ w' : World, (∃ u, w'.cell? ⟨g, i, none⟩ = some u) → w'.frozen? ⟨g, i, none⟩ = false → (Instr.storeAt t (.pointer (some ⟨g, i, none⟩)) v).run Try.prog w' = .ok () (w'.setCell ⟨g, i, none⟩ v)) (hi : i < A.size) (hA : A.setIfInBounds i v = A')
    (hK : ∀ w', BxS w' g ty A' → w.grownBy w' (some g) → wpList Try.prog ops Q rest (a.put o.dst undef) w') :
    wpList Try.prog ops Q (o :: rest) a w := by
  refine wpList_plain hg fun K hK' => ?_
  have hc : ∃ u, w.cell? ⟨g, i, none⟩ = some u := ⟨A[i], by rw [cell_of_row w g i _ _ _ hB]; simp [hi]⟩
  have hf := frozen_of_row w g i _ _ hB
  unfold Oper.wp
  simp [execOp, hop, hp, hx, hst w hc hf, Result.andThen]
  exact hK' _ _ (hK _ (by unfold BxS; rw [heap_setCell_same w g i _ _ _ hB, hA]) (grown_set w g i v))
theorem stc_int (g i : Nat) (n : Int) (w : World) (hc : ∃ u, w.cell? ⟨g, i, none⟩ = some u) (hf : w.frozen? ⟨g, i, none⟩ = false) : (Instr.storeAt 3 (.pointer (some ⟨g, i, none⟩)) (.int .i64 n)).run Try.prog w = .ok () (w.setCell ⟨g, i, none⟩ (.int .i64 n)) := by
  obtain ⟨u, hc⟩ := hc
  simp [go_sem, hc, hf]
theorem stc_bool (g i : Nat) (b : Bool) (w : World) (hc : ∃ u, w.cell? ⟨g, i, none⟩ = some u) (hf : w.frozen? ⟨g, i, none⟩ = false) : (Instr.storeAt 4 (.pointer (some ⟨g, i, none⟩)) (.bool b)).run Try.prog w = .ok () (w.setCell ⟨g, i, none⟩ (.bool b)) := by
  obtain ⟨u, hc⟩ := hc
  simp [go_sem, hc, hf]
theorem stc_sl (g i : Nat) (p : Option Addr) (l c : Nat) (w : World) (hc : ∃ u, w.cell? ⟨g, i, none⟩ = some u) (hf : w.frozen? ⟨g, i, none⟩ = false) : (Instr.storeAt 29 (.pointer (some ⟨g, i, none⟩)) (.slice p l c)).run Try.prog w = .ok () (w.setCell ⟨g, i, none⟩ (.slice p l c)) := by
  obtain ⟨u, hc⟩ := hc
  simp [go_sem, hc, hf]
end

section
/-! the sum of bytes, bit by bit -/
def crS (s b : Nat) : Nat := (s * 2 % 65536) ^^^ ((b ^^^ s / 32768) * 4129)
def crB (B : List Nat) (i : Nat) : Nat := nth B (i / 8) / 2 ^ (7 - i % 8) % 2
def crN (B : List Nat) : Nat → Nat
  | 0 => 65535
  | i + 1 => crS (crN B i) (crB B i)
def sumB (B : List Nat) : Nat := crN B (8 * B.length)
theorem xor_bit {a b : Nat} (ha : a < 2) (hb : b < 2) : a ^^^ b < 2 := by
  obtain (rfl | rfl) : a = 0 ∨ a = 1 := by omega
  all_goals obtain (rfl | rfl) : b = 0 ∨ b = 1 := by omega
  all_goals decide
theorem xor_16 {a b : Nat} (ha : a < 65536) (hb : b < 65536) : a ^^^ b < 65536 := Nat.xor_lt_two_pow (n := 16) ha hb
theorem crS_lt (s b : Nat) (hs : s < 65536) (hb : b < 2) : crS s b < 65536 := by
  have h := xor_bit hb (show s / 32768 < 2 by omega)
  exact xor_16 (Nat.mod_lt _ (by decide)) (by omega)
theorem crB_lt (B : List Nat) (i : Nat) : crB B i < 2 := Nat.mod_lt _ (by decide)
theorem crN_lt (B : List Nat) (i : Nat) : crN B i < 65536 := by
  induction i with
  | zero => exact (by decide : (65535 : Nat) < 65536)
  | succ i ih => exact crS_lt _ _ ih (crB_lt _ _)
/-- the register with what is left of a byte -/
def crP (p : Nat) : Nat := (p * 2 % 65536) ^^^ (p / 32768 * 4129)
theorem dbl_xorKxNs (a b : Nat) : (a ^^^ b) * 2 % 65536 = (a * 2 % 65536) ^^^ (b * 2 % 65536) := by
  have e : ∀ x : Nat, x * 2 % 65536 = (x <<< 1) % 2 ^ 16 := fun x => by rw [Nat.shiftLeft_eq]
  rw [e, e, e, Nat.shiftLeft_xor_distrib, Nat.xor_mod_two_pow]
theorem top_xor (a b : Nat) : (a ^^^ b) / 32768 = (a / 32768) ^^^ (b / 32768) := by
  have e : ∀ x : Nat, x / 32768 = x >>> 15 := fun x => by rw [Nat.shiftRight_eq_div_pow]
  rw [e, e, e, Nat.shiftRight_xor_distrib]
theorem crP_xor (s y : Nat) (hs : s < 65536) (hy : y < 65536) : crP (s ^^^ y) = crS s (y / 32768) ^^^ (y * 2 % 65536) := by
  unfold crP crS
  rw [dbl_xorKxNs, top_xor, Nat.xor_comm (y / 32768) (s / 32768)]
  ac_rfl
theorem bits_left (x j : Nat) (hx : x < 256) (hj : j < 8) : x * 2 ^ (8 + j) % 65536 / 32768 = x / 2 ^ (7 - j) % 2 := by
  obtain (rfl | rfl | rfl | rfl | rfl | rfl | rfl | rfl) : j = 0 ∨ j = 1 ∨ j = 2 ∨ j = 3 ∨ j = 4 ∨ j = 5 ∨ j = 6 ∨ j = 7 := by omega
  all_goals simp only [Nat.reduceAdd, Nat.reduceSub, Nat.reducePow]
  all_goals omega
/-- what the program's register holds behind j bits of byte k -/
def crR (B : List Nat) (k j : Nat) : Nat := crN B (8 * k + j) ^^^ (nth B k * 2 ^ (8 + j) % 65536)
theorem crR_lt (B : List Nat) (k j : Nat) : crR B k j < 65536 := xor_16 (crN_lt _ _) (Nat.mod_lt _ (by decide))
theorem crR_step (B : List Nat) (k j : Nat) (hB : nth B k < 256) (hj : j < 8) : crP (crR B k j) = crR B k (j + 1) := by
  unfold crR
  rw [crP_xor _ _ (crN_lt _ _) (Nat.mod_lt _ (by decide)), bits_left _ _ hB hj]
  show _ = crN B (8 * k + j + 1) ^^^ _
  have e1 : crB B (8 * k + j) = nth B k / 2 ^ (7 - j) % 2 := by unfold crB; rw [show (8 * k + j) / 8 = k by omega, show (8 * k + j) % 8 = j by omega]
  show _ = crS (crN B (8 * k + j)) (crB B (8 * k + j)) ^^^ _
  rw [e1]
  congr 1
  rw [show 8 + (j + 1) = (8 + j) + 1 by omega, Nat.pow_succ, ← Nat.mul_assoc, Nat.mod_mul_mod]
theorem crR_end (B : List Nat) (k : Nat) : crR B k 8 = crN B (8 * (k + 1)) := by
  unfold crR
  rw [show nth B k * 2 ^ (8 + 8) % 65536 = 0 by rw [show (2 : Nat) ^ (8 + 8) = 65536 from rfl]; exact Nat.mul_mod_left _ _, Nat.xor_zero]
  rfl
theorem crR_zero (B : List Nat) (k : Nat) (hB : nth B k < 256) : crR B k 0 = crN B (8 * k) ^^^ (nth B k * 256) := by
  unfold crR
  rw [show (2 : Nat) ^ (8 + 0) = 256 from rfl, Nat.mod_eq_of_lt (by omega)]
  rfl
set_option maxHeartbeats 1000000 in
theorem fsum_any (a : Option Addr) (n cap : Nat) (L : List Nat) (w : World) (h : Rd w a n cap L) :
    Calls Try.prog 34 #[.slice a n cap] w fun e w' => e = .returned (.int .i64 (sumB L : Nat)) ∧ w' = w := by
  have hn := h.max
  unfold maxLen at hn
  have hle := h.le
  go_enter Try.func34, Try.ntmps34
  go_wp2
  go_loop [3, 9] (fun r i => ∃ k : Nat, k ≤ n ∧ i = .int .i64 k ∧ r = .int .u16 (crN L (8 * k) : Nat)) (fun _ i => n - (intOf i).toNat)
  case atStart => exact ⟨0, by omega, rfl, rfl⟩
  case round =>
    obtain ⟨k, hk, rfl, rfl⟩ := hrel
    by_cases hlt : k < n
    · obtain ⟨b, off, rfl, hbw, hcc⟩ := h.at' (by omega)
      have hlk := hcc k hlt
      have hB : nth L k < 256 := h.byte.nth k
      go_wp2
      go_loop [3, 18] (fun r i => ∃ j : Nat, j ≤ 8 ∧ i = .int .i64 j ∧ r = .int .u16 (crR L k j : Nat)) (fun _ i => 8 - (intOf i).toNat)
      case atStart => exact ⟨0, by omega, rfl, val_int (by rw [crR_zero L k hB, show ((nth L k : Int) * 256) = ((nth L k * 256 : Nat) : Int) by omega]; exact u16_xor_nat _ _ (crN_lt _ _) (by omega))⟩
      case round =>
        obtain ⟨j, hj, rfl, rfl⟩ := hrel
        have hR := crR_lt L k j
        by_cases hl8 : j < 8
        · go_wp2
          go_round
          case rel => exact ⟨j + 1, by omega, by go_num, val_int (by
            rw [IntKind.wrap_u16, ← crR_step L k j hB hl8, show ((crR L k j : Int) * 2 % 65536) = ((crR L k j * 2 % 65536 : Nat) : Int) by omega, show ((crR L k j : Int) / 32768 * 4129) = ((crR L k j / 32768 * 4129 : Nat) : Int) by omega]
            exact u16_xor_nat _ _ (by omega) (by omega))⟩
          case measure => simp [intOf]; omega
        · obtain rfl : j = 8 := by omega
          rw [crR_end]
          go_wp2
          go_round
          case rel => exact ⟨k + 1, by omega, by go_num, rfl⟩
          case measure => simp [intOf]; omega
    · obtain rfl : k = n := by omega
      go_wp2
      go_ret
      have hlt' := crN_lt L (8 * k)
      exact ⟨by unfold sumB; rw [h.len]; exact ret_int (by unfold wrap64; omega), rfl⟩
/-- bytes that lie in the call's own memory, told by a box -/
structure Row (wb w : World) (g : Nat) (a : Option Addr) (m c : Nat) (D : List Nat) : Prop where
  box : BxS w g 29 #[.slice a m c]
  ans : Ans w wb.heap.size a m c D
  far : (Value.slice a m c).ownBlock ≠ some g
  new : wb.heap.size ≤ g
  grown : wb.grownBy w none
theorem Row.push {wb wr w2 : World} {g m m' c1 cx gx : Nat} {a1 : Option Addr} {D E : List Nat} (h : Row wb wr g a1 m c1 D) (hA2 : Ans w2 wb.heap.size (some ⟨gx, 0, none⟩) m' cx E) (hG2 : wr.grownBy w2 (Value.slice a1 m c1).ownBlock)
    (hM2 : Mine wr (Value.slice a1 m c1).ownBlock (some ⟨gx, 0, none⟩) m' cx) : Row wb (w2.setCell ⟨g, 0, none⟩ (.slice (some ⟨gx, 0, none⟩) m' cx)) g (some ⟨gx, 0, none⟩) m' cx E := by
  have hb2 := h.box.keep hG2 (Ne.symm h.far)
  have hfar : (Value.slice (some ⟨gx, 0, none⟩) m' cx).ownBlock ≠ some g := by
    intro e
    rcases hM2 g e with h1 | h1
    · exact h.far h1
    · have := h.box.lt; omega
  exact ⟨hb2.set 0 _, hA2.kept (grown_set _ _ _ _) (.inr hfar), hfar, h.new, grown_far (grown_far h.grown hG2 (fun q e => h.ans.new q e)) (grown_set _ _ _ _) (fun q e => by cases e; exact h.new)⟩
theorem i64_or_n (a b : Nat) (ha : a < 2 ^ 63) (hb : b < 2 ^ 63) : bits .or .i64 (a : Int) (b : Int) = ((a ||| b : Nat) : Int) := by
  have hx : a ||| b < 2 ^ 63 := Nat.or_lt_two_pow (by omega) (by omega)
  show IntKind.i64.wrap ((BitVec.ofInt 64 (a : Int) ||| BitVec.ofInt 64 (b : Int)).toNat : Int) = _
  rw [BitVec.toNat_or, ofInt_i64 a ha, ofInt_i64 b hb, wrap_i64_in _ (by omega) (by omega)]
/-- bits behind bits -/
theorem or_put (h x k : Nat) (hx : x < 2 ^ k) (h1 : h * 2 ^ k < 2 ^ 62) (h2 : x < 2 ^ 62) : bits .or .i64 ((h * 2 ^ k : Nat) : Int) (x : Int) = ((h * 2 ^ k + x : Nat) : Int) := by
  rw [i64_or_n _ _ (by omega) (by omega)]
  have h3 := Nat.shiftLeft_add_eq_or_of_lt hx h
  rw [Nat.shiftLeft_eq] at h3
  rw [← h3]
theorem BxS.cell5 {w : World} {g : Nat} {t : TypeId} {a b c d e : Value} (h : BxS w g t #[a, b, c, d, e]) : w.cell? ⟨g, 0, none⟩ = some a ∧ w.cell? ⟨g, 1, none⟩ = some b ∧ w.cell? ⟨g, 2, none⟩ = some c ∧ w.cell? ⟨g, 3, none⟩ = some d ∧ w.cell? ⟨g, 4, none⟩ = some e := by
  simp [World.cell?, show w.heap[g]? = _ from h]
end

section
/-- a box with a number -/
def BxI (w : World) (g : Nat) (x : Int) : Prop := w.heap[g]? = some (.cells #[.int .i64 x] 3)
theorem BxI.cell {w : World} {g : Nat} {x : Int} (h : BxI w g x) : w.cell? ⟨g, 0, none⟩ = some (.int .i64 x) := by simp [World.cell?, show w.heap[g]? = _ from h]
theorem BxI.free {w : World} {g : Nat} {x : Int} (h : BxI w g x) : w.frozen? ⟨g, 0, none⟩ = false := by simp [World.frozen?, show w.heap[g]? = _ from h]
theorem BxI.lt {w : World} {g : Nat} {x : Int} (h : BxI w g x) : g < w.heap.size := (Array.getElem?_eq_some_iff.1 h).1
theorem BxI.set {w : World} {g : Nat} {x : Int} (h : BxI w g x) (y : Int) : BxI (w.setCell ⟨g, 0, none⟩ (.int .i64 y)) g y := by
  unfold BxI
  rw [setCell_eq_setRow w g 0 _ _ _ _ h]
  exact setRow_heap w g _ _ _ _ h
theorem BxI.keep {w w' : World} {g : Nat} {x : Int} {r : Option Nat} (h : BxI w g x) (hg : w.grownBy w' r) (hne : some g ≠ r) : BxI w' g x := (hg.block g h.lt hne).trans h
theorem BxI.new (w : World) (x : Int) : BxI (w.alloc (.cells #[.int .i64 x] 3)) w.heap.size x := heap_alloc_new w _
end

section
theorem pclone_any (b off n cap : Nat) (D : List Nat) (w : World) (hp : Rd w (some ⟨b, off, none⟩) n cap D) (h0 : 0 < n) (hn : n ≤ 140737488355328) :
    Calls Try.prog 19 #[.slice (some ⟨b, off, none⟩) n cap] w fun e w' => ∃ g' c', e = .returned (.slice (some ⟨g', 0, none⟩) n c') ∧ Ans w' w.heap.size (some ⟨g', 0, none⟩) n c' D ∧ w.grownBy w' none := by
  have gA := World.grownBy_alloc w (.cells #[] 5) none
  have hA := heap_alloc_new w (.cells #[] 5)
  have hown : (w.alloc (.cells #[] 5)).ownsRow 0 5 1 (.slice (some ⟨w.heap.size, 0, none⟩) 0 0) 0 (bys []) := ⟨rfl, .inr ⟨w.heap.size, 0, #[], rfl, Nat.zero_le _, hA, Nat.le_refl _, Nat.zero_le _, rfl, rfl⟩⟩
  have hpA := hp.keep gA
  have heq := fun w => Lib.run_eql_slice_nil (P := Try.prog) w 29 5 (some ⟨b, off, none⟩) n cap 0 0 Try.underlying29
  go_enter Try.func19, Try.ntmps19
  go_wp2_with (at_builtin; refine wpList_apB _ rfl _ _ rfl (.slice (some ⟨w.heap.size, 0, none⟩) 0 0) 0 (bys []) rfl hown ⟨b, off, none⟩ n cap (bys D) rfl (by rw [bys_length, hp.len]) (rd_news hpA h0) (bys_one _) h0 (by omega) ?_; intro g' c' w2 hg2 hgr2 hown2)
  go_ret
  rw [Nat.zero_add] at *
  refine ⟨g', c', rfl, ⟨hown2, hp.byte, fun x hx => ?_⟩, grown_far gA hgr2 (fun x hx => by have e : w.heap.size = x := Option.some.inj hx; omega)⟩
  have e : g' = x := Option.some.inj hx
  rcases hg2 with h | h
  · have e2 : w.heap.size = g' := Option.some.inj h
    omega
  · simp at h; omega
/-- some of the bytes -/
theorem Rd.part {w : World} {b off n cap : Nat} {L : List Nat} (h : Rd w (some ⟨b, off, none⟩) n cap L) (m k : Nat) (hk : m + k ≤ n) : Rd w (some ⟨b, off + m, none⟩) k (cap - m) ((L.drop m).take k) := by
  have hl := h.len
  have h1 := h.le
  have h2 := h.max
  refine ⟨by simp; omega, by omega, by omega, (fun e => by cases e), isB_take (isB_drop h.byte m) k, fun h0 => ?_⟩
  obtain ⟨b', off', e, hb, hc⟩ := h.at' (by omega)
  cases e
  refine ⟨b, off + m, rfl, hb, fun i hi => ?_⟩
  have := hc (m + i) (by omega)
  rw [show off + m + i = off + (m + i) by omega, this]
  congr 3
  unfold nth
  rw [List.getD_eq_getElem?_getD, List.getD_eq_getElem?_getD, List.getElem?_take, if_pos hi, List.getElem?_drop]
end

section
/-- is a number from l to m? -/
def kwB (n l m : Int) : Bool := decide (l ≤ n ∧ n ≤ m)
theorem kwB_t {n l m : Int} (h : l ≤ n ∧ n ≤ m) : kwB n l m = true := decide_eq_true h
theorem kwB_f {n l m : Int} (h : ¬ (l ≤ n ∧ n ≤ m)) : kwB n l m = false := decide_eq_false h
theorem kwB_ok {n l m : Int} (h : kwB n l m = true) : l ≤ n ∧ n ≤ m := of_decide_eq_true h
theorem kwithin_any (n l m : Int) (w : World) : Calls Try.prog 25 #[.int .i64 n, .int .i64 l, .int .i64 m] w fun e w' => e = .returned (.bool (kwB n l m)) ∧ w' = w := by
  by_cases h : l ≤ n ∧ n ≤ m
  · rw [kwB_t h]
    have h1 := h.1
    have h2 := h.2
    go_enter Try.func25, Try.ntmps25
    go_wp2
    go_ret
    exact ⟨rfl, rfl⟩
  · rw [kwB_f h]
    by_cases h1 : l ≤ n
    · have h2 : ¬ n ≤ m := fun h2 => h ⟨h1, h2⟩
      go_enter Try.func25, Try.ntmps25
      go_wp2
      go_ret
      exact ⟨rfl, rfl⟩
    · go_enter Try.func25, Try.ntmps25
      go_wp2
      go_ret
      exact ⟨rfl, rfl⟩
theorem bitIf_any (b : Bool) (x : Int) (w : World) : Calls Try.prog 24 #[.bool b, .int .i64 x] w fun e w' => e = .returned (.int .i64 (b.toNat * x)) ∧ w' = w := by
  cases b
  · go_enter Try.func24, Try.ntmps24
    go_wp2
    go_ret
    exact ⟨ret_int (by simp), rfl⟩
  · go_enter Try.func24, Try.ntmps24
    go_wp2
    go_ret
    exact ⟨ret_int (by simp), rfl⟩
theorem ofInt_mod (z : Int) : (BitVec.ofInt 64 z).toNat = (z % 18446744073709551616).toNat := by
  rw [BitVec.toNat_ofInt]; rfl
/-- a number's lowest eight bits, whatever it is -/
theorem and_255 (z : Int) : bits .and .i64 z 255 = z % 256 := by
  show IntKind.i64.wrap ((BitVec.ofInt 64 z &&& BitVec.ofInt 64 255).toNat : Int) = _
  rw [BitVec.toNat_and, ofInt_mod, ofInt_mod]
  have h : ((z % 18446744073709551616).toNat &&& ((255 : Int) % 18446744073709551616).toNat) = (z % 18446744073709551616).toNat % 256 := by
    show (z % 18446744073709551616).toNat &&& 255 = _
    exact Nat.and_two_pow_sub_one_eq_mod _ 8
  rw [h, wrap_i64_in _ (by omega) (by omega)]
  omega
theorem around_any (z : Int) (w : World) : Calls Try.prog 41 #[.int .i64 z] w fun e w' => e = .returned (.int .i64 (z % 256)) ∧ w' = w := by
  have h := and_255 z
  go_enter Try.func41, Try.ntmps41
  go_wp2
  go_ret
  exact ⟨ret_int (by first | exact h | rfl), rfl⟩
/-- a gate, cell by cell -/
def gtA (cr nx ha : Int) (sh wa ag : Bool) (ct : Int) : Array Value := #[.int .i64 cr, .int .i64 nx, .int .i64 ha, .bool sh, .bool wa, .bool ag, .int .i64 ct]
theorem BxS.cell7 {w : World} {g : Nat} {t : TypeId} {a b c d e f h : Value} (k : BxS w g t #[a, b, c, d, e, f, h]) : w.cell? ⟨g, 0, none⟩ = some a ∧ w.cell? ⟨g, 1, none⟩ = some b ∧ w.cell? ⟨g, 2, none⟩ = some c ∧ w.cell? ⟨g, 3, none⟩ = some d ∧ w.cell? ⟨g, 4, none⟩ = some e ∧ w.cell? ⟨g, 5, none⟩ = some f ∧ w.cell? ⟨g, 6, none⟩ = some h := by
  simp [World.cell?, show w.heap[g]? = _ from k]
theorem Try.info_gt : (Try.prog.info? 28).map (fun i => i.size) = some 7 := by kernel_rfl
def gtB (cr nx ha ct : Int) : Bool := kwB cr 0 1023 && kwB ha 1 127 && kwB nx 0 255 && kwB ct 0 3
set_option maxHeartbeats 4000000 in
theorem gmay_any (cr nx ha : Int) (sh wa ag : Bool) (ct : Int) (w : World) : Calls Try.prog 15 #[.agg (gtA cr nx ha sh wa ag ct)] w fun e w' => e = .returned (.bool (gtB cr nx ha ct)) ∧ w.grownBy w' none := by
  unfold gtA gtB
  have gA := World.grownBy_alloc w (.cells #[.int .i64 cr, .int .i64 nx, .int .i64 ha, .bool sh, .bool wa, .bool ag, .int .i64 ct] 28) none
  have h0 := fun wz => kwithin_any cr 0 1023 wz
  have h1 := fun wz => kwithin_any ha 1 127 wz
  have h2 := fun wz => kwithin_any nx 0 255 wz
  have h3 := fun wz => kwithin_any ct 0 3 wz
  generalize kwB cr 0 1023 = b0 at h0 ⊢
  generalize kwB ha 1 127 = b1 at h1 ⊢
  generalize kwB nx 0 255 = b2 at h2 ⊢
  generalize kwB ct 0 3 = b3 at h3 ⊢
  have t1 : True := trivial
  cases b0 <;> cases b1 <;> cases b2 <;> cases b3
  all_goals
    go_enter Try.func15, Try.ntmps15
    go_wp2_with (first
      | (go_at_call 25; have _t := t1; clear t1; refine (h0 _).mono ?_; rintro e wx ⟨rfl, hw⟩; have hw := hw.symm; subst hw; have t2 : True := trivial)
      | (go_at_call 25; have _t := t2; clear t2; refine (h1 _).mono ?_; rintro e wx ⟨rfl, hw⟩; have hw := hw.symm; subst hw; have t3 : True := trivial)
      | (go_at_call 25; have _t := t3; clear t3; refine (h2 _).mono ?_; rintro e wx ⟨rfl, hw⟩; have hw := hw.symm; subst hw; have t4 : True := trivial)
      | (go_at_call 25; have _t := t4; clear t4; refine (h3 _).mono ?_; rintro e wx ⟨rfl, hw⟩; have hw := hw.symm; subst hw))
    go_ret
    exact ⟨rfl, gA⟩
end
end Go.Proofs.Ytlfacjpehhcdiaa
