import Derived.Deep.RegionLawGrows
import Derived.Test.YtlmddjkplnbadaaSRev
namespace Go.Proofs.Ytlmddjkplnbadaa
open Go.RowKit
set_option maxRecDepth 100000
set_option linter.unusedVariables false
set_option linter.unusedSimpArgs false

/-- how many bits of a byte are set -/
def pop8 (x : Nat) : Nat := x % 2 + x / 2 % 2 + x / 4 % 2 + x / 8 % 2 + x / 16 % 2 + x / 32 % 2 + x / 64 % 2 + x / 128 % 2
/-- the next bit of the row, told by the eight that are there; a step of the register -/
def parN (x : Nat) : Nat := (x + x / 4 + x / 16 + x / 128) % 2
def stpN (x : Nat) : Nat := (2 * x + parN x) % 256
def itN (x : Nat) : Nat → Nat
  | 0 => x
  | k + 1 => stpN (itN x k)
theorem stpN_lt (x : Nat) : stpN x < 256 := Nat.mod_lt _ (by decide)
theorem itN_lt (x : Nat) (hx : x < 256) (k : Nat) : itN x k < 256 := by
  cases k with
  | zero => exact hx
  | succ k => exact stpN_lt _
theorem xor4 : ∀ a b c d : Nat, a < 2 → b < 2 → c < 2 → d < 2 → ((a ^^^ b) ^^^ c) ^^^ d = (a + b + c + d) % 2 := by
  intro a b c d ha hb hc hd
  have e : ∀ a, a < 2 → ∀ b, b < 2 → ∀ c, c < 2 → ∀ d, d < 2 → ((a ^^^ b) ^^^ c) ^^^ d = (a + b + c + d) % 2 := by decide
  exact e a ha b hb c hc d hd

/-! the program's row -/
theorem next_fact : ∀ y : Nat, y < 256 → bits BinOp.or IntKind.u8 ((y : Int) * 2 % 256) (bits BinOp.and IntKind.i64 (pop8 (y &&& 149) : Nat) 1 % 256) = (stpN y : Int) := by decide +kernel
/-! lists that are told by their places -/
def tab (n : Nat) (f : Nat → Nat) : List Nat := (List.range n).map f
theorem tab_len (n : Nat) (f : Nat → Nat) : (tab n f).length = n := by simp [tab]
theorem tab_nth (n : Nat) (f : Nat → Nat) (i : Nat) (h : i < n) : nth (tab n f) i = f i := by
  unfold tab nth; rw [List.getD_eq_getElem?_getD, List.getElem?_map, List.getElem?_range h]; rfl
theorem tab_succ (n : Nat) (f : Nat → Nat) : tab (n + 1) f = tab n f ++ [f n] := by simp [tab, List.range_succ]
theorem cell_one (w : World) (v : Value) (j : Nat) (u : Value) (h : [v][j]? = some u) : (w.alloc (.cells #[v] 5)).cell? ((⟨w.heap.size, 0, none⟩ : Addr).add j) = some u := by
  rw [addr_add, cell_of_row _ _ _ _ _ _ (heap_alloc_new w _)]
  simpa using h
theorem bys_add (A : List Nat) (v : Nat) : bys A ++ [Value.int .u8 (v : Int)] = bys (A ++ [v]) := by simp [bys]
theorem isB_single (v : Nat) (h : v < 256) : IsB [v] := fun y hy => by cases hy with | head => exact h | tail _ h2 => cases h2
theorem own_nil (w : World) (lo g c : Nat) (h : w.ownsRow lo 5 1 (.slice (some ⟨g, 0, none⟩) 0 c) 0 []) (hg : lo ≤ g) : Ans w lo (some ⟨g, 0, none⟩) 0 c [] :=
  ⟨own_base h, (fun x hx => by cases hx), fun g' h' => by simp [Value.ownBlock] at h'; omega⟩
/-- the block that an answer may be written into: the one that it had at first, or a new one -/
def Mine (w0 : World) (r : Option Nat) (ao : Option Addr) (m co : Nat) : Prop := ∀ g, (Value.slice ao m co).ownBlock = some g → r = some g ∨ w0.heap.size ≤ g
theorem grown_mine {a b c : World} {r s : Option Nat} (h : a.grownBy b r) (k : b.grownBy c s) (hs : ∀ g, s = some g → r = some g ∨ a.heap.size ≤ g) : a.grownBy c r :=
  ⟨k.os.trans h.os, k.tape.trans h.tape, k.output.trans h.output, Nat.le_trans h.size k.size, fun i hi hn => (k.block i (Nat.lt_of_lt_of_le hi h.size) (fun e => by
    rcases hs i e.symm with h1 | h1
    · exact hn h1.symm
    · omega)).trans (h.block i hi hn)⟩
/-- 'out = append(out, v)' -/
theorem wpList_push2 (w0 w : World) {ops : Array Oper} {rest : List Oper} {o : Oper} {a : Act} {Q : Exit → Act → World → Prop} (hg : o.guard = none) (s x : Operand)
    (hop : o.op = Op.call { callee := .builtin .append, args := #[s, x], argTypes := #[22, 22] }) (ao : Option Addr) (m co v lo : Nat) (r : Option Nat) (D : List Nat) (hs : a.eval s = .slice ao m co)
    (hA : Ans w lo ao m co D) (hG : w0.grownBy w r) (hM : Mine w0 r ao m co) (hlo : lo ≤ w0.heap.size) (hv : v < 256) (hx : a.eval x = .slice (some ⟨w.heap.size, 0, none⟩) 1 1) (hb : m + 1 ≤ 140737488355328)
    (hK : ∀ gx cx w', Ans w' lo (some ⟨gx, 0, none⟩) (m + 1) cx (D ++ [v]) → w0.grownBy w' r → Mine w0 r (some ⟨gx, 0, none⟩) (m + 1) cx → wpList Try.prog ops Q rest (a.put o.dst (.slice (some ⟨gx, 0, none⟩) (m + 1) cx)) w') :
    wpList Try.prog ops Q (o :: rest) a (w.alloc (.cells #[.int .u8 (v : Int)] 5)) := by
  refine wpList_apB _ hg s x hop (.slice ao m co) m (bys D) hs (hA.own.alloc _) ⟨w.heap.size, 0, none⟩ 1 1 [.int .u8 (v : Int)] hx rfl (cell_one w _) (by simp [Value.oneCell']) (by decide) hb ?_
  intro gx cx w2 hgx hgr2 hown2
  rw [bys_add] at hown2
  have gA := grown_trans hG (World.grownBy_alloc w (.cells #[.int .u8 (v : Int)] 5) r)
  have hG2 := grown_mine gA hgr2 hM
  have hsz := gA.size
  refine hK gx cx w2 ⟨hown2, isB_append hA.byte (isB_single v hv), fun g h => ?_⟩ hG2 (fun g h => ?_)
  · have e : gx = g := Option.some.inj h
    subst e
    rcases hgx with h | h
    · exact hA.new gx h
    · exact Nat.le_trans hlo (Nat.le_trans hsz h)
  · have e : gx = g := Option.some.inj h
    subst e
    rcases hgx with h | h
    · exact hM gx h
    · exact .inr (Nat.le_trans hsz h)
theorem step_append_fits {P : Program} {ops : Array Oper} {o : Oper} {a : Act} {w : World} {K : Act → World → Prop} {Q : Exit → Act → World → Prop} {E : Prop}
    (hg : o.guard = none) (s x : Operand) (t : TypeId) (hop : o.op = Op.call { callee := Callee.builtin Builtin.append, args := #[s, x], argTypes := #[t, t] })
    (base : Nat) (e : TypeId) (i : TypeInfo) (size : Nat) (h1 : P.underlying t = some (.slice e)) (h2 : P.info? e = some i) (h4 : i.size = size)
    (g k cap : Nat) (xs : List Value) (hs : a.eval s = .slice (some ⟨g, 0, none⟩) k cap) (hown : w.ownsRow base e size (.slice (some ⟨g, 0, none⟩) k cap) k xs) (ad : Addr) (m c : Nat) (news : List Value) (hx : a.eval x = .slice (some ad) m c) (hn : news.length = m * size)
    (hc : ∀ j u, news[j]? = some u → w.cell? (ad.add j) = some u) (h1c : ∀ u ∈ news, u.oneCell' = true) (b1 : k + m ≤ cap)
    (hK : ∀ w', w'.ownsRow base e size (.slice (some ⟨g, 0, none⟩) (k + m) cap) (k + m) (xs ++ news) → w.grownBy w' (some g) → K (a.put o.dst (.slice (some ⟨g, 0, none⟩) (k + m) cap)) w') :
    if Region.wanted o (yielded ops a.tmps) = true then Oper.wp P o a w K Q else E := by
  have hw : Region.wanted o (yielded ops a.tmps) = true := by simp [Region.wanted, hg]
  rw [if_pos hw]
  obtain ⟨w', hrun, r1, r2⟩ := run_append_fits (P := P) w base t o.type e i size h1 h2 h4 g k cap xs hown ad m c news hn hc h1c b1
  unfold Oper.wp
  simp [execOp, hop, resolve, invoke, builtin, hs, hx, hrun, Result.andThen]
  exact hK w' r1 r2
/-- 'append(v, x...)', v the call's own, x not empty, in a region that draws -/
theorem step_apB (w : World) {ops : Array Oper} {o : Oper} {a : Act} {K : Act → World → Prop} {Q : Exit → Act → World → Prop} {E : Prop} (hg : o.guard = none) (s x : Operand)
    (hop : o.op = Op.call { callee := .builtin .append, args := #[s, x], argTypes := #[22, 22] }) (v : Value) (n : Nat) (xs : List Value) (hs : a.eval s = v)
    (hown : w.ownsRow 0 5 1 v n xs) (ad : Addr) (m c : Nat) (news : List Value) (hx : a.eval x = .slice (some ad) m c) (hn : news.length = m)
    (hc : ∀ j u, news[j]? = some u → w.cell? (ad.add j) = some u) (h1 : ∀ u, u ∈ news → u.oneCell' = true) (hm : 0 < m) (hb : n + m ≤ 140737488355328)
    (hK : ∀ g cap w', (v.ownBlock = some g ∨ w.heap.size ≤ g) → w.grownBy w' v.ownBlock → w'.ownsRow 0 5 1 (.slice (some ⟨g, 0, none⟩) (n + m) cap) (n + m) (xs ++ news) → (∀ g0, v.ownBlock = some g0 → ∀ j u, xs[j]? = some u → w'.cell? ⟨g0, j, none⟩ = some u) →
      K (a.put o.dst (.slice (some ⟨g, 0, none⟩) (n + m) cap)) w') :
    if Region.wanted o (yielded ops a.tmps) = true then Oper.wp Try.prog o a w K Q else E := by
  obtain ⟨i0, hi, hz0, hz1, hz2⟩ := info_parts Try.info_u8
  have grow : ∀ (ao : Option Addr) (cap : Nat), v = .slice ao n cap → (ao = none → n = 0 ∧ cap = 0) → (∀ b, ao = some b → ∀ j u, xs[j]? = some u → w.cell? (b.add j) = some u) → (∀ b, ao = some b → b = ⟨b.block, 0, none⟩) → cap < n + m → if Region.wanted o (yielded ops a.tmps) = true then Oper.wp Try.prog o a w K Q else E := by
    intro ao cap hv hnone hcells hfirst hfull
    refine step_append_grows hg s x 22 hop 5 i0 (.int .u8 0) 1 1 Try.underlying22 hi hz0 hz1 hz2 rfl (by decide) ao n cap xs (by rw [hs, hv]) hnone (by rw [hown.1]) hcells ad m c news hx (by rw [hn, Nat.mul_one]) hc h1 hfull (by unfold maxLen; omega) (by omega) ?_
    intro v' w' hown' hgr
    rcases hown'.2 with ⟨_, h0⟩ | ⟨g, cap', cur, rfl, hge, hrest⟩
    · omega
    · refine hK g cap' w' (.inr hge) (grown_weak hgr _) (own_base hown') (fun g0 hg0 j u hu => ?_)
      subst hv
      cases ao with
      | none => simp [Value.ownBlock] at hg0
      | some b =>
        have hb0 : b.block = g0 := by simpa [Value.ownBlock] using hg0
        have hc0 := hcells b rfl j u hu
        have hz := hfirst b rfl
        rw [hb0] at hz
        rw [hz, addr_add, Nat.zero_add] at hc0
        exact (World.cell?_of_block (w := w) (hgr.block _ (World.block_lt_of_cell? w _ hc0) (by simp))).trans hc0
  rcases hown.2 with ⟨rfl, h0⟩ | ⟨g, cap, cur, rfl, hbase, hh, hle, hmax, hsz, htake⟩
  · subst h0
    exact grow none 0 rfl (fun _ => ⟨rfl, rfl⟩) (fun b hb => by cases hb) (fun b hb => by cases hb) (by omega)
  · by_cases hroom : n + m ≤ cap
    · refine step_append_fits hg s x 22 hop 0 5 i0 1 Try.underlying22 hi hz1 g n cap xs hs hown ad m c news hx (by rw [hn, Nat.mul_one]) hc h1 hroom ?_
      intro w' hown' hgr
      refine hK g cap w' (.inl rfl) hgr hown' (fun g0 hg0 j u hu => ?_)
      have e : g = g0 := Option.some.inj hg0
      subst e
      have hj : j < xs.length := (List.getElem?_eq_some_iff.1 hu).1
      have h2 := hown'.cells (g := g) rfl j u (by rw [List.getElem?_append_left hj]; exact hu)
      rw [addr_add, Nat.zero_add] at h2
      exact h2
    · refine grow (some ⟨g, 0, none⟩) cap rfl (fun h => by cases h) ?_ (fun b hb => by cases hb; rfl) (by omega)
      intro b hb j u hu
      cases hb
      exact hown.cells (g := g) rfl j u hu
/-- 'out = append(out, v)' in a region that draws -/
theorem step_push2 (w0 w : World) {ops : Array Oper} {o : Oper} {a : Act} {K : Act → World → Prop} {Q : Exit → Act → World → Prop} {E : Prop} (hg : o.guard = none) (s x : Operand)
    (hop : o.op = Op.call { callee := .builtin .append, args := #[s, x], argTypes := #[22, 22] }) (ao : Option Addr) (m co v lo : Nat) (r : Option Nat) (D : List Nat) (hs : a.eval s = .slice ao m co)
    (hA : Ans w lo ao m co D) (hG : w0.grownBy w r) (hM : Mine w0 r ao m co) (hlo : lo ≤ w0.heap.size) (hv : v < 256) (hx : a.eval x = .slice (some ⟨w.heap.size, 0, none⟩) 1 1) (hb : m + 1 ≤ 140737488355328)
    (hK : ∀ gx cx w', Ans w' lo (some ⟨gx, 0, none⟩) (m + 1) cx (D ++ [v]) → w0.grownBy w' r → Mine w0 r (some ⟨gx, 0, none⟩) (m + 1) cx → (∀ g0, ao = some ⟨g0, 0, none⟩ → ∀ j, j < m → w'.cell? ⟨g0, j, none⟩ = some (.int .u8 (nth D j : Nat))) → K (a.put o.dst (.slice (some ⟨gx, 0, none⟩) (m + 1) cx)) w') :
    if Region.wanted o (yielded ops a.tmps) = true then Oper.wp Try.prog o a (w.alloc (.cells #[.int .u8 (v : Int)] 5)) K Q else E := by
  refine step_apB _ hg s x hop (.slice ao m co) m (bys D) hs (hA.own.alloc _) ⟨w.heap.size, 0, none⟩ 1 1 [.int .u8 (v : Int)] hx rfl (cell_one w _) (by simp [Value.oneCell']) (by decide) hb ?_
  intro gx cx w2 hgx hgr2 hown2 hold2
  rw [bys_add] at hown2
  have gA := grown_trans hG (World.grownBy_alloc w (.cells #[.int .u8 (v : Int)] 5) r)
  have hG2 := grown_mine gA hgr2 hM
  have hsz := gA.size
  refine hK gx cx w2 ⟨hown2, isB_append hA.byte (isB_single v hv), fun g h => ?_⟩ hG2 (fun g h => ?_) (fun g0 hg0 j hj => hold2 g0 (by rw [hg0]; rfl) j _ (nth_bys D j (by rw [hA.len]; exact hj)))
  · have e : gx = g := Option.some.inj h
    subst e
    rcases hgx with h | h
    · exact hA.new gx h
    · exact Nat.le_trans hlo (Nat.le_trans hsz h)
  · have e : gx = g := Option.some.inj h
    subst e
    rcases hgx with h | h
    · exact hM gx h
    · exact .inr (Nat.le_trans hsz h)
theorem rd_news {w : World} {b off n cap : Nat} {L : List Nat} (h : Rd w (some ⟨b, off, none⟩) n cap L) (h0 : 0 < n) : ∀ j u, (bys L)[j]? = some u → w.cell? ((⟨b, off, none⟩ : Addr).add j) = some u := by
  intro j u hu
  have hj : j < L.length := by have := (List.getElem?_eq_some_iff.1 hu).1; rw [bys_length] at this; exact this
  obtain ⟨b', off', e, _, hc⟩ := h.at' h0
  cases e
  rw [nth_bys L j hj] at hu
  rw [addr_add, ← hu]
  exact hc j (by rw [← h.len]; exact hj)
theorem bys_app (A B : List Nat) : bys A ++ bys B = bys (A ++ B) := by simp [bys]
/-- 'append(v, x...)', v an answer, x another -/
theorem wpList_join (w0 w : World) {ops : Array Oper} {rest : List Oper} {o : Oper} {a : Act} {Q : Exit → Act → World → Prop} (hg : o.guard = none) (s x : Operand)
    (hop : o.op = Op.call { callee := .builtin .append, args := #[s, x], argTypes := #[22, 22] }) (ao : Option Addr) (m co lo : Nat) (r : Option Nat) (D : List Nat) (hs : a.eval s = .slice ao m co)
    (hA : Ans w lo ao m co D) (hG : w0.grownBy w r) (hM : Mine w0 r ao m co) (hlo : lo ≤ w0.heap.size) (ax : Option Addr) (nx cx : Nat) (X : List Nat) (hx : a.eval x = .slice ax nx cx) (hR : Rd w ax nx cx X) (h0 : 0 < nx) (hb : m + nx ≤ 140737488355328)
    (hK : ∀ gx cx w', Ans w' lo (some ⟨gx, 0, none⟩) (m + nx) cx (D ++ X) → w0.grownBy w' r → Mine w0 r (some ⟨gx, 0, none⟩) (m + nx) cx → wpList Try.prog ops Q rest (a.put o.dst (.slice (some ⟨gx, 0, none⟩) (m + nx) cx)) w') :
    wpList Try.prog ops Q (o :: rest) a w := by
  obtain ⟨b, off, rfl, _, _⟩ := hR.at' h0
  refine wpList_apB _ hg s x hop (.slice ao m co) m (bys D) hs hA.own ⟨b, off, none⟩ nx cx (bys X) hx (by rw [bys_length, hR.len]) (rd_news hR h0) (bys_one _) h0 hb ?_
  intro gx cx' w2 hgx hgr2 hown2
  rw [bys_app] at hown2
  have hG2 := grown_mine hG hgr2 hM
  have hsz := hG.size
  refine hK gx cx' w2 ⟨hown2, isB_append hA.byte hR.byte, fun g h => ?_⟩ hG2 (fun g h => ?_)
  · have e : gx = g := Option.some.inj h
    subst e
    rcases hgx with h | h
    · exact hA.new gx h
    · exact Nat.le_trans hlo (Nat.le_trans hsz h)
  · have e : gx = g := Option.some.inj h
    subst e
    rcases hgx with h | h
    · exact hM gx h
    · exact .inr (Nat.le_trans hsz h)
end Go.Proofs.Ytlmddjkplnbadaa
