import Derived.Test.YtnimehkfnpepfaaWh1
import Derived.Test.YtnimehkfnpepfaaWh3
import Derived.Test.YtnimehkfnpepfaaWh2
import Derived.Test.YtnimehkfnpepfaaWh0
import Derived.Deep.DeepAppendWide
import Derived.Test.YtnimehkfnpepfaaWh4
import Derived.Test.YtnimehkfnpepfaaProg
namespace Go.Proofs.Ytnimehkfnpepfaa
open Go.RowKit
set_option maxRecDepth 100000
set_option linter.unusedVariables false
set_option linter.unusedSimpArgs false

section
theorem Ans.wide {w : World} {lo lo' : Nat} {a : Option Addr} {n cap : Nat} {L : List Nat} (h : Ans w lo a n cap L) (hl : lo' ≤ lo) : Ans w lo' a n cap L := ⟨h.own, h.byte, fun g hg => Nat.le_trans hl (h.new g hg)⟩
end

section
theorem addr_add' (b off j : Nat) : (⟨b, off, none⟩ : Addr).add j = ⟨b, off + j, none⟩ := by unfold Addr.add; split <;> simp_all
theorem own_baseG {w : World} {base : Nat} {e : TypeId} {sz : Nat} {v : Value} {n : Nat} {xs : List Value} (h : w.ownsRow base e sz v n xs) : w.ownsRow 0 e sz v n xs := by
  refine ⟨h.1, ?_⟩
  rcases h.2 with h2 | ⟨g, cap, cur, h3, h4, h5⟩
  · exact .inl h2
  · exact .inr ⟨g, cap, cur, h3, Nat.zero_le _, h5⟩
/-- 'append(v, x...)', v the call's own, x not empty, whatever the elements are -/
theorem wpList_apS (w : World) {ops : Array Oper} {rest : List Oper} {o : Oper} {a : Act} {Q : Exit → Act → World → Prop} (hg : o.guard = none) (s x : Operand) (t e : TypeId) (i0 : TypeInfo) (z : Value) (sz by' : Nat) (hu : Try.prog.underlying t = some (.slice e)) (hi : Try.prog.info? e = some i0) (hz0 : i0.zero = some z) (hz1 : i0.size = sz) (hz2 : i0.bytes = by') (hzs : z.cells.size = sz) (hsz : 0 < sz)
    (hop : o.op = Op.call { callee := .builtin .append, args := #[s, x], argTypes := #[t, t] }) (v : Value) (n : Nat) (xs : List Value) (hs : a.eval s = v)
    (hown : w.ownsRow 0 e sz v n xs) (ad : Addr) (m c : Nat) (news : List Value) (hx : a.eval x = .slice (some ad) m c) (hn : news.length = m * sz)
    (hc : ∀ j u, news[j]? = some u → w.cell? (ad.add j) = some u) (h1 : ∀ u, u ∈ news → u.oneCell' = true) (hm : 0 < m) (hb1 : n + m ≤ maxLen) (hb2 : (n + m) * by' ≤ 140737488355328)
    (hK : ∀ g cap w', (v.ownBlock = some g ∨ w.heap.size ≤ g) → w.grownBy w' v.ownBlock → w'.ownsRow 0 e sz (.slice (some ⟨g, 0, none⟩) (n + m) cap) (n + m) (xs ++ news) →
      wpList Try.prog ops Q rest (a.put o.dst (.slice (some ⟨g, 0, none⟩) (n + m) cap)) w') :
    wpList Try.prog ops Q (o :: rest) a w := by
  have grow : ∀ (ao : Option Addr) (cap : Nat), v = .slice ao n cap → (ao = none → n = 0 ∧ cap = 0) → (∀ b, ao = some b → ∀ j u, xs[j]? = some u → w.cell? (b.add j) = some u) → cap < n + m → wpList Try.prog ops Q (o :: rest) a w := by
    intro ao cap hv hnone hcells hfull
    refine wpList_append_grows w hg s x t hop e i0 z sz by' hu hi hz0 hz1 hz2 hzs hsz ao n cap xs (by rw [hs, hv]) hnone (by rw [hown.1]) hcells ad m c news hx hn hc h1 hfull hb1 hb2 ?_
    intro v' w' hown' hgr
    rcases hown'.2 with ⟨_, h0⟩ | ⟨g, cap', cur, rfl, hge, hrest⟩
    · omega
    · exact hK g cap' w' (.inr hge) (grown_weak hgr _) (own_baseG hown')
  rcases hown.2 with ⟨rfl, h0⟩ | ⟨g, cap, cur, rfl, hbase, hh, hle, hmax, hsz', htake⟩
  · subst h0
    exact grow none 0 rfl (fun _ => ⟨rfl, rfl⟩) (fun b hb => by cases hb) (by omega)
  · by_cases hroom : n + m ≤ cap
    · refine wpList_append_fits w hg s x t hop 0 e i0 sz hu hi hz1 g n cap xs hs hown ad m c news hx hn hc h1 hroom ?_
      intro w' hown' hgr
      exact hK g cap w' (.inl rfl) hgr hown'
    · refine grow (some ⟨g, 0, none⟩) cap rfl (fun h => by cases h) ?_ (by omega)
      intro b hb j u hu
      cases hb
      exact hown.cells (g := g) rfl j u hu

def Rw.v (r : Rw) : Value := .slice r.a r.n r.c
def flatR (rs : List Rw) : List Value := rs.map Rw.v
def zr : Value := .slice none 0 0
theorem Try.info_rw : (Try.prog.info? 23).map (fun i => (i.zero, i.size, i.bytes)) = some (some zr, 1, 24) := by kernel_rfl
/-! packets one behind the other -/
theorem step_apS (w : World) {ops : Array Oper} {o : Oper} {a : Act} {K : Act → World → Prop} {Q : Exit → Act → World → Prop} {E : Prop} (hg : o.guard = none) (s x : Operand) (t e : TypeId) (i0 : TypeInfo) (z : Value) (sz by' : Nat) (hu : Try.prog.underlying t = some (.slice e)) (hi : Try.prog.info? e = some i0) (hz0 : i0.zero = some z) (hz1 : i0.size = sz) (hz2 : i0.bytes = by') (hzs : z.cells.size = sz) (hsz : 0 < sz)
    (hop : o.op = Op.call { callee := .builtin .append, args := #[s, x], argTypes := #[t, t] }) (v : Value) (n : Nat) (xs : List Value) (hs : a.eval s = v)
    (hown : w.ownsRow 0 e sz v n xs) (ad : Addr) (m c : Nat) (news : List Value) (hx : a.eval x = .slice (some ad) m c) (hn : news.length = m * sz)
    (hc : ∀ j u, news[j]? = some u → w.cell? (ad.add j) = some u) (h1 : ∀ u, u ∈ news → u.oneCell' = true) (hm : 0 < m) (hb1 : n + m ≤ maxLen) (hb2 : (n + m) * by' ≤ 140737488355328)
    (hK : ∀ g cap w', (v.ownBlock = some g ∨ w.heap.size ≤ g) → w.grownBy w' v.ownBlock → w'.ownsRow 0 e sz (.slice (some ⟨g, 0, none⟩) (n + m) cap) (n + m) (xs ++ news) →
      K (a.put o.dst (.slice (some ⟨g, 0, none⟩) (n + m) cap)) w') :
    if Region.wanted o (yielded ops a.tmps) = true then Oper.wp Try.prog o a w K Q else E := by
  have grow : ∀ (ao : Option Addr) (cap : Nat), v = .slice ao n cap → (ao = none → n = 0 ∧ cap = 0) → (∀ b, ao = some b → ∀ j u, xs[j]? = some u → w.cell? (b.add j) = some u) → cap < n + m → if Region.wanted o (yielded ops a.tmps) = true then Oper.wp Try.prog o a w K Q else E := by
    intro ao cap hv hnone hcells hfull
    refine step_append_grows hg s x t hop e i0 z sz by' hu hi hz0 hz1 hz2 hzs hsz ao n cap xs (by rw [hs, hv]) hnone (by rw [hown.1]) hcells ad m c news hx hn hc h1 hfull hb1 hb2 ?_
    intro v' w' hown' hgr
    rcases hown'.2 with ⟨_, h0⟩ | ⟨g, cap', cur, rfl, hge, hrest⟩
    · omega
    · exact hK g cap' w' (.inr hge) (grown_weak hgr _) (own_baseG hown')
  rcases hown.2 with ⟨rfl, h0⟩ | ⟨g, cap, cur, rfl, hbase, hh, hle, hmax, hsz', htake⟩
  · subst h0
    exact grow none 0 rfl (fun _ => ⟨rfl, rfl⟩) (fun b hb => by cases hb) (by omega)
  · by_cases hroom : n + m ≤ cap
    · refine step_append_fits hg s x t hop 0 e i0 sz hu hi hz1 g n cap xs hs hown ad m c news hx hn hc h1 hroom ?_
      intro w' hown' hgr
      exact hK g cap w' (.inl rfl) hgr hown'
    · refine grow (some ⟨g, 0, none⟩) cap rfl (fun h => by cases h) ?_ (by omega)
      intro b hb j u hu
      cases hb
      exact hown.cells (g := g) rfl j u hu
/-- blocks of different types are different -/
theorem BxS.apart {w : World} {g h : Nat} {t u : TypeId} {A B : Array Value} (x : BxS w g t A) (y : BxS w h u B) (hne : t ≠ u) : g ≠ h := by
  intro e
  subst e
  have : some (Obj.cells A t) = some (.cells B u) := (show w.heap[g]? = _ from x).symm.trans y
  injection this with this
  injection this with _ ht
  exact hne ht
end

section
/-- a whole value is stored into a box, in a region that draws -/
theorem step_stX (w : World) {ops : Array Oper} {o : Oper} {a : Act} {K : Act → World → Prop} {Q : Exit → Act → World → Prop} {E : Prop} (hg : o.guard = none) (t : TypeId) (p v : Operand) (hop : o.op = Op.store t p v)
    (g : Nat) (cs ds : Array Value) (hp : a.eval p = .pointer (some ⟨g, 0, none⟩)) (hv : a.eval v = .agg ds) (h : BxS w g t cs) (hi : (Try.prog.info? t).map (·.size) = some ds.size) (ho : cs.size = ds.size) (h1 : ds.all (·.oneCell') = true)
    (hK : ∀ w', BxS w' g t ds → w.grownBy w' (some g) → K (a.put o.dst undef) w') :
    if Region.wanted o (yielded ops a.tmps) = true then Oper.wp Try.prog o a w K Q else E := by
  have hw : Region.wanted o (yielded ops a.tmps) = true := by simp [Region.wanted, hg]
  rw [if_pos hw]
  have hst : (Instr.storeAt t (.pointer (some ⟨g, 0, none⟩)) (.agg ds)).run Try.prog w = .ok () (w.setRow g ds) := by
    simp only [Instr.storeAt, Instr.sureAddr, Sem.run_bind, Sem.run_pure, Result.andThen]
    exact run_storeVar_row w g t t cs ds h hi ho h1
  have hfin := hK _ (h.row ds) ⟨rfl, rfl, rfl, by simp, fun k _ hk => setRow_other w g k _ (fun e => hk (by rw [e]))⟩
  unfold Oper.wp
  simp [execOp, hop, hp, hv, hst, Result.andThen, Oper.upon]
  exact hfin
end

section
/-- what happens in a tick, as it lies in memory -/
structure Wv where
  d : Int
  u : Int
  p : Int
  l : Int
  c : Int
def Wv.cells (p : Wv) : List Value := [.int .i64 p.d, .int .i64 p.u, .int .i64 p.p, .int .i64 p.l, .int .i64 p.c]
def Wv.ok (p : Wv) : Prop := (-9223372036854775808 ≤ p.d ∧ p.d ≤ 9223372036854775807) ∧ (-9223372036854775808 ≤ p.u ∧ p.u ≤ 9223372036854775807) ∧ (-9223372036854775808 ≤ p.p ∧ p.p ≤ 9223372036854775807) ∧ (-9223372036854775808 ≤ p.l ∧ p.l ≤ 9223372036854775807) ∧ (-9223372036854775808 ≤ p.c ∧ p.c ≤ 9223372036854775807)
structure RdWv (w : World) (a : Option Addr) (n cap : Nat) (F : Nat → Wv) : Prop where
  le : n ≤ cap
  max : cap ≤ maxLen
  at' : 0 < n → ∃ b off, a = some ⟨b, off, none⟩ ∧ b < w.heap.size ∧ ∀ i, i < n → ∀ j, j < 5 → w.cell? ⟨b, off + (i * 5 + j), none⟩ = (F i).cells[j]?
  ok : ∀ i, i < n → (F i).ok
theorem RdWv.keep {w w' : World} {a : Option Addr} {n cap : Nat} {F : Nat → Wv} (h : RdWv w a n cap F) (hg : w.grownBy w' none) : RdWv w' a n cap F :=
  ⟨h.le, h.max, fun h0 => by
    obtain ⟨b, off, e, hb, hc⟩ := h.at' h0
    refine ⟨b, off, e, Nat.lt_of_lt_of_le hb hg.size, fun i hi j hj => ?_⟩
    rw [← hc i hi j hj]
    unfold World.cell?
    rw [hg.block b hb (by simp)], h.ok⟩
theorem met_way {w : World} {full : Bool} {n : Nat} {cs : List Value} (h : (Sh.fcons 1 (.int .i64) (.fcons 1 (.int .i64) (.fcons 1 (.int .i64) (.fcons 1 (.int .i64) (.fcons 1 (.int .i64) .fend))))).met w full cs n) : ∃ k : Wv, cs = k.cells ∧ k.ok := by
  obtain ⟨n0, m0, rfl, ⟨_, a, e0, k0⟩, n1, m1, rfl, ⟨_, b, e1, k1⟩, n2, m2, rfl, ⟨_, c, e2, k2⟩, n3, m3, rfl, ⟨_, d, e3, k3⟩, n4, m4, rfl, ⟨_, f, e4, k4⟩, e5, _⟩ := h
  refine ⟨⟨a, b, c, d, f⟩, ?_, bounds_i64 k0, bounds_i64 k1, bounds_i64 k2, bounds_i64 k3, bounds_i64 k4⟩
  unfold Wv.cells
  match cs with
  | [] => simp at e0
  | [_] => simp at e1
  | [_, _] => simp at e2
  | [_, _, _] => simp at e3
  | [_, _, _, _] => simp at e4
  | [x0, x1, x2, x3, x4] => simp_all
  | x0 :: x1 :: x2 :: x3 :: x4 :: x5 :: r => simp at e5
theorem shown_ways {w : World} {full : Bool} {N : Nat} {v : Value} (h : (Sh.slice 5 40 (Sh.fcons 1 (.int .i64) (.fcons 1 (.int .i64) (.fcons 1 (.int .i64) (.fcons 1 (.int .i64) (.fcons 1 (.int .i64) .fend)))))).shown w full v N) : ∃ a len cap K, v = .slice a len cap ∧ RdWv w a len cap K := by
  have h : (Sh.slice 5 40 (Sh.fcons 1 (.int .i64) (.fcons 1 (.int .i64) (.fcons 1 (.int .i64) (.fcons 1 (.int .i64) (.fcons 1 (.int .i64) .fend)))))).met w full [v] N := h
  rcases h with ⟨rfl, e⟩ | ⟨x, len, cap, G, C, e, e', hl, hm, hf, hc⟩
  · cases e
    exact ⟨none, 0, 0, fun _ => ⟨0, 0, 0, 0, 0⟩, rfl, ⟨Nat.le_refl _, Nat.zero_le _, (fun h => by omega), (fun i h => by omega)⟩⟩
  · cases e
    have each : ∀ i, i < cap → ∃ k : Wv, (∀ j, j < 5 → w.cell? (x.add (i * 5 + j)) = k.cells[j]?) ∧ k.ok := by
      intro i hi
      obtain ⟨h1, h2, h3⟩ := hc i hi
      obtain ⟨k, e, hk⟩ := met_way h3
      refine ⟨k, fun j hj => ?_, hk⟩
      rw [h2 j hj, e]
    have hI : Inhabited Wv := ⟨⟨0, 0, 0, 0, 0⟩⟩
    obtain ⟨K, hK⟩ := Go.Deep.choose_lt each
    refine ⟨some x, len, cap, K, rfl, ⟨hl, hm, fun h0 => ?_, fun i hi => (hK i (by omega)).2⟩⟩
    obtain ⟨b, off, spot⟩ := x
    have hc0 := (hK 0 (by omega)).1 0 (by decide)
    have h0' : w.cell? (⟨b, off, spot⟩ : Addr) = some (.int .i64 (K 0).d) := by simpa [Addr.add, Wv.cells] using hc0
    have hspot : spot = none := by simpa using World.cell?_spot h0'
    subst hspot
    refine ⟨b, off, rfl, World.block_lt_of_cell? w _ h0', fun i hi j hj => ?_⟩
    rw [← addr_add']
    exact (hK i (by omega)).1 j hj
end
end Go.Proofs.Ytnimehkfnpepfaa
