import Derived.Test.YtnnohgllnfmoeaaPBk1
import Derived.Deep.RegionLawGrows
import Derived.Test.YtnnohgllnfmoeaaPDec
namespace Go.Proofs.Ytnnohgllnfmoeaa
open Go.RowKit
set_option maxRecDepth 100000
set_option linter.unusedVariables false
set_option linter.unusedSimpArgs false

/-- which part of a unit the piece at a place is -/
def ptN (k pc : Nat) : Nat := if pc = 1 then 3 else if k = 0 then 1 else if k + 1 = pc then 2 else 0
theorem partAt_any (k pc : Nat) (w : World) (h0 : 1 ≤ pc) (h1 : pc ≤ 16384) (hk : k ≤ 16384) : Calls Try.prog 17 #[.int .i64 (k : Int), .int .i64 (pc : Int)] w fun e w' => e = .returned (.int .i64 (ptN k pc : Nat)) ∧ w' = w := by
  by_cases a1 : pc = 1
  · have e : ptN k pc = 3 := by unfold ptN; rw [if_pos a1]
    rw [e]; subst a1
    go_enter Try.func17, Try.ntmps17
    go_wp2
    go_ret
    exact ⟨rfl, rfl⟩
  have d1 : (((pc : Int) == 1) : Bool) = false := by simp; omega
  by_cases a2 : k = 0
  · have e : ptN k pc = 1 := by unfold ptN; rw [if_neg a1, if_pos a2]
    rw [e]; subst a2
    go_enter Try.func17, Try.ntmps17
    go_wp2
    go_ret
    exact ⟨rfl, rfl⟩
  have d2 : (((k : Int) == 0) : Bool) = false := by simp; omega
  by_cases a3 : k + 1 = pc
  · have e : ptN k pc = 2 := by unfold ptN; rw [if_neg a1, if_neg a2, if_pos a3]
    have d3 : (((k : Int) == (pc : Int) - 1) : Bool) = true := by simp; omega
    rw [e]
    clear a3
    go_enter Try.func17, Try.ntmps17
    go_wp2
    go_ret
    exact ⟨rfl, rfl⟩
  · have e : ptN k pc = 0 := by unfold ptN; rw [if_neg a1, if_neg a2, if_neg a3]
    have d3 : (((k : Int) == (pc : Int) - 1) : Bool) = false := by simp; omega
    rw [e]
    go_enter Try.func17, Try.ntmps17
    go_wp2
    go_ret
    exact ⟨rfl, rfl⟩
theorem countNext_any (ct q : Int) (hq : Hid (q = (ct + 1) % 16384)) (h0 : 0 ≤ ct) (h1 : ct ≤ 16383) (w : World) : Calls Try.prog 19 #[.int .i64 ct] w fun e w' => e = .returned (.int .i64 q) ∧ w' = w := by
  have ht : (ct + 1).tmod 16384 = q := by rw [Int.tmod_eq_emod_of_nonneg (by omega)]; exact hq.out.symm
  have hm : (ct + 1) % 16384 = q := hq.out.symm
  go_enter Try.func19, Try.ntmps19
  go_wp2
  go_ret
  exact ⟨rfl, rfl⟩

theorem step_apS (w : World) {ops : Array Oper} {o : Oper} {a : Act} {K : Act → World → Prop} {Q : Exit → Act → World → Prop} {E : Prop} (hg : o.guard = none) (s x : Operand) (t e : TypeId) (i0 : TypeInfo) (z : Value) (sz by' : Nat) (hu : Try.prog.underlying t = some (.slice e)) (hi : Try.prog.info? e = some i0) (hz0 : i0.zero = some z) (hz1 : i0.size = sz) (hz2 : i0.bytes = by') (hzs : z.cells.size = sz) (hsz : 0 < sz)
    (hop : o.op = Op.call { callee := .builtin .append, args := #[s, x], argTypes := #[t, t] }) (v : Value) (n : Nat) (xs : List Value) (hs : a.eval s = v)
    (hown : w.ownsRow 0 e sz v n xs) (ad : Addr) (m c : Nat) (news : List Value) (hx : a.eval x = .slice (some ad) m c) (hn : news.length = m * sz)
    (hc : ∀ j u, news[j]? = some u → w.cell? (ad.add j) = some u) (h1 : ∀ u, u ∈ news → u.oneCell' = true) (hm : 0 < m) (hb1 : n + m ≤ maxLen) (hb2 : (n + m) * by' ≤ 140737488355328)
    (hK : ∀ g cap w', (v.ownBlock = some g ∨ w.heap.size ≤ g) → w.grownBy w' v.ownBlock → w'.ownsRow 0 e sz (.slice (some ⟨g, 0, none⟩) (n + m) cap) (n + m) (xs ++ news) →
      K (a.put o.dst (.slice (some ⟨g, 0, none⟩) (n + m) cap)) w') :
    if Region.wanted o (yielded ops a.tmps) = true then Oper.wp Try.prog o a w K Q else E := by
  have grow : ∀ (ao : Option Addr) (cap : Nat), v = .slice ao n cap → (ao = none → n = 0 ∧ cap = 0) → (∀ b, ao = some b → ∀ j u, xs[j]? = some u → w.cell? (b.add j) = some u) → cap < n + m → if Region.wanted o (yielded ops a.tmps) = true then Oper.wp Try.prog o a w K Q else E := by
    intro ao cap hv hnone hcells hfull
    refine step_append_grows hg s x t hop e i0 z sz by' hu hi hz0 hz1 hz2 hzs hsz ao n cap xs (by rw [hs, hv]) hnone (by rw [hown.1]) hcells ad m c news hx hn hc h1 hfull hb1 hb2 ?_
    intro v' w' hown' hgr
    rcases hown'.2 with ⟨_, h0⟩ | ⟨g, cap', cur, rfl, hge, hrest⟩
    · omega
    · exact hK g cap' w' (.inr hge) (grown_weak hgr _) (own_baseG hown')
  rcases hown.2 with ⟨rfl, h0⟩ | ⟨g, cap, cur, rfl, hbase, hh, hle, hmax, hsz', htake⟩
  · subst h0
    exact grow none 0 rfl (fun _ => ⟨rfl, rfl⟩) (fun b hb => by cases hb) (by omega)
  · by_cases hroom : n + m ≤ cap
    · refine step_append_fits hg s x t hop 0 e i0 sz hu hi hz1 g n cap xs hs hown ad m c news hx hn hc h1 hroom ?_
      intro w' hown' hgr
      exact hK g cap w' (.inl rfl) hgr hown'
    · refine grow (some ⟨g, 0, none⟩) cap rfl (fun h => by cases h) ?_ (by omega)
      intro b hb j u hu
      cases hb
      exact hown.cells (g := g) rfl j u hu
/-- 'append(v, p)', in a region that draws -/
theorem step_psP (w : World) (lo : Nat) (p : Pk) {ops : Array Oper} {o : Oper} {a : Act} {K : Act → World → Prop} {Q : Exit → Act → World → Prop} {E : Prop} (hg : o.guard = none) (s x : Operand)
    (hop : o.op = Op.call { callee := .builtin .append, args := #[s, x], argTypes := #[24, 24] }) (ao : Option Addr) (m co : Nat) (ps : List Pk) (hs : a.eval s = .slice ao m co)
    (hA : OwP w lo ao m co ps) (hlo : lo ≤ w.heap.size) (hx : a.eval x = .slice (some ⟨w.heap.size, 0, none⟩) 1 1) (hb : m + 1 ≤ 1000000)
    (hK : ∀ gx cx w', OwP w' lo (some ⟨gx, 0, none⟩) (m + 1) cx (ps ++ [p]) → w.grownBy w' (Value.slice ao m co).ownBlock → ((Value.slice ao m co).ownBlock = some gx ∨ w.heap.size ≤ gx) → K (a.put o.dst (.slice (some ⟨gx, 0, none⟩) (m + 1) cx)) w') :
    if Region.wanted o (yielded ops a.tmps) = true then Oper.wp Try.prog o a (w.alloc (.cells p.cells.toArray 33)) K Q else E := by
  obtain ⟨i0, hi, hz0, hz1, hz2⟩ : ∃ i0, Try.prog.info? 33 = some i0 ∧ i0.zero = some (.agg #[.bool false, .bool false, .int .i64 0, .int .i64 0, .int .i64 0, .slice none 0 0]) ∧ i0.size = 6 ∧ i0.bytes = 56 := by
    have h := Try.info_pk3
    cases hh : Try.prog.info? 33 with
    | none => rw [hh] at h; simp at h
    | some i0 => rw [hh] at h; simp at h; exact ⟨i0, rfl, h.1, h.2.1, h.2.2⟩
  have gA := World.grownBy_alloc w (.cells p.cells.toArray 33) none
  refine step_apS _ hg s x 24 33 i0 _ 6 56 Try.underlying24 hi hz0 hz1 hz2 rfl (by decide) hop (.slice ao m co) m (flatP ps) hs (hA.own.alloc _) ⟨w.heap.size, 0, none⟩ 1 1 p.cells hx rfl (cells_six w p) (by simp [Pk.cells, Value.oneCell']) (by decide) (by unfold maxLen; omega) (by omega) ?_
  intro g cap w' hgx hgr hown
  rw [flatP_add] at hown
  have hor : (Value.slice ao m co).ownBlock = some g ∨ w.heap.size ≤ g := by
    rcases hgx with h | h
    · exact .inl h
    · simp at h; exact .inr (by omega)
  refine hK g cap w' ⟨hown, by rw [List.length_append, hA.len]; rfl, fun y hy => ?_⟩ (grown_trans (grown_weak gA _) hgr) hor
  have e : g = y := Option.some.inj hy
  subst e
  rcases hor with h | h
  · exact hA.new g h
  · omega

theorem BxS.cell1 {w : World} {g : Nat} {t : TypeId} {a : Value} (h : BxS w g t #[a]) : w.cell? ⟨g, 0, none⟩ = some a := h.cell 0 Nat.zero_lt_one
/-- blocks of different types are different -/
theorem BxS.apart {w : World} {g h : Nat} {t u : TypeId} {A B : Array Value} (x : BxS w g t A) (y : BxS w h u B) (hne : t ≠ u) : g ≠ h := by
  intro e
  subst e
  have : some (Obj.cells A t) = some (.cells B u) := (show w.heap[g]? = _ from x).symm.trans y
  injection this with this
  injection this with _ ht
  exact hne ht
theorem OwP.apart {w : World} {lo g n cap : Nat} {a : Option Addr} {ps : List Pk} {u : TypeId} {B : Array Value} (h : OwP w lo a n cap ps) (y : BxS w g u B) (hne : 33 ≠ u) : (Value.slice a n cap).ownBlock ≠ some g := by
  intro e
  rcases h.own.2 with ⟨h1, h2⟩ | ⟨q, c1, cur, h1, _, h3, _⟩
  · simp only [Value.slice.injEq] at h1
    obtain ⟨rfl, rfl, rfl⟩ := h1
    simp [Value.ownBlock] at e
  · simp only [Value.slice.injEq] at h1
    obtain ⟨rfl, _, _⟩ := h1
    have e' : q = g := Option.some.inj e
    subst e'
    exact BxS.apart (show BxS w q 33 cur from h3) y hne rfl
theorem Ans.apart {w : World} {lo g n cap : Nat} {a : Option Addr} {L : List Nat} {u : TypeId} {B : Array Value} (h : Ans w lo a n cap L) (y : BxS w g u B) (hne : 5 ≠ u) : (Value.slice a n cap).ownBlock ≠ some g := by
  intro e
  rcases h.own.2 with ⟨h1, h2⟩ | ⟨q, c1, cur, h1, _, h3, _⟩
  · simp only [Value.slice.injEq] at h1
    obtain ⟨rfl, rfl, rfl⟩ := h1
    simp [Value.ownBlock] at e
  · simp only [Value.slice.injEq] at h1
    obtain ⟨rfl, _, _⟩ := h1
    have e' : q = g := Option.some.inj e
    subst e'
    exact BxS.apart (show BxS w q 5 cur from h3) y hne rfl
/-- the five variables that 'put' works on -/
structure CuS (wb w : World) (go gp gu ga gc : Nat) (up : Bool) (ap : Int) (pc ct : Nat) (ao : Option Addr) (m co : Nat) (ps : List Pk) : Prop where
  out : BxS w go 24 #[.slice ao m co]
  pcs : BxS w gp 3 #[.int .i64 (pc : Int)]
  upb : BxS w gu 4 #[.bool up]
  apb : BxS w ga 3 #[.int .i64 ap]
  cnt : BxS w gc 3 #[.int .i64 (ct : Int)]
  own : OwP w wb.heap.size ao m co ps
  pne : gp ≠ gc
  ane : ga ≠ gc
  nout : wb.heap.size ≤ go
  ncnt : wb.heap.size ≤ gc
  data : ∀ i (h : i < ps.length), Ans w wb.heap.size ps[i].a ps[i].n ps[i].c ps[i].D
  apart : ∀ i j (hi : i < ps.length) (hj : j < ps.length), i < j → (Value.slice ps[i].a ps[i].n ps[i].c).ownBlock ≠ (Value.slice ps[j].a ps[j].n ps[j].c).ownBlock
  grown : wb.grownBy w none
end Go.Proofs.Ytnnohgllnfmoeaa
