import Derived.Test.YtlmddjkplnbadaaXAG
import Derived.Deep.RegionLawGrows
import Derived.Test.YtlmddjkplnbadaaPFil
namespace Go.Proofs.Ytlmddjkplnbadaa
open Go.RowKit
set_option maxRecDepth 100000
set_option linter.unusedVariables false
set_option linter.unusedSimpArgs false

theorem flatR_len (rs : List Rw) : (flatR rs).length = rs.length := by simp [flatR]
theorem flatR_drop (rs : List Rw) (k : Nat) : (flatR rs).drop k = flatR (rs.drop k) := by simp [flatR, List.map_drop]
/-- rows of bytes in a row of the call's own, from some place of it on -/
structure RO (w : World) (lo : Nat) (a : Option Addr) (n c : Nat) (rs : List Rw) : Prop where
  len : rs.length = n
  max : n ≤ c ∧ c ≤ maxLen
  at' : (a = none ∧ n = 0 ∧ c = 0) ∨ ∃ g o cur, a = some ⟨g, o, none⟩ ∧ lo ≤ g ∧ w.heap[g]? = some (.cells cur 22 (0, 0)) ∧ o + c ≤ cur.size ∧ ∀ j u, (flatR rs)[j]? = some u → cur[o + j]? = some u
  each : ∀ r, r ∈ rs → Ans w lo r.a r.n r.c r.D
/-- the block that it lies in -/
def Hb (a : Option Addr) (i : Nat) : Prop := ∃ o s, a = some ⟨i, o, s⟩
theorem RO.of {w : World} {lo : Nat} {a : Option Addr} {n c : Nat} {rs : List Rw} (h : OwR w lo a n c rs) : RO w lo a n c rs := by
  refine ⟨h.len, ⟨h.rdr.le, h.rdr.max⟩, ?_, h.each⟩
  rcases h.own.2 with ⟨h1, h2⟩ | ⟨g, cap', cur, h1, _, h3, _, _, h6, h7⟩
  · simp only [Value.slice.injEq] at h1; exact .inl h1
  · simp only [Value.slice.injEq] at h1
    obtain ⟨rfl, _, rfl⟩ := h1
    refine .inr ⟨g, 0, cur, rfl, h.new g rfl, h3, by omega, fun j u hu => ?_⟩
    rw [Nat.zero_add]
    rw [← h7, List.getElem?_take] at hu
    split at hu
    · simpa using hu
    · cases hu
theorem RO.hlo {w : World} {lo : Nat} {a : Option Addr} {n c : Nat} {rs : List Rw} (h : RO w lo a n c rs) {y : Nat} (hy : Hb a y) : lo ≤ y ∧ y < w.heap.size ∧ ∃ cs, BxS w y 22 cs := by
  obtain ⟨oo, ss, e⟩ := hy
  rcases h.at' with ⟨rfl, _⟩ | ⟨g, o, cur, e', hl, hh, _⟩
  · cases e
  · rw [e'] at e
    cases e
    exact ⟨hl, (Array.getElem?_eq_some_iff.1 hh).1, cur, hh⟩
theorem RO.wide {w : World} {lo lo' : Nat} {a : Option Addr} {n c : Nat} {rs : List Rw} (h : RO w lo a n c rs) (hl : lo' ≤ lo) : RO w lo' a n c rs := by
  refine ⟨h.len, h.max, ?_, fun r hr => (h.each r hr).wide hl⟩
  rcases h.at' with h1 | ⟨g, o, cur, e, hlo, hh, hs, hc⟩
  · exact .inl h1
  · exact .inr ⟨g, o, cur, e, Nat.le_trans hl hlo, hh, hs, hc⟩
/-- it lies as it lay, whatever but bytes and its own row is written -/
theorem RO.kept {w w' : World} {lo : Nat} {a : Option Addr} {n c : Nat} {rs : List Rw} {r : Option Nat} (h : RO w lo a n c rs) (hg : w.grownBy w' r) (h1 : ∀ y, r = some y → ¬ Hb a y) (h2 : ∀ y, r = some y → ∃ t cs, BxS w y t cs ∧ 5 ≠ t) : RO w' lo a n c rs := by
  refine ⟨h.len, h.max, ?_, fun q hq => (h.each q hq).kept hg ?_⟩
  · rcases h.at' with h3 | ⟨g, o, cur, e, hlo, hh, hs, hc⟩
    · exact .inl h3
    · refine .inr ⟨g, o, cur, e, hlo, ?_, hs, hc⟩
      rw [hg.block g (Array.getElem?_eq_some_iff.1 hh).1 (fun e2 => h1 g e2.symm ⟨o, none, e⟩)]
      exact hh
  · cases e : (Value.slice q.a q.n q.c).ownBlock with
    | none => exact .inl rfl
    | some x =>
      refine .inr (fun e2 => ?_)
      obtain ⟨t, cs, hb, ht⟩ := h2 x e2.symm
      exact (h.each q hq).box hb ht e
theorem RO.keep {w w' : World} {lo : Nat} {a : Option Addr} {n c : Nat} {rs : List Rw} (h : RO w lo a n c rs) (hg : w.grownBy w' none) : RO w' lo a n c rs := h.kept hg (fun y e => by cases e) (fun y e => by cases e)
theorem RO.rdr {w : World} {lo : Nat} {a : Option Addr} {n c : Nat} {rs : List Rw} (h : RO w lo a n c rs) : RdR w a n c (fun i => rs.getD i kr0) := by
  have hl := h.len
  refine ⟨h.max.1, h.max.2, fun h0 => ?_, fun i hi => ?_⟩
  · rcases h.at' with h1 | ⟨g, o, cur, e, hlo, hh, hs, hc⟩
    · omega
    · refine ⟨g, o, e, (Array.getElem?_eq_some_iff.1 hh).1, fun i hi => ?_⟩
      rw [cell_of_row _ _ _ _ _ _ hh]
      refine hc i _ ?_
      simp only [flatR, List.getElem?_map]
      rw [List.getD_eq_getElem?_getD, List.getElem?_eq_getElem (by omega)]
      rfl
  · have hm : rs.getD i kr0 ∈ rs := by rw [List.getD_eq_getElem?_getD, List.getElem?_eq_getElem (by omega)]; exact List.getElem_mem _
    exact (h.each _ hm).rd
theorem RO.rd {w : World} {lo : Nat} {a : Option Addr} {n c : Nat} {rs : List Rw} {R : List (List Nat)} (h : RO w lo a n c rs) (hR : rs.map Rw.D = R) : RdW w a n c R := by
  refine ⟨by rw [← hR, List.length_map]; exact h.len, _, h.rdr, fun i hi => ?_⟩
  rw [← hR, getD_map_D rs i (by rw [h.len]; exact hi)]
/-- the first m are left out -/
theorem RO.tail {w : World} {lo g o n c : Nat} {rs : List Rw} (h : RO w lo (some ⟨g, o, none⟩) n c rs) (m : Nat) (hm : m ≤ n) : RO w lo (some ⟨g, o + m, none⟩) (n - m) (c - m) (rs.drop m) := by
  have hl := h.len
  have hx := h.max
  refine ⟨by rw [List.length_drop]; omega, ⟨by omega, by omega⟩, ?_, fun r hr => h.each r (List.mem_of_mem_drop hr)⟩
  rcases h.at' with ⟨e, _⟩ | ⟨g', o', cur, e, hlo, hh, hs, hc⟩
  · cases e
  · cases e
    refine .inr ⟨g, o + m, cur, rfl, hlo, hh, by omega, fun j u hu => ?_⟩
    rw [← flatR_drop, List.getElem?_drop] at hu
    rw [Nat.add_assoc]
    exact hc (m + j) u hu
theorem RO.tail0 {w : World} {lo g o n c : Nat} {rs : List Rw} (h : RO w lo (some ⟨g, o, none⟩) n c rs) (m : Nat) (hm : m ≤ n) (hc : c = m) : RO w lo (some ⟨g, o, none⟩) (n - m) 0 (rs.drop m) := by
  have hl := h.len
  have hx := h.max
  have e : rs.drop m = [] := List.drop_eq_nil_of_le (by omega)
  rw [e]
  refine ⟨by rw [show n - m = 0 by omega]; rfl, ⟨by omega, by omega⟩, ?_, fun r hr => by cases hr⟩
  rcases h.at' with ⟨e, _⟩ | ⟨g', o', cur, e, hlo, hh, hs, hcc⟩
  · cases e
  · cases e
    exact .inr ⟨g, o, cur, rfl, hlo, hh, by omega, fun j u hu => by simp [flatR] at hu⟩
theorem run_pushR (g o n cap b : Nat) (v v0 : Value) (w : World) (hv1 : v.oneCell' = true) (hb : w.cell? ⟨b, 0, none⟩ = some v) (hc : w.cell? ⟨g, o + n, none⟩ = some v0) (hf : w.frozen? ⟨g, o + n, none⟩ = false) (hfit : n + 1 ≤ cap) (ra : Option Addr) (rn rc : Nat) (hv : v = .slice ra rn rc) (ty : TypeId) :
    (Builtin.append_ #[81, 81] ty #[.slice (some ⟨g, o, none⟩) n cap, .slice (some ⟨b, 0, none⟩) 1 1]).run Try.prog w = .ok (.slice (some ⟨g, o, none⟩) (n + 1) cap) (w.setCell ⟨g, o + n, none⟩ v) := by
  subst hv
  have hb' : w.cell? ((⟨b, 0, none⟩ : Addr).add 0) = some (.slice ra rn rc) := by rw [addr_add]; exact hb
  have hst : (store ⟨g, o + n, none⟩ (.slice ra rn rc)).run Try.prog w = .ok () (w.setCell ⟨g, o + n, none⟩ (.slice ra rn rc)) := by
    simp [go_sem, hc, hf]
  go_simp
/-- 'append(v, r)', v in a row of the call's own, from some place of it on -/
theorem step_psRO (w : World) {ops : Array Oper} {o : Oper} {a : Act} {K : Act → World → Prop} {Q : Exit → Act → World → Prop} {E : Prop} (hg : o.guard = none) (s x : Operand)
    (hop : o.op = Op.call { callee := .builtin .append, args := #[s, x], argTypes := #[81, 81] }) (ao : Option Addr) (m co lo : Nat) (rs : List Rw) (hs : a.eval s = .slice ao m co)
    (hA : RO w lo ao m co rs) (hlo : lo ≤ w.heap.size) (r : Rw) (b : Nat) (hr : Ans w lo r.a r.n r.c r.D) (hbx : w.cell? ⟨b, 0, none⟩ = some r.v) (hx : a.eval x = .slice (some ⟨b, 0, none⟩) 1 1) (hb : m + 1 ≤ 1000)
    (hK : ∀ a' c' w' rr, RO w' lo a' (m + 1) c' (rs ++ [r]) → w.grownBy w' rr → (∀ y, rr = some y → Hb ao y) → (∀ y, Hb a' y → Hb ao y ∨ w.heap.size ≤ y) → K (a.put o.dst (.slice a' (m + 1) c')) w') :
    if Region.wanted o (yielded ops a.tmps) = true then Oper.wp Try.prog o a w K Q else E := by
  obtain ⟨i0, hi, hz0, hz1, hz2⟩ := info_parts Try.info_rw
  have hl := hA.len
  have efl : flatR (rs ++ [r]) = flatR rs ++ [r.v] := by simp [flatR]
  have hcb : ∀ j u, [r.v][j]? = some u → w.cell? ((⟨b, 0, none⟩ : Addr).add j) = some u := by
    intro j u hu
    cases j with
    | zero => rw [addr_add]; have hu : some r.v = some u := hu; rw [← hu]; exact hbx
    | succ j => simp at hu
  by_cases hfit : m + 1 ≤ co
  · rcases hA.at' with ⟨_, _, h0⟩ | ⟨g, of', cur, rfl, hgl, hh, hcs, hc⟩
    · omega
    · have hc0 : w.cell? ⟨g, of' + m, none⟩ = some cur[of' + m] := by
        rw [cell_of_row _ _ _ _ _ _ hh, Array.getElem?_eq_getElem (by omega)]
      have hf := frozen_of_row w g (of' + m) _ _ hh
      have hrun := fun ty => run_pushR g of' m co b r.v _ w rfl hbx hc0 hf hfit _ _ _ rfl ty
      have hset : (w.setCell ⟨g, of' + m, none⟩ r.v).heap[g]? = some (.cells (cur.setIfInBounds (of' + m) r.v) 22 (0, 0)) := heap_setCell_same _ g (of' + m) _ _ _ hh
      have hgs := grown_set w g (of' + m) r.v
      have hea : ∀ q lo', Ans w lo' q.a q.n q.c q.D → Ans (w.setCell ⟨g, of' + m, none⟩ r.v) lo' (Rw.a q) (Rw.n q) (Rw.c q) (Rw.D q) := fun q lo' hq => hq.kept hgs (by
        cases e : (Value.slice q.a q.n q.c).ownBlock with
        | none => exact .inl rfl
        | some x => exact .inr (fun e2 => by have e2 := Option.some.inj e2; subst e2; exact hq.box hh (by decide) e))
      have hw : Region.wanted o (yielded ops a.tmps) = true := by simp [Region.wanted, hg]
      rw [if_pos hw]
      unfold Oper.wp
      simp [execOp, hop, resolve, invoke, builtin, hs, hx, hrun, Result.andThen]
      refine hK _ _ _ (some g) ⟨by simp [hl], ⟨hfit, hA.max.2⟩, .inr ⟨g, of', _, rfl, hgl, hset, by simpa using hcs, ?_⟩, fun q hq => ?_⟩ hgs (fun y e => ⟨of', none, by have e : g = y := Option.some.inj e; rw [e]⟩) (fun y h => .inl h)
      · intro j u hu
        rw [efl] at hu
        by_cases hj : j < m
        · rw [List.getElem?_append_left (by rw [flatR_len]; omega)] at hu
          have := hc j u hu
          rw [Array.getElem?_setIfInBounds_ne (by omega)]
          exact this
        · have hj2 : j < m + 1 := by
            have := (List.getElem?_eq_some_iff.1 hu).1
            simp [flatR_len, hl] at this; omega
          obtain rfl : j = m := by omega
          rw [List.getElem?_append_right (by rw [flatR_len]; omega), flatR_len, hl, Nat.sub_self] at hu
          have hu : some r.v = some u := hu
          rw [← hu]
          exact Array.getElem?_setIfInBounds_self_of_lt (by omega)
      · rcases List.mem_append.1 hq with hq | hq
        · exact hea q lo (hA.each q hq)
        · have hq := List.mem_singleton.1 hq
          subst hq
          exact hea q lo hr
  · refine step_append_grows hg s x 81 hop 22 i0 Go.Proofs.Ytlmddjkplnbadaa.zr 1 24 Try.underlying81 hi hz0 hz1 hz2 rfl (by decide) ao m co (flatR rs) hs (fun e => ?_) (by rw [flatR_len]; omega) (fun b' e j u hu => ?_) ⟨b, 0, none⟩ 1 1 [r.v] hx rfl hcb (by intro u hu; have hu := List.mem_singleton.1 hu; subst hu; rfl) (by omega) (by unfold maxLen; omega) (by omega) ?_
    · rcases hA.at' with h1 | ⟨g, o', cur, e', _⟩
      · exact ⟨h1.2.1, h1.2.2⟩
      · rw [e] at e'; cases e'
    · rcases hA.at' with ⟨h1, _⟩ | ⟨g, o', cur, e', _, hh, _, hc⟩
      · rw [h1] at e; cases e
      · rw [e'] at e
        cases e
        rw [addr_add, cell_of_row _ _ _ _ _ _ hh]
        exact hc j u hu
    · intro v' w' hown hgr
      rcases hown.2 with ⟨_, h0⟩ | ⟨g, cap', cur, rfl, hge, hh, hle, hmx, hsz, htk⟩
      · omega
      · refine hK _ _ w' none ⟨by simp [hl], ⟨hle, hmx⟩, .inr ⟨g, 0, cur, rfl, Nat.le_trans hlo hge, hh, by omega, fun j u hu => ?_⟩, fun q hq => ?_⟩ hgr (fun y e => by cases e) (fun y h => ?_)
        · rw [Nat.zero_add]
          rw [efl, ← htk, List.getElem?_take] at hu
          split at hu
          · simpa using hu
          · cases hu
        · rcases List.mem_append.1 hq with hq | hq
          · exact (hA.each q hq).keep hgr
          · have hq := List.mem_singleton.1 hq
            subst hq
            exact hr.keep hgr
        · obtain ⟨oo, ss, e⟩ := h
          cases e
          exact .inr hge


theorem RO.nil (w : World) (lo : Nat) : RO w lo none 0 0 [] := RO.of (OwR.nil w lo)
theorem hb_none (y : Nat) : ¬ Hb none y := fun ⟨_, _, e⟩ => by cases e
/-- rows as in RO, no two of them in one block -/
structure OwO (w : World) (lo : Nat) (a : Option Addr) (n c : Nat) (rs : List Rw) : Prop where
  ro : RO w lo a n c rs
  apart : rs.Pairwise fun r s => ∀ g, r.v.ownBlock = some g → s.v.ownBlock ≠ some g
def Ofo (a : Option Addr) (rs : List Rw) (x : Nat) : Prop := Hb a x ∨ ∃ r, r ∈ rs ∧ r.v.ownBlock = some x
theorem ofo_of {w : World} {lo : Nat} {a : Option Addr} {n c : Nat} {rs : List Rw} (h : OwR w lo a n c rs) {x : Nat} (hx : Ofo a rs x) : Ofr (.slice a n c) rs x := by
  rcases hx with ⟨o, s, e⟩ | h2
  · refine .inl ?_
    rcases h.own.2 with ⟨h1, _⟩ | ⟨g, cap', cur, h1, _⟩
    · simp only [Value.slice.injEq] at h1; rw [h1.1] at e; cases e
    · simp only [Value.slice.injEq] at h1; rw [h1.1] at e; cases e; rw [h1.1]; rfl
  · exact .inr h2
theorem OwR.wk {w : World} {lo : Nat} {a : Option Addr} {n c : Nat} {rs : List Rw} (h : OwR w lo a n c rs) : OwO w lo a n c rs := ⟨RO.of h, h.apart⟩
theorem OwO.nil (w : World) (lo : Nat) : OwO w lo none 0 0 [] := (OwR.nil w lo).wk
theorem OwO.lh {w : World} {lo : Nat} {a : Option Addr} {n c : Nat} {rs : List Rw} (h : OwO w lo a n c rs) {x : Nat} (hx : Ofo a rs x) : x < w.heap.size ∧ lo ≤ x := by
  rcases hx with hx | ⟨r, hr, hx⟩
  · have := h.ro.hlo hx; exact ⟨this.2.1, this.1⟩
  · exact ⟨(h.ro.each r hr).ltB hx, (h.ro.each r hr).new x hx⟩
theorem OwO.box {w : World} {lo n c g : Nat} {a : Option Addr} {rs : List Rw} {t : TypeId} {cs : Array Value} (h : OwO w lo a n c rs) (b : BxS w g t cs) (h1 : 22 ≠ t) (h2 : 5 ≠ t) {x : Nat} (hx : Ofo a rs x) : ¬ x = g := by
  intro e
  subst e
  rcases hx with hx | ⟨r, hr, hx⟩
  · obtain ⟨_, _, cs', hb⟩ := h.ro.hlo hx
    exact BxS.apart hb b h1 rfl
  · exact (h.ro.each r hr).apart b h2 hx
theorem OwO.fz {w w' : World} {p : Nat → Prop} {lo n c : Nat} {a : Option Addr} {rs : List Rw} (h : OwO w lo a n c rs) (hF : Fz p w w') (hn : ∀ x, Ofo a rs x → ¬ p x) : OwO w' lo a n c rs := by
  refine ⟨⟨h.ro.len, h.ro.max, ?_, fun r hr => (h.ro.each r hr).fz hF (fun x e => hn x (.inr ⟨r, hr, e⟩))⟩, h.apart⟩
  rcases h.ro.at' with h1 | ⟨g, o, cur, e, hlo, hh, hs, hc⟩
  · exact .inl h1
  · refine .inr ⟨g, o, cur, e, hlo, ?_, hs, hc⟩
    rw [hF.block g (Array.getElem?_eq_some_iff.1 hh).1 (hn g (.inl ⟨o, none, e⟩))]
    exact hh
theorem OwO.keep {w w' : World} {lo n c : Nat} {a : Option Addr} {rs : List Rw} (h : OwO w lo a n c rs) (hg : w.grownBy w' none) : OwO w' lo a n c rs := ⟨h.ro.keep hg, h.apart⟩
theorem OwO.wide {w : World} {lo lo' n c : Nat} {a : Option Addr} {rs : List Rw} (h : OwO w lo a n c rs) (hl : lo' ≤ lo) : OwO w lo' a n c rs := ⟨h.ro.wide hl, h.apart⟩
/-- queues whose rows may begin behind their row's head -/
structure WkQ (w : World) (lo : Nat) (a : Option Addr) (n c : Nat) (qs : List Qw) : Prop where
  own : w.ownsRow 0 83 3 (.slice a n c) n (flQ qs)
  len : qs.length = n
  new : ∀ g, (Value.slice a n c).ownBlock = some g → lo ≤ g
  each : ∀ q, q ∈ qs → OwO w lo q.a q.n q.c q.rs
  apart : qs.Pairwise fun q r => ∀ x, Ofo q.a q.rs x → ¬ Ofo r.a r.rs x
def Wbl (v : Value) (qs : List Qw) (x : Nat) : Prop := v.ownBlock = some x ∨ ∃ q, q ∈ qs ∧ Ofo q.a q.rs x
theorem OwQ.wk {w : World} {lo : Nat} {a : Option Addr} {n c : Nat} {qs : List Qw} (h : OwQ w lo a n c qs) : WkQ w lo a n c qs := by
  refine ⟨h.own, h.len, h.new, fun q hq => (h.each q hq).wk, ?_⟩
  refine List.pairwise_iff_getElem.2 (fun i j hi hj hij x h1 h2 => ?_)
  exact List.pairwise_iff_getElem.1 h.apart i j hi hj hij x (ofo_of (h.each _ (List.getElem_mem hi)) h1) (ofo_of (h.each _ (List.getElem_mem hj)) h2)
theorem wbl_of {w : World} {lo : Nat} {a : Option Addr} {n c : Nat} {qs : List Qw} (h : OwQ w lo a n c qs) {x : Nat} (hx : Wbl (.slice a n c) qs x) : Qbl (.slice a n c) qs x := by
  rcases hx with hx | ⟨q, hq, hx⟩
  · exact .inl hx
  · exact .inr ⟨q, hq, ofo_of (h.each q hq) hx⟩
theorem WkQ.someQ {w : World} {lo : Nat} {a : Option Addr} {n c : Nat} {qs : List Qw} (h : WkQ w lo a n c qs) (h0 : 0 < n) : ∃ g, a = some ⟨g, 0, none⟩ := by
  rcases h.own.2 with ⟨h1, h2⟩ | ⟨g, cap', cur, h1, _⟩
  · omega
  · simp only [Value.slice.injEq] at h1; exact ⟨g, h1.1⟩
theorem WkQ.max {w : World} {lo : Nat} {a : Option Addr} {n c : Nat} {qs : List Qw} (h : WkQ w lo a n c qs) : n ≤ c ∧ c ≤ maxLen := by
  rcases h.own.2 with ⟨h1, h2⟩ | ⟨g, cap', cur, h1, _, h3, h4, h5, _⟩
  · simp only [Value.slice.injEq] at h1; obtain ⟨_, h6, h7⟩ := h1; subst h6; subst h7; exact ⟨Nat.le_refl _, Nat.zero_le _⟩
  · simp only [Value.slice.injEq] at h1; obtain ⟨_, _, h7⟩ := h1; subst h7; exact ⟨h4, h5⟩
theorem WkQ.cell {w : World} {lo g n c : Nat} {qs : List Qw} (h : WkQ w lo (some ⟨g, 0, none⟩) n c qs) {i : Nat} {q : Qw} (hi : qs[i]? = some q) :
    w.cell? ⟨g, i * 3, none⟩ = some (.int .i64 q.ow) ∧ w.cell? ⟨g, i * 3 + 1, none⟩ = some (.slice q.a q.n q.c) ∧ w.cell? ⟨g, i * 3 + 2, none⟩ = some (.int .i64 q.go) := by
  have hc : ∀ j, j < 3 → ∀ u, q.cells[j]? = some u → w.cell? ⟨g, i * 3 + j, none⟩ = some u := fun j hj u hu => by
    have hf := flQ_at qs i q hi j hj
    rw [hu] at hf
    have := h.own.cells (g := g) rfl (i * 3 + j) u hf
    rw [addr_add', Nat.zero_add] at this
    exact this
  exact ⟨hc 0 (by decide) _ rfl, hc 1 (by decide) _ rfl, hc 2 (by decide) _ rfl⟩
theorem WkQ.keep {w w' : World} {lo : Nat} {a : Option Addr} {n c : Nat} {qs : List Qw} (h : WkQ w lo a n c qs) (hg : w.grownBy w' none) : WkQ w' lo a n c qs :=
  ⟨h.own.kept hg (by cases (Value.slice a n c).ownBlock <;> simp), h.len, h.new, fun k hk => (h.each k hk).keep hg, h.apart⟩
theorem WkQ.wide {w : World} {lo lo' : Nat} {a : Option Addr} {n c : Nat} {qs : List Qw} (h : WkQ w lo a n c qs) (hl : lo' ≤ lo) : WkQ w lo' a n c qs :=
  ⟨h.own, h.len, fun g hg => Nat.le_trans hl (h.new g hg), fun k hk => (h.each k hk).wide hl, h.apart⟩
theorem WkQ.hi {w : World} {lo : Nat} {a : Option Addr} {n c : Nat} {qs : List Qw} (h : WkQ w lo a n c qs) {x : Nat} (hx : Wbl (.slice a n c) qs x) : x < w.heap.size ∧ lo ≤ x := by
  rcases hx with hx | ⟨k, hk, hx⟩
  · refine ⟨?_, h.new x hx⟩
    rcases h.own.2 with ⟨h1, _⟩ | ⟨g, cap', cur, h1, _, h3, _⟩
    · rw [h1] at hx; simp [Value.ownBlock] at hx
    · rw [h1] at hx
      have hx : g = x := Option.some.inj hx
      subst hx
      exact (Array.getElem?_eq_some_iff.1 h3).1
  · exact (h.each k hk).lh hx
theorem WkQ.fz {w w' : World} {p : Nat → Prop} {lo : Nat} {a : Option Addr} {n c : Nat} {qs : List Qw} (h : WkQ w lo a n c qs) (hF : Fz p w w') (hn : ∀ x, Wbl (.slice a n c) qs x → ¬ p x) : WkQ w' lo a n c qs := by
  refine ⟨⟨h.own.1, ?_⟩, h.len, h.new, fun k hk => (h.each k hk).fz hF (fun x e => hn x (.inr ⟨k, hk, e⟩)), h.apart⟩
  rcases h.own.2 with h1 | ⟨g, cap', cur, h1, h2, h3, h4⟩
  · exact .inl h1
  · refine .inr ⟨g, cap', cur, h1, h2, ?_, h4⟩
    rw [hF.block g (Array.getElem?_eq_some_iff.1 h3).1 (hn g (.inl (by rw [h1]; rfl)))]
    exact h3
theorem WkQ.far {w w' : World} {lo x : Nat} {a : Option Addr} {n c : Nat} {qs : List Qw} (h : WkQ w lo a n c qs) (hg : w.grownBy w' (some x)) (hx : x < lo) : WkQ w' lo a n c qs :=
  h.fz (Fz.of1 hg) (fun y hy e => by have := (h.hi hy).2; have e : y = x := e; omega)
theorem WkQ.box {w : World} {lo n c g : Nat} {a : Option Addr} {qs : List Qw} {t : TypeId} {cs : Array Value} (h : WkQ w lo a n c qs) (b : BxS w g t cs) (h0 : 83 ≠ t) (h1 : 22 ≠ t) (h2 : 5 ≠ t) : ¬ Wbl (.slice a n c) qs g := by
  rintro (e | ⟨q, hq, e⟩)
  · rcases h.own.2 with ⟨h1, _⟩ | ⟨x, cap, cur, h1, _, hh, _⟩
    · rw [h1] at e; simp [Value.ownBlock] at e
    · rw [h1] at e
      have e : x = g := Option.some.inj e
      subst e
      unfold BxS at b
      rw [hh] at b
      injection b with b
      injection b with _ b _
      exact h0 b
  · exact (h.each q hq).box b h1 h2 e rfl
theorem WkQ.row_ne {w : World} {lo lo' g n c : Nat} {qs : List Qw} (h : WkQ w lo (some ⟨g, 0, none⟩) n c qs) {a : Option Addr} {m k : Nat} {rs : List Rw} (hr : OwO w lo' a m k rs) {x : Nat} (hx : Ofo a rs x) : x ≠ g := by
  rcases h.own.2 with ⟨h1, _⟩ | ⟨y, cap', cur, h1, _, hh, _⟩
  · simp at h1
  · simp only [Value.slice.injEq, Option.some.injEq, Addr.mk.injEq] at h1
    obtain ⟨⟨rfl, _⟩, _, rfl⟩ := h1
    exact hr.box hh (by decide) (by decide) hx
theorem WkQ.sep {w : World} {lo : Nat} {a : Option Addr} {n c : Nat} {qs : List Qw} (h : WkQ w lo a n c qs) {i j : Nat} (hij : i ≠ j) {r q : Qw} (hr : qs[i]? = some r) (hq : qs[j]? = some q) : ∀ x, Ofo r.a r.rs x → ¬ Ofo q.a q.rs x := by
  have hpw := List.pairwise_iff_getElem.1 h.apart
  obtain ⟨hi, rfl⟩ := List.getElem?_eq_some_iff.1 hr
  obtain ⟨hj, rfl⟩ := List.getElem?_eq_some_iff.1 hq
  intro x h1 h2
  rcases Nat.lt_or_ge i j with hl | hl
  · exact hpw i j hi hj hl x h1 h2
  · exact hpw j i hj hi (by omega) x h2 h1
structure WkS (w : World) (lo : Nat) (a : Option Addr) (n c : Nat) (qs : List Qw) (Qs : List Qd) : Prop where
  o : WkQ w lo a n c qs
  d : qs.map Qw.d = Qs
theorem OwS.wk {w : World} {lo : Nat} {a : Option Addr} {n c : Nat} {qs : List Qw} {Qs : List Qd} (h : OwS w lo a n c qs Qs) : WkS w lo a n c qs Qs := ⟨h.o.wk, h.d⟩
theorem WkS.keep {w w' : World} {lo : Nat} {a : Option Addr} {n c : Nat} {qs : List Qw} {Qs : List Qd} (h : WkS w lo a n c qs Qs) (hg : w.grownBy w' none) : WkS w' lo a n c qs Qs := ⟨h.o.keep hg, h.d⟩
theorem WkS.wide {w : World} {lo lo' : Nat} {a : Option Addr} {n c : Nat} {qs : List Qw} {Qs : List Qd} (h : WkS w lo a n c qs Qs) (hl : lo' ≤ lo) : WkS w lo' a n c qs Qs := ⟨h.o.wide hl, h.d⟩
theorem WkS.fz {w w' : World} {p : Nat → Prop} {lo : Nat} {a : Option Addr} {n c : Nat} {qs : List Qw} {Qs : List Qd} (h : WkS w lo a n c qs Qs) (hF : Fz p w w') (hn : ∀ x, Wbl (.slice a n c) qs x → ¬ p x) : WkS w' lo a n c qs Qs := ⟨h.o.fz hF hn, h.d⟩
theorem WkS.far {w w' : World} {lo x : Nat} {a : Option Addr} {n c : Nat} {qs : List Qw} {Qs : List Qd} (h : WkS w lo a n c qs Qs) (hg : w.grownBy w' (some x)) (hx : x < lo) : WkS w' lo a n c qs Qs := ⟨h.o.far hg hx, h.d⟩
theorem WkS.len {w : World} {lo : Nat} {a : Option Addr} {n c : Nat} {qs : List Qw} {Qs : List Qd} (h : WkS w lo a n c qs Qs) : Qs.length = n := by rw [← h.d, List.length_map]; exact h.o.len
theorem WkS.rd {w : World} {lo : Nat} {a : Option Addr} {n c : Nat} {qs : List Qw} {Qs : List Qd} (h : WkS w lo a n c qs Qs) : RdS w a n c Qs := by
  have hl := h.o.len
  have hm := h.o.max
  refine ⟨h.len, fun i => (qs.getD i qw0).u, ⟨hm.1, hm.2, fun h0 => ?_, fun i hi => ?_⟩, fun i hi => ?_⟩
  · obtain ⟨g, rfl⟩ := h.o.someQ h0
    have hb := (h.o.hi (x := g) (.inl rfl)).1
    refine ⟨g, 0, rfl, hb, fun i hi => ?_⟩
    have e : qs[i]? = some (qs.getD i qw0) := by rw [List.getD_eq_getElem?_getD, List.getElem?_eq_getElem (by omega)]; rfl
    have := h.o.cell e
    rw [Nat.zero_add]
    exact this
  · have hm : qs.getD i qw0 ∈ qs := by rw [List.getD_eq_getElem?_getD, List.getElem?_eq_getElem (by omega)]; exact List.getElem_mem _
    exact (h.o.each _ hm).ro.rdr
  · have hg : qs.getD i qw0 = qs[i]'(by omega) := by rw [List.getD_eq_getElem?_getD, List.getElem?_eq_getElem (by omega)]; rfl
    have e : Qs.getD i qd0 = (qs[i]'(by omega)).d := by rw [← h.d, List.getD_eq_getElem?_getD, List.getElem?_map, List.getElem?_eq_getElem (by omega)]; rfl
    dsimp only
    rw [e, hg]
    have hO := h.o.each (qs[i]'(by omega)) (List.getElem_mem _)
    refine ⟨rfl, rfl, ?_, fun j hj => ?_⟩
    · show (qs[i]'(by omega)).n = ((qs[i]'(by omega)).rs.map Rw.D).length
      rw [List.length_map]; exact hO.ro.len.symm
    · show ((qs[i]'(by omega)).rs.getD j kr0).D = ((qs[i]'(by omega)).rs.map Rw.D).getD j []
      rw [getD_map_D _ j (by rw [hO.ro.len]; exact hj)]
theorem WkS.offB {w w' : World} {lo lo' : Nat} {a ya : Option Addr} {n c yn yc : Nat} {qs : List Qw} {Qs : List Qd} {Y : List Nat} (h : WkS w lo a n c qs Qs) (hX : Ans w lo' ya yn yc Y) (hne : ∀ x, Wbl (.slice a n c) qs x → (Value.slice ya yn yc).ownBlock ≠ some x) (g : w.grownBy w' (Value.slice ya yn yc).ownBlock) : WkS w' lo a n c qs Qs :=
  h.fz (Fz.ofO g) (fun x hx e => hne x hx e)
theorem WkS.nil (w : World) (lo : Nat) : WkS w lo none 0 0 [] [] := (OwS.nil w lo).wk

set_option maxHeartbeats 32000000 in
theorem ow_t4 {u0 u3 u4 u5 u6 u7 u8 u9 u10 u11 u12 u13 u14 u15 u16 u17 u18 u19 u20 u21 u22 u23 u24 u25 u26 u27 u28 u29 u30 u31 u32 u33 u34 u35 u36 u37 u38 u39 u40 u41 u42 u43 u44 u45 : Value} (Q : Exit → Act → World → Prop) (w : World) (cr sz ma tu : Int) (g1 gr lo i n c : Nat) (qs : List Qw) (q : Qw) (b1 : BxS w g1 38 #[.int .i64 cr, .int .i64 sz, .int .i64 ma, .int .i64 tu, .slice (some ⟨gr, 0, none⟩) n c]) (hrow : w.ownsRow 0 83 3 (.slice (some ⟨gr, 0, none⟩) n c) n (flQ qs)) (hl : qs.length = n) (hi : qs[i]? = some q) (hq : OwO w lo q.a q.n q.c q.rs) (hF : ∀ r, r ∈ q.rs → r.n ≤ 140737488351240) (hqn : q.n ≤ 140737488351232) (hnn : n ≤ 140737488351232)
    (hQ : ∀ (z3 z9 z10 z11 z12 z13 z14 z15 z16 z17 z18 z19 z20 z21 z22 z23 z24 z25 z26 z27 z28 z29 z30 z31 z32 z33 z34 z35 z36 z37 z38 z39 z40 z41 z42 z43 z44 z45 : Value) (w' : World), w'.ownsRow 0 83 3 (.slice (some ⟨gr, 0, none⟩) n c) n (flQ (qs.set i qw7)) → Fz (fun x => Ofo q.a q.rs x ∨ x = gr) w w' → Q .normal (Act.mk (List.toArray (u0 :: (.pointer (some ⟨g1, 0, none⟩)) :: (.int .i64 ((i : Int) + 1)) :: z3 :: u4 :: u5 :: u6 :: u7 :: u8 :: z9 :: z10 :: z11 :: z12 :: z13 :: z14 :: z15 :: z16 :: z17 :: z18 :: z19 :: z20 :: z21 :: z22 :: z23 :: z24 :: z25 :: z26 :: z27 :: z28 :: z29 :: z30 :: z31 :: z32 :: z33 :: z34 :: z35 :: z36 :: z37 :: z38 :: z39 :: z40 :: z41 :: z42 :: z43 :: z44 :: z45 :: [])) []) w') :
    Code.wp Try.prog (tailR 4 (Try.f59.body.getD .skip)) Q (Act.mk (List.toArray (u0 :: (.pointer (some ⟨g1, 0, none⟩)) :: (.int .i64 (i : Int)) :: u3 :: u4 :: u5 :: u6 :: u7 :: u8 :: u9 :: u10 :: u11 :: u12 :: u13 :: u14 :: u15 :: u16 :: u17 :: u18 :: u19 :: u20 :: u21 :: u22 :: u23 :: u24 :: u25 :: u26 :: u27 :: u28 :: u29 :: u30 :: u31 :: u32 :: u33 :: u34 :: u35 :: u36 :: u37 :: u38 :: u39 :: u40 :: u41 :: u42 :: u43 :: u44 :: u45 :: [])) []) w := by
  let pq : Exit → Act → World → Prop := bodyPost Try.prog Try.f59 (fun _ _ => True)
  conv => enter [2]; whnf
  have HQ : Hid _ := hQ
  clear hQ
  have hin : i < n := by have := (List.getElem?_eq_some_iff.1 hi).1; omega
  have hin' : (i : Int) < (n : Int) := by omega
  have hcell : ∀ wz : World, wz.ownsRow 0 83 3 (.slice (some ⟨gr, 0, none⟩) n c) n (flQ qs) → wz.cell? ⟨gr, i * 3 + 1, none⟩ = some (.slice q.a q.n q.c) := fun wz hz => by
    have := hz.cells (g := gr) rfl (i * 3 + 1) _ (by rw [flQ_at qs i q hi 1 (by decide)]; rfl)
    rwa [addr_add', Nat.zero_add] at this
  obtain ⟨csr, hbr⟩ : ∃ cs, BxS w gr 83 cs := by
    rcases hrow.2 with ⟨h1, _⟩ | ⟨y, cap', cur, h1, _, hh, _⟩
    · simp at h1
    · simp only [Value.slice.injEq, Option.some.injEq, Addr.mk.injEq] at h1
      obtain ⟨⟨rfl, _⟩, _, rfl⟩ := h1
      exact ⟨_, hh⟩
  have hgq : ∀ x, Ofo q.a q.rs x → x ≠ gr := fun x hx => hq.box hbr (by decide) (by decide) hx
  have hg1 : ∀ x, Ofo q.a q.rs x → x ≠ g1 := fun x hx => hq.box b1 (by decide) (by decide) hx
  have hln := hq.ro.len
  have hmx := hq.ro.max
  unfold maxLen at hmx
  have hgrlt := hbr.lt
  have hne1 : g1 ≠ gr := BxS.apart b1 hbr (by decide)
  clear hbr
  obtain ⟨gp, of', cur0, hgp⟩ : ∃ gp of' cur0, 0 < q.n → (q.a = some ⟨gp, of', none⟩ ∧ BxS w gp 22 cur0 ∧ of' + q.c ≤ cur0.size ∧ ∀ k r, q.rs[k]? = some r → cur0[of' + k]? = some r.v) := by
    rcases hq.ro.at' with ⟨_, h0, _⟩ | ⟨g, o, cur, e, _, hh, hs, hc⟩
    · exact ⟨0, 0, #[], fun h => absurd h (by omega)⟩
    · exact ⟨g, o, cur, fun _ => ⟨e, hh, hs, fun k r hr => hc k r.v (by unfold flatR; rw [List.getElem?_map, hr]; rfl)⟩⟩
  refine wp_seq_k fun K1 hK1 => ?_
  have HK1 : Hid _ := hK1
  clear hK1
  refine wp_block ?_
  refine wp_seq_k fun K2 hK2 => ?_
  have HK2 : Hid _ := hK2
  clear hK2
  go_wp2
  go_loopw [3] (fun kv wr => ∃ (k : Nat) (cur : Array Value), kv = .int .i64 k ∧ k ≤ q.n ∧ (0 < q.n → BxS wr gp 22 cur ∧ of' + q.c ≤ cur.size ∧ ∀ k' r, k ≤ k' → q.rs[k']? = some r → cur[of' + k']? = some r.v) ∧ (∀ k' r, k ≤ k' → q.rs[k']? = some r → Ans wr lo r.a r.n r.c r.D) ∧ Fz (fun x => Ofo q.a q.rs x) w wr) (fun kv _ => q.n - (intOf kv).toNat)
  case atStart => exact ⟨0, cur0, by go_num, Nat.zero_le _, (fun h0 => ⟨(hgp h0).2.1, (hgp h0).2.2.1, fun k' r _ hr => (hgp h0).2.2.2 k' r hr⟩), (fun k' r _ hr => hq.ro.each r (List.mem_of_getElem? hr)), Fz.refl _ _⟩
  case round =>
    obtain ⟨k, cur, rfl, hk, hy, hA, hFz⟩ := hrel
    have b1r := b1.fz hFz (fun h => hg1 g1 h rfl)
    have hrowr : wr.ownsRow 0 83 3 (.slice (some ⟨gr, 0, none⟩) n c) n (flQ qs) := by
      refine ⟨hrow.1, ?_⟩
      rcases hrow.2 with h1 | ⟨g, cap', cur, h1, h2, h3, h4⟩
      · exact .inl h1
      · refine .inr ⟨g, cap', cur, h1, h2, ?_, h4⟩
        have e : g = gr := by simp only [Value.slice.injEq, Option.some.injEq, Addr.mk.injEq] at h1; exact h1.1.1.symm
        subst e
        rw [hFz.block g (Array.getElem?_eq_some_iff.1 h3).1 (fun h => hgq g h rfl)]
        exact h3
    have cq := hcell wr hrowr
    obtain ⟨x0, x1, x2, x3, x4⟩ := BxS.cell5 b1r
    have HA : Hid _ := hA
    clear hA
    by_cases hkl : k < q.n
    · have hkl' : (k : Int) < (q.n : Int) := by omega
      obtain ⟨hga, _, _, _⟩ := hgp (by omega)
      obtain ⟨by', hsz, hcu⟩ := hy (by omega)
      obtain ⟨r, hr⟩ : ∃ r, q.rs[k]? = some r := ⟨_, List.getElem?_eq_getElem (by omega)⟩
      have hmem := List.mem_of_getElem? hr
      have hAr := HA.out k r (Nat.le_refl _) hr
      have hgpO : Ofo q.a q.rs gp := .inl ⟨of', none, hga⟩
      have HCU : Hid _ := hcu
      have hck := hcu k r (Nat.le_refl _) hr
      clear hcu hy
      rw [hga] at cq
      have hkc : of' + k < cur.size := by omega
      have cy : wr.cell? ⟨gp, of' + k, none⟩ = some (.slice r.a r.n r.c) := by rw [cell_of_row _ _ _ _ _ _ by']; exact hck
      have hrO : ∀ x, (Value.slice r.a r.n r.c).ownBlock = some x → Ofo q.a q.rs x := fun x e => .inr ⟨r, hmem, e⟩
      have hap : ∀ y, (Value.slice r.a r.n r.c).ownBlock = some y → gp ≠ y := fun y e e2 => hAr.apart by' (by decide) (by rw [e2]; exact e)
      have hrn := hF r hmem
      have s0 : True := trivial
      refine wp_seq_k fun K3 hK3 => ?_
      have HK3 : Hid _ := hK3
      clear hK3
      go_wp2
      refine HK3.out _ _ ?_
      clear HK3
      refine wp_seq_k fun K4 hK4 => ?_
      have HK4 : Hid _ := hK4
      clear hK4
      refine wp_block ?_
      refine wp_seq_k fun K5 hK5 => ?_
      have HK5 : Hid _ := hK5
      clear hK5
      go_wp2_with (go_at_call 31; have _t := s0; clear s0; refine (spoil_any hAr hrn).mono ?_; rintro e w4 ⟨rfl, u4⟩)
      have F4 := Fz.ofO u4
      have b14 := b1r.fz F4 (fun e => hg1 g1 (hrO g1 e) rfl)
      have hrow4 : w4.ownsRow 0 83 3 (.slice (some ⟨gr, 0, none⟩) n c) n (flQ qs) := by
        refine hrowr.kept u4 ?_
        cases e : (Value.slice r.a r.n r.c).ownBlock with
        | none => exact .inr (by simp [Value.ownBlock])
        | some y => exact .inr (fun e2 => by have e2 : gr = y := Option.some.inj e2; exact hgq y (hrO y e) e2.symm)
      have by4 : BxS w4 gp 22 cur := by'.fz F4 (fun e => hap gp e rfl)
      have gA := World.grownBy_alloc w4 (.cells #[.int .u8 9] 5) none
      have hrow5 : (w4.alloc (.cells #[.int .u8 9] 5)).ownsRow 0 83 3 (.slice (some ⟨gr, 0, none⟩) n c) n (flQ qs) := hrow4.alloc _
      have by5 := by4.keep gA (by simp)
      have b15 := b14.keep gA (by simp)
      clear x0 x1 x2 x3 x4 cq cy
      have cq4 := hcell _ hrow4
      have cq5 := hcell _ hrow5
      rw [hga] at cq4 cq5
      obtain ⟨x0, x1, x2, x3, x4⟩ := BxS.cell5 b14
      obtain ⟨v0, v1, v2, v3, v4⟩ := BxS.cell5 b15
      have cy5 : (w4.alloc (.cells #[.int .u8 9] 5)).cell? ⟨gp, of' + k, none⟩ = some (.slice r.a r.n r.c) := by rw [cell_of_row _ _ _ _ _ _ by5]; exact hck
      have fy5 := by5.free (of' + k)
      refine HK5.out _ _ ?_
      clear HK5
      go_wp2
      try simp only [Exit.inBlock, Exit.then]
      refine HK4.out _ _ ?_
      clear HK4
      have hwk : IntKind.i64.wrap ((k : Int) + 1) = (k : Int) + 1 := wrap_i64_in _ (by omega) (by omega)
      have u6 := grown_set (w4.alloc (.cells #[.int .u8 9] 5)) gp (of' + k) (.slice (some ⟨w4.heap.size, 0, none⟩) 1 1)
      have hy6 := by5.set (of' + k) (.slice (some ⟨w4.heap.size, 0, none⟩) 1 1)
      have hF6 : Fz (fun x => Ofo q.a q.rs x) w ((w4.alloc (.cells #[.int .u8 9] 5)).setCell ⟨gp, of' + k, none⟩ (.slice (some ⟨w4.heap.size, 0, none⟩) 1 1)) := ((hFz.step u4 (fun x e _ => hrO x e)).step gA (fun x e _ => by cases e)).step u6 (fun x e _ => by have e : gp = x := Option.some.inj e; rw [← e]; exact hgpO)
      have hA6 : ∀ k' s, k + 1 ≤ k' → q.rs[k']? = some s → Ans ((w4.alloc (.cells #[.int .u8 9] 5)).setCell ⟨gp, of' + k, none⟩ (.slice (some ⟨w4.heap.size, 0, none⟩) 1 1)) lo s.a s.n s.c s.D := fun k' s hk' hs => by
        have hAs := HA.out k' s (by omega) hs
        have h1 : Ans w4 lo s.a s.n s.c s.D := hAs.fz F4 (fun x e e2 => by
          have hpw := List.pairwise_iff_getElem.1 hq.apart
          obtain ⟨l1, rfl⟩ := List.getElem?_eq_some_iff.1 hr
          obtain ⟨l2, rfl⟩ := List.getElem?_eq_some_iff.1 hs
          exact hpw k k' l1 l2 (by omega) x e2 e)
        exact (h1.keep gA).fz (Fz.of1 u6) (fun x e e2 => by
          have e2 : x = gp := e2
          subst e2
          exact (h1.keep gA).apart by5 (by decide) e)
      clear hrow4 hrow5 hrowr by' by4 by5 cq4 cq5 cy5 fy5 F4 u4 gA u6 b14 b15 b1r x0 x1 x2 x3 x4 v0 v1 v2 v3 v4
      generalize (w4.alloc (.cells #[.int .u8 9] 5)).setCell ⟨gp, of' + k, none⟩ (.slice (some ⟨w4.heap.size, 0, none⟩) 1 1) = w6 at *
      have hc6 : of' + q.c ≤ (cur.set! (of' + k) (.slice (some ⟨w4.heap.size, 0, none⟩) 1 1)).size ∧ ∀ k' r, k + 1 ≤ k' → q.rs[k']? = some r → (cur.set! (of' + k) (.slice (some ⟨w4.heap.size, 0, none⟩) 1 1))[of' + k']? = some r.v := by
        refine ⟨by simpa using hsz, fun k' s hk' hs => ?_⟩
        rw [Array.set!_eq_setIfInBounds, Array.getElem?_setIfInBounds_ne (by omega)]
        exact HCU.out k' s (by omega) hs
      generalize cur.set! (of' + k) (.slice (some ⟨w4.heap.size, 0, none⟩) 1 1) = cur6 at *
      go_wp2
      go_roundw
      case rel => exact ⟨k + 1, cur6, by go_num, by omega, (fun _ => ⟨hy6, hc6⟩), hA6, hF6⟩
      case measure => simp [intOf]; omega
    · obtain rfl : k = q.n := by omega
      have hkl' : ¬ (q.n : Int) < (q.n : Int) := by omega
      go_wp2
      refine HK2.out _ _ ?_
      clear HK2
      have s0 : True := trivial
      go_wp2_with (have _t := s0; clear s0; refine wpList_stQ wr rfl _ _ rfl gr i n c qs qw7 rfl rfl hrowr hl hin ?_; intro w9 ho9 u9)
      try simp only [Exit.inBlock, Exit.then]
      refine HK1.out _ _ ?_
      clear HK1
      have hwi : IntKind.i64.wrap ((i : Int) + 1) = (i : Int) + 1 := wrap_i64_in _ (by omega) (by omega)
      clear x0 x1 x2 x3 x4 cq
      go_wp2
      have hF9 : Fz (fun x => Ofo q.a q.rs x ∨ x = gr) w w9 := (hFz.more (fun x h => .inl h)).step u9 (fun x e _ => .inr (Option.some.inj e).symm)
      exact HQ.out _ _ _ _ _ _ _ _ _ _ _ _ _ _ _ _ _ _ _ _ _ _ _ _ _ _ _ _ _ _ _ _ _ _ _ _ _ _ w9 ho9 hF9

set_option maxHeartbeats 32000000 in
theorem overSenderW_any (cr sz ma tu : Int) (a : Option Addr) (n c lo : Nat) (qs : List Qw) (Qs : List Qd) (w : World) (h : WkS w lo a n c qs Qs) (hF : FitQ 140737488351232 Qs) (hN : ∀ q, q ∈ Qs → q.P.length * 24 ≤ 140737488351232) (hn : n * 40 ≤ 140737488351232) :
    Calls Try.prog 59 #[.agg #[.int .i64 cr, .int .i64 sz, .int .i64 ma, .int .i64 tu, .slice a n c]] w fun e w' => e = .returned (.tuple #[]) ∧ Fz (Wbl (.slice a n c) qs) w w' := by
  have hlq := h.o.len
  have hmx := h.o.max
  unfold maxLen at hmx
  have b0 := BxS.new w 38 #[.int .i64 cr, .int .i64 sz, .int .i64 ma, .int .i64 tu, .slice a n c]
  have g0 := World.grownBy_alloc w (.cells #[.int .i64 cr, .int .i64 sz, .int .i64 ma, .int .i64 tu, .slice a n c] 38) none
  generalize hw0 : w.alloc (.cells #[.int .i64 cr, .int .i64 sz, .int .i64 ma, .int .i64 tu, .slice a n c] 38) = w0 at b0 g0
  have h0 := h.o.keep g0
  go_enter Try.func59, Try.ntmps59
  go_wp2
  go_loopw [2] (fun iv wr => ∃ (k : Nat) (ps : List Qw), iv = .int .i64 k ∧ k ≤ n ∧ wr.ownsRow 0 83 3 (.slice a n c) n (flQ ps) ∧ ps.length = n ∧ (∀ k', k ≤ k' → ps[k']? = qs[k']?) ∧ (∀ k' q, k ≤ k' → qs[k']? = some q → OwO wr lo q.a q.n q.c q.rs) ∧ Fz (Wbl (.slice a n c) qs) w wr ∧ BxS wr w.heap.size 38 #[.int .i64 cr, .int .i64 sz, .int .i64 ma, .int .i64 tu, .slice a n c]) (fun iv _ => n - (intOf iv).toNat)
  case atStart => exact ⟨0, qs, by go_num, Nat.zero_le _, h0.own, hlq, (fun _ _ => rfl), (fun k' q _ hq => h0.each q (List.mem_of_getElem? hq)), (Fz.refl _ _).step g0 (fun x e _ => by cases e), b0⟩
  case round =>
    obtain ⟨k, ps, rfl, hk, hrow, hpl, hps, hOr, hFz, br⟩ := hrel
    obtain ⟨x0, x1, x2, x3, x4⟩ := BxS.cell5 br
    have HPS : Hid _ := hps
    have HOR : Hid _ := hOr
    clear hps hOr
    by_cases hlk : k < n
    · have l1 : (k : Int) < (n : Int) := by omega
      obtain ⟨gr, rfl⟩ := h.o.someQ (by omega)
      obtain ⟨q, hq⟩ : ∃ q, qs[k]? = some q := ⟨_, List.getElem?_eq_getElem (by omega)⟩
      have hmem := List.mem_of_getElem? hq
      have hqO := HOR.out k q (Nat.le_refl _) hq
      have hqd : q.d ∈ Qs := by rw [← h.d]; exact List.mem_map_of_mem hmem
      have hfit := hF _ hqd
      have hnn := hN _ hqd
      have hql := (h.o.each q hmem).ro.len
      have hqP : q.d.P.length = q.n := by show (q.rs.map Rw.D).length = _; rw [List.length_map]; exact hql
      have hrn : ∀ r, r ∈ q.rs → r.n ≤ 140737488351240 := fun r hr => by
        have h1 := hfit r.D (List.mem_map_of_mem hr)
        have h2 := ((h.o.each q hmem).ro.each r hr).len
        omega
      refine wp_seq_k fun K3 hK3 => ?_
      have HK3 : Hid _ := hK3
      clear hK3
      go_wp2
      refine HK3.out _ _ ?_
      clear HK3
      refine ow_t4 _ wr cr sz ma tu w.heap.size gr lo k n c ps q br hrow hpl (by rw [HPS.out k (Nat.le_refl _)]; exact hq) hqO hrn (by omega) (by omega) ?_
      intro z3 z9 z10 z11 z12 z13 z14 z15 z16 z17 z18 z19 z20 z21 z22 z23 z24 z25 z26 z27 z28 z29 z30 z31 z32 z33 z34 z35 z36 z37 z38 z39 z40 z41 z42 z43 z44 z45 w' ho' hF'
      simp only [Exit.then]
      refine ⟨?_, ?_⟩
      · repeat apply Exists.intro
        refine ⟨?_, rfl⟩
        have hrq : ∀ k' r, k + 1 ≤ k' → qs[k']? = some r → OwO w' lo r.a r.n r.c r.rs := fun k' r hk' hr => by
          have hr1 := HOR.out k' r (by omega) hr
          refine hr1.fz hF' (fun x hx e => ?_)
          rcases e with e | e
          · exact (WkQ.sep h.o (show k' ≠ k by omega) hr hq) x hx e
          · exact h.o.row_ne (h.o.each r (List.mem_of_getElem? hr)) hx e
        refine ⟨k + 1, _, by go_num, by omega, ho', by rw [List.length_set]; exact hpl, (fun k' hk' => by rw [List.getElem?_set_ne (by omega)]; exact HPS.out k' (by omega)), hrq, hFz.trans hF' (fun x _ e => ?_), br.fz hF' (fun e => ?_)⟩
        · rcases e with e | e
          · exact .inr ⟨q, hmem, e⟩
          · exact .inl (by rw [e]; rfl)
        · rcases e with e | e
          · exact hqO.box br (by decide) (by decide) e rfl
          · have := (h.o.hi (x := gr) (.inl rfl)).1
            omega
      · simp [intOf]; omega
    · obtain rfl : k = n := by omega
      have l1 : ¬ (k : Int) < (k : Int) := by omega
      go_wp2
      go_end0
      exact ⟨rfl, hFz⟩
set_option maxHeartbeats 64000000 in
theorem senderAs_next (gch : Nat) (r0 r1 r2 r3 v0 v1 v2 v3 : Int) (Y : List Nat) (ba : Option Addr) (bm bc : Nat) (R V : List Qd) (Er : Nat) (a b : Option Addr) (n c m d : Nat) (w : World) (I : World → Prop) (hI : ∀ x y, I x → x.grownBy y none → I y) (hI0 : I w)
    (hC : ∀ (wz : World) (za : Option Addr) (zc : Nat), I wz → RdS wz za n zc R → Calls Try.prog 33 #[.agg #[.int .i64 r0, .int .i64 r1, .int .i64 r2, .int .i64 r3, .slice za n zc], .pointer (some ⟨gch, 0, none⟩)] wz fun e w' => ∃ (a' : Option Addr) (n' c' : Nat) (qs' : List Qw) (ya : Option Addr) (yn yc : Nat), e = .returned (.tuple #[.agg #[.int .i64 v0, .int .i64 v1, .int .i64 v2, .int .i64 v3, .slice a' n' c'], .slice ya yn yc, .int .i64 (Er : Int)]) ∧ WkS w' wz.heap.size a' n' c' qs' V ∧ (Ans w' wz.heap.size ya yn yc Y ∧ ∀ x, Wbl (.slice a' n' c') qs' x → (Value.slice ya yn yc).ownBlock ≠ some x) ∧ wz.grownBy w' none)
    (hY : Rd w ba bm bc Y) (hYb : ∀ g off, ba = some ⟨g, off, none⟩ → g < w.heap.size) (hYl : Y.length ≤ 100000) (hr : RdS w a n c R) (hw : RdS w b m d V) (fR1 : FitQ 140737488351232 R) (fR2 : ∀ q, q ∈ R → q.P.length * 24 ≤ 140737488351232) (fR3 : n * 40 ≤ 140737488351232) (fV1 : FitQ 140737488351232 V) (fV2 : ∀ q, q ∈ V → q.P.length * 24 ≤ 140737488351232) (fV3 : m * 40 ≤ 140737488351232) :
    Calls Try.prog 30 #[.func (.func 33) #[] #[.pointer (some ⟨gch, 0, none⟩)], .agg #[.int .i64 r0, .int .i64 r1, .int .i64 r2, .int .i64 r3, .slice a n c], .agg #[.int .i64 v0, .int .i64 v1, .int .i64 v2, .int .i64 v3, .slice b m d], .slice ba bm bc, .int .i64 (Er : Int)] w fun e w' => e = .returned (.bool true) ∧ w.grownBy w' none := by
  have b6 := BxS.new w 38 #[.int .i64 r0, .int .i64 r1, .int .i64 r2, .int .i64 r3, .slice a n c]
  have g0 := World.grownBy_alloc w (.cells #[.int .i64 r0, .int .i64 r1, .int .i64 r2, .int .i64 r3, .slice a n c] 38) none
  generalize hw0 : w.alloc (.cells #[.int .i64 r0, .int .i64 r1, .int .i64 r2, .int .i64 r3, .slice a n c] 38) = w0 at b6 g0
  have hz0 : w0.heap.size = w.heap.size + 1 := by rw [← hw0]; simp
  have b7 := BxS.new w0 38 #[.int .i64 v0, .int .i64 v1, .int .i64 v2, .int .i64 v3, .slice b m d]
  have g1 := World.grownBy_alloc w0 (.cells #[.int .i64 v0, .int .i64 v1, .int .i64 v2, .int .i64 v3, .slice b m d] 38) none
  generalize hw1 : w0.alloc (.cells #[.int .i64 v0, .int .i64 v1, .int .i64 v2, .int .i64 v3, .slice b m d] 38) = w1 at b7 g1
  rw [hz0] at b7
  have sz1 : w.heap.size + 2 ≤ w1.heap.size := by rw [← hw1]; simp [hz0]
  have b6 := b6.keep g1 (by simp)
  have G1 := grown_trans g0 g1
  have i5 := Try.info_se
  have lV := hw.len
  have kR := fun wz hz => senderOf_any r0 r1 r2 r3 a n c R wz hz fR1 fR2 fR3
  have kW := fun wz hz => senderOf_any v0 v1 v2 v3 b m d V wz hz fV1 fV2 fV3
  obtain ⟨x6a, x6b, x6c, x6d, x6e⟩ := BxS.cell5 b6
  obtain ⟨x7a, x7b, x7c, x7d, x7e⟩ := BxS.cell5 b7
  have hEr : ((Er : Int) != (Er : Int)) = false := by simp
  have s0 : True := trivial
  go_enter Try.func30, Try.ntmps30
  go_wp2_with (first
    | (go_at_call 54; have _t := s0; clear s0; refine (kR _ (hr.keep G1)).mono ?_; rintro e w2 ⟨ah, ch, kh, rfl, hH, y2⟩; have hH := hH.wk; have z2 := y2.size; have b6 := b6.keep y2 (by simp); have b7 := b7.keep y2 (by simp); clear x6a x6b x6c x6d x6e x7a x7b x7c x7d x7e; have bn := BxS.new w2 38 #[.int .i64 0, .int .i64 0, .int .i64 0, .int .i64 0, .slice none 0 0]; have gn := World.grownBy_alloc w2 (.cells #[.int .i64 0, .int .i64 0, .int .i64 0, .int .i64 0, .slice none 0 0] 38) none; have s1 : True := trivial)
    | (have _t := s1; clear s1; refine wpList_stX _ rfl _ (.tmp 11) (.tmp 20) rfl w2.heap.size _ _ rfl rfl bn i5 rfl (by simp [Value.oneCell']) ?_; intro w3 b11 u11; have Y11 := grown_far gn u11 (fun q e => by have e := Option.some.inj e; omega); have b6 := b6.keep Y11 (by simp); have b7 := b7.keep Y11 (by simp); have l11 := b11.lt; have hH := hH.keep Y11; have hH3q : ∀ x, Wbl (.slice ah n ch) kh x → w1.heap.size ≤ x ∧ x < w3.heap.size := (fun x hx => by have := hH.o.hi hx; omega); have G3 := grown_trans (grown_trans G1 y2) Y11; have z3 := Y11.size; obtain ⟨x6a, x6b, x6c, x6d, x6e⟩ := BxS.cell5 b6; obtain ⟨x7a, x7b, x7c, x7d, x7e⟩ := BxS.cell5 b7; obtain ⟨x11a, x11b, x11c, x11d, x11e⟩ := BxS.cell5 b11; have s2 : True := trivial)
    | (go_at_call 33; have _t := s2; clear s2; refine (hC _ ah ch (hI _ _ hI0 G3) hH.rd).mono ?_; rintro e w4 ⟨a1, n1, c1, k1, ya, yn, yc, rfl, hA, ⟨hX, hAX0⟩, y4⟩; have hAX : ∀ x, Wbl (.slice a1 n1 c1) k1 x → (Value.slice ya yn yc).ownBlock ≠ some x := hAX0; have z4 := y4.size; have b6 := b6.keep y4 (by simp); have b7 := b7.keep y4 (by simp); have b11 := b11.keep y4 (by simp); clear x6a x6b x6c x6d x6e x7a x7b x7c x7d x7e x11a x11b x11c x11d x11e; have hH := hH.keep y4; clear bn gn; have bn := BxS.new w4 38 #[.int .i64 0, .int .i64 0, .int .i64 0, .int .i64 0, .slice none 0 0]; have gn := World.grownBy_alloc w4 (.cells #[.int .i64 0, .int .i64 0, .int .i64 0, .int .i64 0, .slice none 0 0] 38) none; have s3 : True := trivial)
    | (have _t := s3; clear s3; refine wpList_stX _ rfl _ (.tmp 12) (.tmp 25) rfl w4.heap.size _ _ rfl rfl bn i5 rfl (by simp [Value.oneCell']) ?_; intro w5 b12 u12; have Y12 := grown_far gn u12 (fun q e => by have e := Option.some.inj e; omega); have b6 := b6.keep Y12 (by simp); have b7 := b7.keep Y12 (by simp); have b11 := b11.keep Y12 (by simp); have l12 := b12.lt; have hH := hH.keep Y12; have hA := hA.keep Y12; have hX := hX.keep Y12; have hA5q : ∀ x, Wbl (.slice a1 n1 c1) k1 x → w3.heap.size ≤ x ∧ x < w5.heap.size := (fun x hx => by have := hA.o.hi hx; omega); have hX5 : ∀ g, (Value.slice ya yn yc).ownBlock = some g → g < w5.heap.size := (fun g hg => hX.ltB hg); have G5 := grown_trans (grown_trans G3 y4) Y12; have z5 := Y12.size; obtain ⟨x6a, x6b, x6c, x6d, x6e⟩ := BxS.cell5 b6; obtain ⟨x7a, x7b, x7c, x7d, x7e⟩ := BxS.cell5 b7; obtain ⟨x11a, x11b, x11c, x11d, x11e⟩ := BxS.cell5 b11; obtain ⟨x12a, x12b, x12c, x12d, x12e⟩ := BxS.cell5 b12; have s4 : True := trivial)
    | (go_at_call 33; have _t := s4; clear s4; refine (hC _ ah ch (hI _ _ hI0 G5) hH.rd).mono ?_; rintro e w6 ⟨a2, n2, c2, k2, yb, ym, yd, rfl, hB, ⟨hZ, _⟩, y6⟩; have z6 := y6.size; have b6 := b6.keep y6 (by simp); have b7 := b7.keep y6 (by simp); have b11 := b11.keep y6 (by simp); have b12 := b12.keep y6 (by simp); clear x6a x6b x6c x6d x6e x7a x7b x7c x7d x7e x11a x11b x11c x11d x11e x12a x12b x12c x12d x12e; have hH := hH.keep y6; have hA := hA.keep y6; have hX := hX.keep y6; clear bn gn; have bn := BxS.new w6 38 #[.int .i64 0, .int .i64 0, .int .i64 0, .int .i64 0, .slice none 0 0]; have gn := World.grownBy_alloc w6 (.cells #[.int .i64 0, .int .i64 0, .int .i64 0, .int .i64 0, .slice none 0 0] 38) none; have s5 : True := trivial)
    | (have _t := s5; clear s5; refine wpList_stX _ rfl _ (.tmp 15) (.tmp 32) rfl w6.heap.size _ _ rfl rfl bn i5 rfl (by simp [Value.oneCell']) ?_; intro w7 b15 u15; have Y15 := grown_far gn u15 (fun q e => by have e := Option.some.inj e; omega); have b6 := b6.keep Y15 (by simp); have b7 := b7.keep Y15 (by simp); have b11 := b11.keep Y15 (by simp); have b12 := b12.keep Y15 (by simp); have l15 := b15.lt; have hH := hH.keep Y15; have hA := hA.keep Y15; have hB := hB.keep Y15; have hX := hX.keep Y15; have hZ := hZ.keep Y15; have G7 := grown_trans (grown_trans G5 y6) Y15; have z7 := Y15.size; obtain ⟨x6a, x6b, x6c, x6d, x6e⟩ := BxS.cell5 b6; obtain ⟨x7a, x7b, x7c, x7d, x7e⟩ := BxS.cell5 b7; obtain ⟨x11a, x11b, x11c, x11d, x11e⟩ := BxS.cell5 b11; obtain ⟨x12a, x12b, x12c, x12d, x12e⟩ := BxS.cell5 b12; obtain ⟨x15a, x15b, x15c, x15d, x15e⟩ := BxS.cell5 b15; have s6 : True := trivial)
    | (go_at_call 25; have _t := s6; clear s6; refine (sameSender2_any _ _ _ _ _ _ _ _ _ _ V _ hA.rd (hw.keep G7)).mono ?_; rintro e w8 ⟨rfl, e1⟩; have ze1 := e1.size; have b6 := b6.keep e1 (by simp); have b7 := b7.keep e1 (by simp); have b11 := b11.keep e1 (by simp); have b12 := b12.keep e1 (by simp); have b15 := b15.keep e1 (by simp); clear x6a x6b x6c x6d x6e x7a x7b x7c x7d x7e x11a x11b x11c x11d x11e x12a x12b x12c x12d x12e x15a x15b x15c x15d x15e; have hH := hH.keep e1; have hA := hA.keep e1; have hB := hB.keep e1; have hX := hX.keep e1; have hZ := hZ.keep e1; obtain ⟨x6a, x6b, x6c, x6d, x6e⟩ := BxS.cell5 b6; obtain ⟨x7a, x7b, x7c, x7d, x7e⟩ := BxS.cell5 b7; obtain ⟨x11a, x11b, x11c, x11d, x11e⟩ := BxS.cell5 b11; obtain ⟨x12a, x12b, x12c, x12d, x12e⟩ := BxS.cell5 b12; obtain ⟨x15a, x15b, x15c, x15d, x15e⟩ := BxS.cell5 b15; have s7 : True := trivial)
    | (go_at_call 25; have _t := s7; clear s7; refine (sameSender2_any _ _ _ _ _ _ _ _ _ _ V _ hB.rd (hw.keep (grown_trans G7 e1))).mono ?_; rintro e w9 ⟨rfl, e2⟩; have ze2 := e2.size; have b6 := b6.keep e2 (by simp); have b7 := b7.keep e2 (by simp); have b11 := b11.keep e2 (by simp); have b12 := b12.keep e2 (by simp); have b15 := b15.keep e2 (by simp); clear x6a x6b x6c x6d x6e x7a x7b x7c x7d x7e x11a x11b x11c x11d x11e x12a x12b x12c x12d x12e x15a x15b x15c x15d x15e; have hH := hH.keep e2; have hA := hA.keep e2; have hB := hB.keep e2; have hX := hX.keep e2; have hZ := hZ.keep e2; obtain ⟨x6a, x6b, x6c, x6d, x6e⟩ := BxS.cell5 b6; obtain ⟨x7a, x7b, x7c, x7d, x7e⟩ := BxS.cell5 b7; obtain ⟨x11a, x11b, x11c, x11d, x11e⟩ := BxS.cell5 b11; obtain ⟨x12a, x12b, x12c, x12d, x12e⟩ := BxS.cell5 b12; obtain ⟨x15a, x15b, x15c, x15d, x15e⟩ := BxS.cell5 b15; have s8 : True := trivial)
    | (go_at_call 25; have _t := s8; clear s8; refine (sameSender2_any _ _ _ _ _ _ _ _ _ _ R _ hH.rd (hr.keep (grown_trans (grown_trans G7 e1) e2))).mono ?_; rintro e w10 ⟨rfl, e3⟩; have ze3 := e3.size; have b6 := b6.keep e3 (by simp); have b7 := b7.keep e3 (by simp); have b11 := b11.keep e3 (by simp); have b12 := b12.keep e3 (by simp); have b15 := b15.keep e3 (by simp); clear x6a x6b x6c x6d x6e x7a x7b x7c x7d x7e x11a x11b x11c x11d x11e x12a x12b x12c x12d x12e x15a x15b x15c x15d x15e; have hH := hH.keep e3; have hA := hA.keep e3; have hB := hB.keep e3; have hX := hX.keep e3; have hZ := hZ.keep e3; obtain ⟨x6a, x6b, x6c, x6d, x6e⟩ := BxS.cell5 b6; obtain ⟨x7a, x7b, x7c, x7d, x7e⟩ := BxS.cell5 b7; obtain ⟨x11a, x11b, x11c, x11d, x11e⟩ := BxS.cell5 b11; obtain ⟨x12a, x12b, x12c, x12d, x12e⟩ := BxS.cell5 b12; obtain ⟨x15a, x15b, x15c, x15d, x15e⟩ := BxS.cell5 b15; have s9 : True := trivial)
    | (go_at_call 18; have _t := s9; clear s9; have G10 := grown_trans (grown_trans (grown_trans G7 e1) e2) e3; refine (twice_any ya yb ba yn ym bm yc yd bc _ Y _ hX hZ.rd (hY.keep G10) (by have := hX.len; omega) (fun g off e e2 => by have q1 := hZ.at0 e; have q2 := hZ.new g q1; have q3 := hX5 g e2.symm; omega) (fun g off e e2 => by have q1 := hYb g off e; have q2 := hX.new g e2.symm; have := G3.size; omega)).mono ?_; rintro e w11 ⟨rfl, e4⟩; have ze4 := e4.size; have b6 := b6.fz (Fz.ofO e4) (fun e => hX.noS b6 e.symm); have b7 := b7.fz (Fz.ofO e4) (fun e => hX.noS b7 e.symm); have b11 := b11.fz (Fz.ofO e4) (fun e => hX.noS b11 e.symm); have b12 := b12.fz (Fz.ofO e4) (fun e => hX.noS b12 e.symm); have b15 := b15.fz (Fz.ofO e4) (fun e => hX.noS b15 e.symm); clear x6a x6b x6c x6d x6e x7a x7b x7c x7d x7e x11a x11b x11c x11d x11e x12a x12b x12c x12d x12e x15a x15b x15c x15d x15e; have hH := hH.offB hX (fun x hx e => by have := hH3q x hx; have := hX.new x e; omega) e4; have hA := hA.offB hX (fun x hx e => hAX x hx e) e4; have hB := hB.offB hX (fun x hx e => by have := (hB.o.hi hx).2; have := hX5 x e; omega) e4; have G11 := grown_far G10 e4 (fun q e => by have := hX.new q e; have := G3.size; omega); obtain ⟨x6a, x6b, x6c, x6d, x6e⟩ := BxS.cell5 b6; obtain ⟨x7a, x7b, x7c, x7d, x7e⟩ := BxS.cell5 b7; obtain ⟨x11a, x11b, x11c, x11d, x11e⟩ := BxS.cell5 b11; obtain ⟨x12a, x12b, x12c, x12d, x12e⟩ := BxS.cell5 b12; obtain ⟨x15a, x15b, x15c, x15d, x15e⟩ := BxS.cell5 b15; have s10 : True := trivial)
    | (go_at_call 54; have _t := s10; clear s10; refine (kW _ (hw.keep G11)).mono ?_; rintro e w12 ⟨ak, ck, kk, rfl, hK, y12⟩; have hK := hK.wk; have z12 := y12.size; have b6 := b6.keep y12 (by simp); have b7 := b7.keep y12 (by simp); have b11 := b11.keep y12 (by simp); have b12 := b12.keep y12 (by simp); have b15 := b15.keep y12 (by simp); clear x6a x6b x6c x6d x6e x7a x7b x7c x7d x7e x11a x11b x11c x11d x11e x12a x12b x12c x12d x12e x15a x15b x15c x15d x15e; have hH := hH.keep y12; have hA := hA.keep y12; have hB := hB.keep y12; clear bn gn; have bn := BxS.new w12 38 #[.int .i64 0, .int .i64 0, .int .i64 0, .int .i64 0, .slice none 0 0]; have gn := World.grownBy_alloc w12 (.cells #[.int .i64 0, .int .i64 0, .int .i64 0, .int .i64 0, .slice none 0 0] 38) none; have s11 : True := trivial)
    | (have _t := s11; clear s11; refine wpList_stX _ rfl _ (.tmp 18) (.tmp 69) rfl w12.heap.size _ _ rfl rfl bn i5 rfl (by simp [Value.oneCell']) ?_; intro w13 b18 u18; have Y18 := grown_far gn u18 (fun q e => by have e := Option.some.inj e; omega); have b6 := b6.keep Y18 (by simp); have b7 := b7.keep Y18 (by simp); have b11 := b11.keep Y18 (by simp); have b12 := b12.keep Y18 (by simp); have b15 := b15.keep Y18 (by simp); have l18 := b18.lt; have hH := hH.keep Y18; have hA := hA.keep Y18; have hB := hB.keep Y18; have hK := hK.keep Y18; have G13 := grown_trans (grown_trans G11 y12) Y18; have z13 := Y18.size; obtain ⟨x6a, x6b, x6c, x6d, x6e⟩ := BxS.cell5 b6; obtain ⟨x7a, x7b, x7c, x7d, x7e⟩ := BxS.cell5 b7; obtain ⟨x11a, x11b, x11c, x11d, x11e⟩ := BxS.cell5 b11; obtain ⟨x12a, x12b, x12c, x12d, x12e⟩ := BxS.cell5 b12; obtain ⟨x15a, x15b, x15c, x15d, x15e⟩ := BxS.cell5 b15; obtain ⟨x18a, x18b, x18c, x18d, x18e⟩ := BxS.cell5 b18; have s12 : True := trivial)
    | (go_at_call 59; have _t := s12; clear s12; refine (overSenderW_any _ _ _ _ a1 n1 c1 _ k1 V _ hA fV1 fV2 (by have := hA.len; have := hw.len; omega)).mono ?_; rintro e w14 ⟨rfl, F1⟩; have b6 := b6.fz F1 (hA.o.box b6 (by decide) (by decide) (by decide)); have b7 := b7.fz F1 (hA.o.box b7 (by decide) (by decide) (by decide)); have b11 := b11.fz F1 (hA.o.box b11 (by decide) (by decide) (by decide)); have b12 := b12.fz F1 (hA.o.box b12 (by decide) (by decide) (by decide)); have b15 := b15.fz F1 (hA.o.box b15 (by decide) (by decide) (by decide)); have b18 := b18.fz F1 (hA.o.box b18 (by decide) (by decide) (by decide)); clear x6a x6b x6c x6d x6e x7a x7b x7c x7d x7e x11a x11b x11c x11d x11e x12a x12b x12c x12d x12e x15a x15b x15c x15d x15e x18a x18b x18c x18d x18e; have hB := hB.fz F1 (fun x hx hy => by have p1 := hB.o.hi hx; have p2 := hA5q x hy; omega); have hK := hK.fz F1 (fun x hx hy => by have p1 := hK.o.hi hx; have p2 := hA5q x hy; omega); have hH := hH.fz F1 (fun x hx hy => by have p1 := hH.o.hi hx; have p2 := hA5q x hy; have p3 := hH3q x hx; omega); obtain ⟨x6a, x6b, x6c, x6d, x6e⟩ := BxS.cell5 b6; obtain ⟨x7a, x7b, x7c, x7d, x7e⟩ := BxS.cell5 b7; obtain ⟨x11a, x11b, x11c, x11d, x11e⟩ := BxS.cell5 b11; obtain ⟨x12a, x12b, x12c, x12d, x12e⟩ := BxS.cell5 b12; obtain ⟨x15a, x15b, x15c, x15d, x15e⟩ := BxS.cell5 b15; obtain ⟨x18a, x18b, x18c, x18d, x18e⟩ := BxS.cell5 b18; have s13 : True := trivial)
    | (go_at_call 59; have _t := s13; clear s13; refine (overSenderW_any _ _ _ _ ah n ch _ kh R _ hH fR1 fR2 (by omega)).mono ?_; rintro e w15 ⟨rfl, F2⟩; have b6 := b6.fz F2 (hH.o.box b6 (by decide) (by decide) (by decide)); have b7 := b7.fz F2 (hH.o.box b7 (by decide) (by decide) (by decide)); have b11 := b11.fz F2 (hH.o.box b11 (by decide) (by decide) (by decide)); have b12 := b12.fz F2 (hH.o.box b12 (by decide) (by decide) (by decide)); have b15 := b15.fz F2 (hH.o.box b15 (by decide) (by decide) (by decide)); have b18 := b18.fz F2 (hH.o.box b18 (by decide) (by decide) (by decide)); clear x6a x6b x6c x6d x6e x7a x7b x7c x7d x7e x11a x11b x11c x11d x11e x12a x12b x12c x12d x12e x15a x15b x15c x15d x15e x18a x18b x18c x18d x18e; have hB := hB.fz F2 (fun x hx hy => by have p1 := hB.o.hi hx; have p2 := hH3q x hy; omega); have hK := hK.fz F2 (fun x hx hy => by have p1 := hK.o.hi hx; have p2 := hH3q x hy; omega); obtain ⟨x6a, x6b, x6c, x6d, x6e⟩ := BxS.cell5 b6; obtain ⟨x7a, x7b, x7c, x7d, x7e⟩ := BxS.cell5 b7; obtain ⟨x11a, x11b, x11c, x11d, x11e⟩ := BxS.cell5 b11; obtain ⟨x12a, x12b, x12c, x12d, x12e⟩ := BxS.cell5 b12; obtain ⟨x15a, x15b, x15c, x15d, x15e⟩ := BxS.cell5 b15; obtain ⟨x18a, x18b, x18c, x18d, x18e⟩ := BxS.cell5 b18; have s14 : True := trivial)
    | (go_at_call 25; have _t := s14; clear s14; refine (sameSender2_any _ _ _ _ _ _ _ _ _ _ V _ hB.rd hK.rd).mono ?_; rintro e w16 ⟨rfl, y16⟩))
  go_ret
  exact ⟨rfl, grown_trans (Fz.grown (Fz.grown G13 F1 (fun i h => by have := hA5q i h; omega)) F2 (fun i h => by have := hH3q i h; omega)) y16⟩

/-- what fills the rest of a frame -/
def nxF (m : Nat) : List Nat := filL ((max m 7 : Nat) : Int)
/-- the next m bytes of packets, of the first of which go bytes are gone: the bytes, what is left -/
def nx : Nat → Nat → List (List Nat) → Nat → List Nat × List (List Nat) × Nat
  | 0, _, P, go => ([], P, go)
  | f + 1, m, P, go => if m = 0 then ([], P, go) else
    if ((if P.length = 0 then [nxF m] else P).getD 0 []).length - go ≤ m then
      (((if P.length = 0 then [nxF m] else P).getD 0 []).drop go ++ (nx f (m - (((if P.length = 0 then [nxF m] else P).getD 0 []).length - go)) ((if P.length = 0 then [nxF m] else P).drop 1) 0).1, (nx f (m - (((if P.length = 0 then [nxF m] else P).getD 0 []).length - go)) ((if P.length = 0 then [nxF m] else P).drop 1) 0).2)
    else ((((if P.length = 0 then [nxF m] else P).getD 0 []).drop go).take m, (if P.length = 0 then [nxF m] else P), go + m)
theorem nx_zero (f : Nat) (P : List (List Nat)) (go : Nat) : nx f 0 P go = ([], P, go) := by
  cases f with
  | zero => rfl
  | succ f => show (if 0 = 0 then _ else _) = _; rw [if_pos rfl]
theorem nx_fill (f m go : Nat) (hm : 0 < m) : nx f m [] go = nx f m [nxF m] go ∨ f = 0 := by
  cases f with
  | zero => exact .inr rfl
  | succ f => refine .inl ?_; have hz : ¬ m = 0 := (by omega); rw [nx, nx]; simp [hz]
theorem nx_all (f m go : Nat) (x : List Nat) (P : List (List Nat)) (hm : 0 < m) (h : x.length - go ≤ m) : nx (f + 1) m (x :: P) go = (x.drop go ++ (nx f (m - (x.length - go)) P 0).1, (nx f (m - (x.length - go)) P 0).2) := by
  show (if m = 0 then _ else if x.length - go ≤ m then _ else _) = _
  rw [if_neg (by omega), if_pos h]
  rfl
theorem nx_part (f m go : Nat) (x : List Nat) (P : List (List Nat)) (hm : 0 < m) (h : ¬ x.length - go ≤ m) : nx (f + 1) m (x :: P) go = ((x.drop go).take m, x :: P, go + m) := by
  show (if m = 0 then _ else if x.length - go ≤ m then _ else _) = _
  rw [if_neg (by omega), if_neg h]
  rfl
theorem mayE_fill (n : Nat) (h1 : 1 ≤ n) (h2 : n ≤ 65536) : mayE 2047 3 0 n = 0 := by
  unfold mayE
  rw [if_pos ⟨⟨by decide, by decide⟩, ⟨by decide, by decide⟩, ⟨by decide, by decide⟩⟩, if_neg (by omega)]
theorem nxF_len (m : Nat) (h : m ≤ 60000) : (nxF m).length = max m 7 := by
  unfold nxF filL
  rw [if_pos (by omega)]
  unfold encP
  have e : (((max m 7 : Nat) : Int) - 6).toNat = max m 7 - 6 := by omega
  rw [if_pos (by rw [List.length_replicate, e]; exact mayE_fill _ (by omega) (by omega)), List.length_append, List.length_replicate, e, hdL_len]
  omega
theorem Rd.part2 {w : World} {b off n cap : Nat} {L : List Nat} (h : Rd w (some ⟨b, off, none⟩) n cap L) (m k : Nat) (hk : m + k ≤ n) : Rd w (some ⟨b, off + m, none⟩) k (cap - m) ((L.drop m).take k) := by
  have hl := h.len
  have h1 := h.le
  have h2 := h.max
  refine ⟨by simp; omega, by omega, by omega, (fun e => by cases e), fun x hx => h.byte x (List.mem_of_mem_drop (List.mem_of_mem_take hx)), fun h0 => ?_⟩
  obtain ⟨b', off', e, hb, hc⟩ := h.at' (by omega)
  cases e
  refine ⟨b, off + m, rfl, hb, fun i hi => ?_⟩
  have := hc (m + i) (by omega)
  rw [show off + m + i = off + (m + i) by omega, this]
  congr 3
  unfold nth
  rw [List.getD_eq_getElem?_getD, List.getD_eq_getElem?_getD, List.getElem?_take, if_pos hi, List.getElem?_drop]

/-- a queue at work, in its place in the row of queues -/
structure TD (wb wr : World) (lo gq n c j : Nat) (qs : List Qw) (q q' : Qw) : Prop where
  row : wr.ownsRow 0 83 3 (.slice (some ⟨gq, 0, none⟩) n c) n (flQ (qs.set j q'))
  oo : OwO wr lo q'.a q'.n q'.c q'.rs
  fz : Fz (fun x => x = gq) wb wr
  bl : ∀ x, Ofo q'.a q'.rs x → Ofo q.a q.rs x ∨ wb.heap.size ≤ x
theorem TD.cell {wb wr : World} {lo gq n c j : Nat} {qs : List Qw} {q q' : Qw} (h : TD wb wr lo gq n c j qs q q') (hj : j < qs.length) : wr.cell? ⟨gq, j * 3, none⟩ = some (.int .i64 q'.ow) ∧ wr.cell? ⟨gq, j * 3 + 1, none⟩ = some (.slice q'.a q'.n q'.c) ∧ wr.cell? ⟨gq, j * 3 + 2, none⟩ = some (.int .i64 q'.go) := by
  have e : (qs.set j q')[j]? = some q' := List.getElem?_set_self hj
  have hc : ∀ k, k < 3 → ∀ u, q'.cells[k]? = some u → wr.cell? ⟨gq, j * 3 + k, none⟩ = some u := fun k hk u hu => by
    have hf := flQ_at (qs.set j q') j q' e k hk
    rw [hu] at hf
    have := h.row.cells (g := gq) rfl (j * 3 + k) u hf
    rw [addr_add', Nat.zero_add] at this
    exact this
  exact ⟨hc 0 (by decide) _ rfl, hc 1 (by decide) _ rfl, hc 2 (by decide) _ rfl⟩
theorem TD.keep {wb wr w' : World} {lo gq n c j : Nat} {qs : List Qw} {q q' : Qw} (h : TD wb wr lo gq n c j qs q q') (hg : wr.grownBy w' none) : TD wb w' lo gq n c j qs q q' :=
  ⟨h.row.kept hg (.inr (by simp [Value.ownBlock])), h.oo.keep hg, h.fz.step hg (fun x e _ => by cases e), h.bl⟩
/-- bytes of the call's own are written -/
theorem TD.bytes {wb wr w' : World} {lo lo' gq n c j m co : Nat} {qs : List Qw} {q q' : Qw} {ao : Option Addr} {D : List Nat} (h : TD wb wr lo gq n c j qs q q') (hA : Ans wr lo' ao m co D) (hlo : wb.heap.size ≤ lo') (hne : ∀ x, Ofo q'.a q'.rs x → (Value.slice ao m co).ownBlock ≠ some x) (hg : wr.grownBy w' (Value.slice ao m co).ownBlock) : TD wb w' lo gq n c j qs q q' := by
  refine ⟨h.row.kept hg ?_, h.oo.fz (Fz.ofO hg) (fun x hx e => hne x hx e), h.fz.step hg (fun x e hl => ?_), h.bl⟩
  · refine .inr (fun e => ?_)
    rcases h.row.2 with ⟨h1, _⟩ | ⟨y, cap', cur, h1, _, hh, _⟩
    · simp at h1
    · simp only [Value.slice.injEq, Option.some.injEq, Addr.mk.injEq] at h1
      obtain ⟨⟨rfl, _⟩, _, rfl⟩ := h1
      exact hA.apart hh (by decide) e.symm
  · have := hA.new x e
    omega
/-- a cell of the queue is written -/
theorem TD.set {wb wr : World} {lo gq n c j : Nat} {qs : List Qw} {q q' : Qw} (h : TD wb wr lo gq n c j qs q q') (hj : j < qs.length) (k : Nat) (hk : k < 3) (v : Value) (q2 : Qw) (hc : q2.cells = q'.cells.set k v) (ho : OwO wr lo q2.a q2.n q2.c q2.rs) (hb : ∀ x, Ofo q2.a q2.rs x → Ofo q.a q.rs x ∨ wb.heap.size ≤ x) : TD wb (wr.setCell ⟨gq, j * 3 + k, none⟩ v) lo gq n c j qs q q2 := by
  have e : (qs.set j q')[j]? = some q' := List.getElem?_set_self hj
  have u := grown_set wr gq (j * 3 + k) v
  have hs := (h.row.stored (j * 3 + k) v).1
  rw [flQ_set (qs.set j q') j q' q2 e k hk v hc, List.set_set] at hs
  refine ⟨hs, ho.fz (Fz.of1 u) (fun x hx e => ?_), h.fz.step u (fun x e _ => (Option.some.inj e).symm), hb⟩
  have e : x = gq := e
  rcases h.row.2 with ⟨h1, _⟩ | ⟨y, cap', cur, h1, _, hh, _⟩
  · simp at h1
  · simp only [Value.slice.injEq, Option.some.injEq, Addr.mk.injEq] at h1
    obtain ⟨⟨rfl, _⟩, _, rfl⟩ := h1
    exact ho.box hh (by decide) (by decide) hx e
theorem TD.rowbx {wb wr : World} {lo gq n c j : Nat} {qs : List Qw} {q q' : Qw} (h : TD wb wr lo gq n c j qs q q') : ∃ cs, BxS wr gq 83 cs := by
  rcases h.row.2 with ⟨h1, _⟩ | ⟨y, cap', cur, h1, _, hh, _⟩
  · simp at h1
  · simp only [Value.slice.injEq, Option.some.injEq, Addr.mk.injEq] at h1
    obtain ⟨⟨rfl, _⟩, _, rfl⟩ := h1
    exact ⟨_, hh⟩
theorem TD.free {wb wr : World} {lo gq n c j : Nat} {qs : List Qw} {q q' : Qw} (h : TD wb wr lo gq n c j qs q q') (i : Nat) : wr.frozen? ⟨gq, i, none⟩ = false := h.row.frozenAt i
/-- the first row is gone -/
theorem OwO.tail {w : World} {lo g o n c : Nat} {r : Rw} {rs : List Rw} (h : OwO w lo (some ⟨g, o, none⟩) n c (r :: rs)) : OwO w lo (if c = 1 then some ⟨g, o, none⟩ else some ⟨g, o + 1, none⟩) (n - 1) (c - 1) rs := by
  have hl := h.ro.len
  have hn : 1 ≤ n := by rw [← hl]; exact Nat.succ_le_succ (Nat.zero_le _)
  refine ⟨?_, (List.pairwise_cons.1 h.apart).2⟩
  by_cases hc : c = 1
  · rw [if_pos hc]
    have := h.ro.tail0 1 hn hc
    rw [hc]
    exact this
  · rw [if_neg hc]
    exact h.ro.tail 1 hn
theorem ofo_tail {g o c : Nat} {r : Rw} {rs : List Rw} {x : Nat} (h : Ofo (if c = 1 then some ⟨g, o, none⟩ else some ⟨g, o + 1, none⟩) rs x) : Ofo (some ⟨g, o, none⟩) (r :: rs) x := by
  rcases h with ⟨o', s', e⟩ | ⟨s, hs, e⟩
  · refine .inl ⟨o, none, ?_⟩
    split at e
    · cases e; rfl
    · cases e; rfl
  · exact .inr ⟨s, List.mem_cons_of_mem _ hs, e⟩
/-- between two pieces: what was taken, what is left -/
structure TK (room : Nat) (TB : List Nat) (TP : List (List Nat)) (TG : Nat) (D : List Nat) (P : List (List Nat)) (g : Nat) : Prop where
  len : D.length ≤ room
  ex : ∃ f, room - D.length ≤ f ∧ D ++ (nx f (room - D.length) P g).1 = TB ∧ (nx f (room - D.length) P g).2 = (TP, TG)
  ne : ∀ x, x ∈ P → 1 ≤ x.length ∧ x.length ≤ 100000
  go : ∀ x, P[0]? = some x → g < x.length
  go0 : P = [] → g = 0
theorem TK.fill {room : Nat} {TB : List Nat} {TP : List (List Nat)} {TG : Nat} {D : List Nat} {g : Nat} (h : TK room TB TP TG D [] g) (hm : D.length < room) (hr : room ≤ 60000) : g = 0 ∧ TK room TB TP TG D [nxF (room - D.length)] 0 := by
  have h0 := h.go0 rfl
  subst h0
  obtain ⟨f, hf, h1, h2⟩ := h.ex
  have hl := nxF_len (room - D.length) (by omega)
  refine ⟨rfl, h.len, ⟨f, hf, ?_⟩, fun x hx => ?_, fun x hx => ?_, fun e => by cases e⟩
  · rcases nx_fill f (room - D.length) 0 (by omega) with e | e
    · rw [← e]; exact ⟨h1, h2⟩
    · omega
  · rw [List.mem_singleton.1 hx]; omega
  · have hx : some (nxF (room - D.length)) = some x := hx
    rw [← Option.some.inj hx]; omega
theorem TK.all {room : Nat} {TB : List Nat} {TP : List (List Nat)} {TG : Nat} {D x : List Nat} {P : List (List Nat)} {g : Nat} (h : TK room TB TP TG D (x :: P) g) (hm : D.length < room) (hx : x.length - g ≤ room - D.length) : TK room TB TP TG (D ++ x.drop g) P 0 := by
  obtain ⟨f, hf, h1, h2⟩ := h.ex
  have hg := h.go x rfl
  obtain ⟨f, rfl⟩ : ∃ f', f = f' + 1 := ⟨f - 1, by omega⟩
  rw [nx_all f _ g x P (by omega) hx] at h1 h2
  have hl : (D ++ x.drop g).length = D.length + (x.length - g) := by rw [List.length_append, List.length_drop]
  have e : room - (D ++ x.drop g).length = room - D.length - (x.length - g) := by omega
  refine ⟨by omega, ⟨f, by omega, ?_, ?_⟩, fun y hy => h.ne y (List.mem_cons_of_mem _ hy), fun y hy => ?_, fun _ => rfl⟩
  · rw [e, List.append_assoc]; exact h1
  · rw [e]; exact h2
  · have := (h.ne y (List.mem_cons_of_mem _ (List.mem_of_getElem? hy))).1; omega
theorem TK.part {room : Nat} {TB : List Nat} {TP : List (List Nat)} {TG : Nat} {D x : List Nat} {P : List (List Nat)} {g : Nat} (h : TK room TB TP TG D (x :: P) g) (hm : D.length < room) (hx : ¬ x.length - g ≤ room - D.length) : TK room TB TP TG (D ++ (x.drop g).take (room - D.length)) (x :: P) (g + (room - D.length)) := by
  obtain ⟨f, hf, h1, h2⟩ := h.ex
  obtain ⟨f, rfl⟩ : ∃ f', f = f' + 1 := ⟨f - 1, by omega⟩
  rw [nx_part f _ g x P (by omega) hx] at h1 h2
  have hl : (D ++ (x.drop g).take (room - D.length)).length = room := by rw [List.length_append, List.length_take, List.length_drop]; omega
  refine ⟨by omega, ⟨0, by omega, ?_, ?_⟩, h.ne, fun y hy => ?_, fun e => by cases e⟩
  · rw [hl, Nat.sub_self, nx_zero, List.append_nil]; exact h1
  · rw [hl, Nat.sub_self, nx_zero]; exact h2
  · have hy : some x = some y := hy
    rw [← Option.some.inj hy]; omega
theorem TK.done {room : Nat} {TB : List Nat} {TP : List (List Nat)} {TG : Nat} {D : List Nat} {P : List (List Nat)} {g : Nat} (h : TK room TB TP TG D P g) (hm : ¬ D.length < room) : D = TB ∧ P = TP ∧ g = TG ∧ D.length = room := by
  obtain ⟨f, hf, h1, h2⟩ := h.ex
  have hl := h.len
  rw [show room - D.length = 0 by omega, nx_zero] at h1 h2
  rw [List.append_nil] at h1
  have h2 : (P, g) = (TP, TG) := h2
  exact ⟨h1, (Prod.mk.inj h2).1, (Prod.mk.inj h2).2, by omega⟩

/-- 'append(v, x...)', v the call's own, x not empty, in a region that draws -/
theorem step_joinY {w : World} {ops : Array Oper} {o : Oper} {a : Act} {K : Act → World → Prop} {Q : Exit → Act → World → Prop} {E : Prop} (hg : o.guard = none) (s x : Operand)
    (hop : o.op = Op.call { callee := .builtin .append, args := #[s, x], argTypes := #[22, 22] }) (ao : Option Addr) (m co lo : Nat) (D : List Nat) (hs : a.eval s = .slice ao m co)
    (hA : Ans w lo ao m co D) (hlo : lo ≤ w.heap.size) (ax : Option Addr) (nx cx : Nat) (X : List Nat) (hx : a.eval x = .slice ax nx cx) (hR : Rd w ax nx cx X) (h0 : 0 < nx) (hb : m + nx ≤ 140737488355328)
    (hK : ∀ gx c' w', Ans w' lo (some ⟨gx, 0, none⟩) (m + nx) c' (D ++ X) → w.grownBy w' (Value.slice ao m co).ownBlock → ((Value.slice ao m co).ownBlock = some gx ∨ w.heap.size ≤ gx) → K (a.put o.dst (.slice (some ⟨gx, 0, none⟩) (m + nx) c')) w') :
    if Region.wanted o (yielded ops a.tmps) = true then Oper.wp Try.prog o a w K Q else E := by
  obtain ⟨b, off, rfl, _, _⟩ := hR.at' h0
  refine step_apB _ hg s x hop (.slice ao m co) m (bys D) hs hA.own ⟨b, off, none⟩ nx cx (bys X) hx (by rw [bys_length, hR.len]) (rd_news hR h0) (bys_one _) h0 hb ?_
  intro gx cx' w2 hgx hgr2 hown2 _
  rw [bys_app] at hown2
  refine hK gx cx' w2 ⟨hown2, isB_append hA.byte hR.byte, fun g h => ?_⟩ hgr2 hgx
  have e : gx = g := Option.some.inj h
  subst e
  rcases hgx with h | h
  · exact hA.new gx h
  · omega
/-- the same, in a region that does not draw -/
theorem wpList_joinY {w : World} {ops : Array Oper} {rest : List Oper} {o : Oper} {a : Act} {Q : Exit → Act → World → Prop} (hg : o.guard = none) (s x : Operand)
    (hop : o.op = Op.call { callee := .builtin .append, args := #[s, x], argTypes := #[22, 22] }) (ao : Option Addr) (m co lo : Nat) (D : List Nat) (hs : a.eval s = .slice ao m co)
    (hA : Ans w lo ao m co D) (hlo : lo ≤ w.heap.size) (ax : Option Addr) (nx cx : Nat) (X : List Nat) (hx : a.eval x = .slice ax nx cx) (hR : Rd w ax nx cx X) (h0 : 0 < nx) (hb : m + nx ≤ 140737488355328)
    (hK : ∀ gx c' w', Ans w' lo (some ⟨gx, 0, none⟩) (m + nx) c' (D ++ X) → w.grownBy w' (Value.slice ao m co).ownBlock → ((Value.slice ao m co).ownBlock = some gx ∨ w.heap.size ≤ gx) → wpList Try.prog ops Q rest (a.put o.dst (.slice (some ⟨gx, 0, none⟩) (m + nx) c')) w') :
    wpList Try.prog ops Q (o :: rest) a w := by
  obtain ⟨b, off, rfl, _, _⟩ := hR.at' h0
  refine wpList_apB w hg s x hop (.slice ao m co) m (bys D) hs hA.own ⟨b, off, none⟩ nx cx (bys X) hx (by rw [bys_length, hR.len]) (rd_news hR h0) (bys_one _) h0 hb ?_
  intro gx cx' w2 hgx hgr2 hown2
  rw [bys_app] at hown2
  refine hK gx cx' w2 ⟨hown2, isB_append hA.byte hR.byte, fun g h => ?_⟩ hgr2 hgx
  have e : gx = g := Option.some.inj h
  subst e
  rcases hgx with h | h
  · exact hA.new gx h
  · omega
theorem TD.ansK {wb w w' : World} {lo gq n c j : Nat} {qs : List Qw} {q q' : Qw} (hT : TD wb w lo gq n c j qs q q') {lo' m co : Nat} {ao : Option Addr} {D : List Nat} (hA : Ans w lo' ao m co D) (u : w.grownBy w' (some gq)) : Ans w' lo' ao m co D := hA.fz (Fz.of1 u) (fun x e e2 => by
  have e2 : x = gq := e2
  subst e2
  obtain ⟨cs, hcs⟩ := hT.rowbx
  exact hA.apart hcs (by decide) e)
/-- a row of one row, just built -/
theorem OwO.one {w : World} {lo : Nat} {r : Rw} (hr : Ans w lo r.a r.n r.c r.D) (hlo : lo ≤ w.heap.size) : OwO (w.alloc (.cells #[r.v] 22)) lo (some ⟨w.heap.size, 0, none⟩) 1 1 [r] := by
  have b := BxS.new w 22 #[r.v]
  have gA := World.grownBy_alloc w (.cells #[r.v] 22) none
  refine ⟨⟨rfl, ⟨Nat.le_refl _, by decide⟩, .inr ⟨w.heap.size, 0, #[r.v], rfl, hlo, b, by show 0 + 1 ≤ 1; decide, fun j u hu => ?_⟩, fun q hq => by rw [List.mem_singleton.1 hq]; exact hr.keep gA⟩, List.pairwise_singleton _ _⟩
  rw [Nat.zero_add]
  simpa [flatR] using hu
/-- a cell of a queue in its row is stored -/
theorem wpList_stT (w : World) {ops : Array Oper} {rest : List Oper} {o : Oper} {a : Act} {Q : Exit → Act → World → Prop} (hg : o.guard = none) (t : TypeId) (p x : Operand) (hop : o.op = Op.store t p x) {wb : World} {lo gq n c j : Nat} {qs : List Qw} {q q' : Qw} (hT : TD wb w lo gq n c j qs q q') (hj : j < qs.length) (k : Nat) (hk : k < 3) (v : Value) (q2 : Qw)
    (hp : a.eval p = .pointer (some ⟨gq, j * 3 + k, none⟩)) (hx : a.eval x = v) (hst : ∀ w' : World, (∃ u, w'.cell? ⟨gq, j * 3 + k, none⟩ = some u) → w'.frozen? ⟨gq, j * 3 + k, none⟩ = false → (Instr.storeAt t (.pointer (some ⟨gq, j * 3 + k, none⟩)) v).run Try.prog w' = .ok () (w'.setCell ⟨gq, j * 3 + k, none⟩ v))
    (hc : q2.cells = q'.cells.set k v) (ho : OwO w lo q2.a q2.n q2.c q2.rs) (hb : ∀ x, Ofo q2.a q2.rs x → Ofo q.a q.rs x ∨ wb.heap.size ≤ x)
    (hK : ∀ w', TD wb w' lo gq n c j qs q q2 → w.grownBy w' (some gq) → wpList Try.prog ops Q rest (a.put o.dst undef) w') :
    wpList Try.prog ops Q (o :: rest) a w := by
  refine wpList_plain hg fun K hK' => ?_
  have e : (qs.set j q')[j]? = some q' := List.getElem?_set_self hj
  have hcell : ∃ u, w.cell? ⟨gq, j * 3 + k, none⟩ = some u := by
    obtain ⟨u, hu⟩ : ∃ u, q'.cells[k]? = some u := ⟨_, List.getElem?_eq_getElem (by show k < 3; exact hk)⟩
    have hf := flQ_at (qs.set j q') j q' e k hk
    rw [hu] at hf
    have := hT.row.cells (g := gq) rfl (j * 3 + k) u hf
    rw [addr_add', Nat.zero_add] at this
    exact ⟨u, this⟩
  have hrun := hst w hcell (hT.free _)
  have hfin := hK _ (hT.set hj k hk v q2 hc ho hb) (grown_set w gq (j * 3 + k) v)
  unfold Oper.wp
  simp [execOp, hop, hp, hx, hrun, Result.andThen]
  exact hK' _ _ hfin

set_option maxHeartbeats 32000000 in
theorem td_t9 {u2 u3 u4 u6 u7 u8 u11 u12 u13 u14 u15 u16 u17 u18 u19 u20 u21 u22 u23 u24 u25 u26 u27 u28 u29 u30 u31 u32 u33 u34 u35 u36 u37 u38 u39 u40 u41 u42 u43 u44 u45 u46 u47 u48 u49 u50 u51 u52 u53 u54 u55 u56 u57 u58 u59 u60 u61 u62 u63 u64 u65 u66 u67 u68 u69 u70 u71 u72 u73 u74 u75 u76 u77 u78 u79 u80 u81 u82 u83 u84 u85 u86 u87 u88 u89 u90 u91 u92 u93 : Value} (Q : Exit → Act → World → Prop) (wb w : World) (lo gq n c j room t gp op n' c' br : Nat) (qs : List Qw) (q : Qw) (r : Rw) (rs : List Rw) (ao : Option Addr) (co : Nat) (D : List Nat) (g : Nat) (TB : List Nat) (TP : List (List Nat)) (TG : Nat) (hj : j < qs.length) (hT : TD wb w lo gq n c j qs q ⟨q.ow, some ⟨gp, op, none⟩, n', c', (g : Int), r :: rs⟩) (hA : Ans w wb.heap.size ao D.length co D) (hroom : room ≤ 60000) (hDl : D.length < room) (hK : TK room TB TP TG D ((r :: rs).map Rw.D) g) (hap : ∀ x, Ofo (some ⟨gp, op, none⟩) (r :: rs) x → (Value.slice ao D.length co).ownBlock ≠ some x) (hra : r.a = some ⟨br, 0, none⟩) (hg : g < r.n) (hrn : r.n ≤ 100000) (ht : t = min (room - D.length) (r.n - g)) (hP : ∀ c a a' wz, a.defers = a'.defers → Q (.panic c) a wz → Q (.panic c) a' wz) (hQ : ∀ (z53 z54 z55 z56 z57 z58 z59 z60 z61 z62 z63 z64 z65 z66 z67 z68 z69 z70 z71 z72 z73 z74 z75 z76 z77 z78 z79 z80 z81 z82 z83 z84 z85 z86 z87 z88 z89 z90 z91 z92 : Value) (w' : World) (ao' : Option Addr) (co' : Nat) (D' : List Nat) (q2 : Qw) (g2 : Nat), D.length < D'.length → TD wb w' lo gq n c j qs q q2 → q2.go = (g2 : Int) → q2.ow = q.ow → Ans w' wb.heap.size ao' D'.length co' D' → TK room TB TP TG D' (q2.rs.map Rw.D) g2 → (∀ x, Ofo q2.a q2.rs x → (Value.slice ao' D'.length co').ownBlock ≠ some x) → Q .normal (Act.mk (List.toArray ((.pointer (some ⟨gq, j * 3, none⟩)) :: (.int .i64 (room : Int)) :: u2 :: u3 :: u4 :: (.slice ao' D'.length co') :: u6 :: u7 :: u8 :: (.slice (some ⟨br, 0, none⟩) r.n r.c) :: (.int .i64 (t : Int)) :: u11 :: u12 :: u13 :: u14 :: u15 :: u16 :: u17 :: u18 :: u19 :: u20 :: u21 :: u22 :: u23 :: u24 :: u25 :: u26 :: u27 :: u28 :: u29 :: u30 :: u31 :: u32 :: u33 :: u34 :: u35 :: u36 :: u37 :: u38 :: u39 :: u40 :: u41 :: u42 :: u43 :: u44 :: u45 :: u46 :: u47 :: u48 :: u49 :: u50 :: u51 :: u52 :: z53 :: z54 :: z55 :: z56 :: z57 :: z58 :: z59 :: z60 :: z61 :: z62 :: z63 :: z64 :: z65 :: z66 :: z67 :: z68 :: z69 :: z70 :: z71 :: z72 :: z73 :: z74 :: z75 :: z76 :: z77 :: z78 :: z79 :: z80 :: z81 :: z82 :: z83 :: z84 :: z85 :: z86 :: z87 :: z88 :: z89 :: z90 :: z91 :: z92 :: u93 :: [])) []) w') :
    Code.wp Try.prog (tailR 9 (Try.f79.body.getD .skip)) Q (Act.mk (List.toArray ((.pointer (some ⟨gq, j * 3, none⟩)) :: (.int .i64 (room : Int)) :: u2 :: u3 :: u4 :: (.slice ao D.length co) :: u6 :: u7 :: u8 :: (.slice (some ⟨br, 0, none⟩) r.n r.c) :: (.int .i64 (t : Int)) :: u11 :: u12 :: u13 :: u14 :: u15 :: u16 :: u17 :: u18 :: u19 :: u20 :: u21 :: u22 :: u23 :: u24 :: u25 :: u26 :: u27 :: u28 :: u29 :: u30 :: u31 :: u32 :: u33 :: u34 :: u35 :: u36 :: u37 :: u38 :: u39 :: u40 :: u41 :: u42 :: u43 :: u44 :: u45 :: u46 :: u47 :: u48 :: u49 :: u50 :: u51 :: u52 :: u53 :: u54 :: u55 :: u56 :: u57 :: u58 :: u59 :: u60 :: u61 :: u62 :: u63 :: u64 :: u65 :: u66 :: u67 :: u68 :: u69 :: u70 :: u71 :: u72 :: u73 :: u74 :: u75 :: u76 :: u77 :: u78 :: u79 :: u80 :: u81 :: u82 :: u83 :: u84 :: u85 :: u86 :: u87 :: u88 :: u89 :: u90 :: u91 :: u92 :: u93 :: [])) []) w := by
  let pq : Exit → Act → World → Prop := bodyPost Try.prog Try.f79 (fun _ _ => True)
  conv => enter [2]; whnf
  have HQ : Hid _ := hQ
  clear hQ
  have hoo := hT.oo
  have hAr := hoo.ro.each r (List.mem_cons_self ..)
  have hrl := hAr.len
  have hln : (r :: rs).length = n' := hoo.ro.len
  have hn1 : 1 ≤ n' := by rw [← hln]; exact Nat.succ_le_succ (Nat.zero_le _)
  have hnc : n' ≤ c' := hoo.ro.max.1
  have hrle := hAr.max.1
  obtain ⟨c0, c1, c2⟩ := hT.cell hj
  have ht1 : 1 ≤ t ∧ g + t ≤ r.n := by omega
  have HT : Hid (t = min (room - D.length) (r.n - g)) := ht
  clear ht
  have hwg : IntKind.i64.wrap ((g : Int) + (t : Int)) = (g : Int) + (t : Int) := wrap_i64_in _ (by omega) (by omega)
  have m1 : ¬ (g : Int) + (t : Int) < (g : Int) := by omega
  have m2 : (g : Int) ≤ (g : Int) + (t : Int) := by omega
  have m3 : (g : Int) + (t : Int) ≤ (r.c : Int) := by omega
  have m4 : ¬ r.c = g := by omega
  have m5 : ¬ (g : Int) + (t : Int) < 0 := by omega
  have m6 : ((g : Int) + (t : Int)).toNat - g = t := by omega
  refine wp_seq_k fun K1 hK1 => ?_
  have HK1 : Hid _ := hK1
  clear hK1
  have SD := grown_drew w none
  have SX : (w.drew).cell? ⟨gq, j * 3 + 2, none⟩ = some (.int .i64 (g : Int)) := c2
  refine wp_regionL (fun wz => wz.cell? ⟨gq, j * 3 + 2, none⟩ = some (.int .i64 (g : Int))) [] #[false, false, false, false, false, false, false, false, false, false, false, false, false, false, false] rfl (by kernel_rfl) ?_
  refine wpAnyZ_take [] 0 (.slice ao D.length co) rfl (by kernel_rfl) (fun c a w h => hP c _ _ w (by rfl) h) SX rfl (by intro wz hz; go_simp) ?_
  try simp only [List.getElem_toArray, List.getElem_cons_succ, List.getElem_cons_zero, Act.put, List.setIfInBounds_toArray, List.set_cons_zero, List.set_cons_succ]
  refine wpAnyZ_take [] 1 (.slice (some ⟨br, 0, none⟩) r.n r.c) rfl (by kernel_rfl) (fun c a w h => hP c _ _ w (by rfl) h) SX rfl (by intro wz hz; go_simp) ?_
  try simp only [List.getElem_toArray, List.getElem_cons_succ, List.getElem_cons_zero, Act.put, List.setIfInBounds_toArray, List.set_cons_zero, List.set_cons_succ]
  refine wpAnyZ_take [] 2 (.pointer (some ⟨gq, j * 3, none⟩)) rfl (by kernel_rfl) (fun c a w h => hP c _ _ w (by rfl) h) SX rfl (by intro wz hz; go_simp) ?_
  try simp only [List.getElem_toArray, List.getElem_cons_succ, List.getElem_cons_zero, Act.put, List.setIfInBounds_toArray, List.set_cons_zero, List.set_cons_succ]
  refine wpAnyZ_take [] 3 (.pointer (some ⟨gq, j * 3, none⟩)) rfl (by kernel_rfl) (fun c a w h => hP c _ _ w (by rfl) h) SX rfl (by intro wz hz; go_simp) ?_
  try simp only [List.getElem_toArray, List.getElem_cons_succ, List.getElem_cons_zero, Act.put, List.setIfInBounds_toArray, List.set_cons_zero, List.set_cons_succ]
  refine wpAnyZ_take [] 4 (.pointer (some ⟨gq, j * 3 + 2, none⟩)) rfl (by kernel_rfl) (fun c a w h => hP c _ _ w (by rfl) h) SX rfl (by intro wz hz; go_simp) ?_
  try simp only [List.getElem_toArray, List.getElem_cons_succ, List.getElem_cons_zero, Act.put, List.setIfInBounds_toArray, List.set_cons_zero, List.set_cons_succ]
  refine wpAnyZ_take [] 5 (.int .i64 (g : Int)) rfl (by kernel_rfl) (fun c a w h => hP c _ _ w (by rfl) h) SX rfl (by intro wz hz; go_simp) ?_
  try simp only [List.getElem_toArray, List.getElem_cons_succ, List.getElem_cons_zero, Act.put, List.setIfInBounds_toArray, List.set_cons_zero, List.set_cons_succ]
  refine wpAnyZ_take [] 6 (.pointer (some ⟨gq, j * 3, none⟩)) rfl (by kernel_rfl) (fun c a w h => hP c _ _ w (by rfl) h) SX rfl (by intro wz hz; go_simp) ?_
  try simp only [List.getElem_toArray, List.getElem_cons_succ, List.getElem_cons_zero, Act.put, List.setIfInBounds_toArray, List.set_cons_zero, List.set_cons_succ]
  refine wpAnyZ_take [] 7 (.pointer (some ⟨gq, j * 3, none⟩)) rfl (by kernel_rfl) (fun c a w h => hP c _ _ w (by rfl) h) SX rfl (by intro wz hz; go_simp) ?_
  try simp only [List.getElem_toArray, List.getElem_cons_succ, List.getElem_cons_zero, Act.put, List.setIfInBounds_toArray, List.set_cons_zero, List.set_cons_succ]
  refine wpAnyZ_take [] 8 (.pointer (some ⟨gq, j * 3 + 2, none⟩)) rfl (by kernel_rfl) (fun c a w h => hP c _ _ w (by rfl) h) SX rfl (by intro wz hz; go_simp) ?_
  try simp only [List.getElem_toArray, List.getElem_cons_succ, List.getElem_cons_zero, Act.put, List.setIfInBounds_toArray, List.set_cons_zero, List.set_cons_succ]
  refine wpAnyZ_take [] 9 (.int .i64 (g : Int)) rfl (by kernel_rfl) (fun c a w h => hP c _ _ w (by rfl) h) SX rfl (by intro wz hz; go_simp) ?_
  try simp only [List.getElem_toArray, List.getElem_cons_succ, List.getElem_cons_zero, Act.put, List.setIfInBounds_toArray, List.set_cons_zero, List.set_cons_succ]
  refine wpAnyZ_take [] 10 (.int .i64 (t : Int)) rfl (by kernel_rfl) (fun c a w h => hP c _ _ w (by rfl) h) SX rfl (by intro wz hz; go_simp) ?_
  try simp only [List.getElem_toArray, List.getElem_cons_succ, List.getElem_cons_zero, Act.put, List.setIfInBounds_toArray, List.set_cons_zero, List.set_cons_succ]
  refine wpAnyZ_take [] 11 (.int .i64 ((g : Int) + (t : Int))) rfl (by kernel_rfl) (fun c a w h => hP c _ _ w (by rfl) h) SX rfl (by intro wz hz; go_simp) ?_
  try simp only [List.getElem_toArray, List.getElem_cons_succ, List.getElem_cons_zero, Act.put, List.setIfInBounds_toArray, List.set_cons_zero, List.set_cons_succ]
  refine wpAnyZ_take [] 12 (.slice (some ⟨br, g, none⟩) t (r.c - g)) rfl (by kernel_rfl) (fun c a w h => hP c _ _ w (by rfl) h) SX rfl (by intro wz hz; go_simp) ?_
  try simp only [List.getElem_toArray, List.getElem_cons_succ, List.getElem_cons_zero, Act.put, List.setIfInBounds_toArray, List.set_cons_zero, List.set_cons_succ]
  have hT4 := hT.keep SD
  have hA4 := hA.keep SD
  have z4 := SD.size
  clear c0 c1 c2
  generalize w.drew = w4 at *
  have hAr4 := hT4.oo.ro.each r (List.mem_cons_self ..)
  have hrd4 := hAr4.rd
  rw [hra] at hrd4
  have hpart := hrd4.part2 g t (by omega)
  rw [Nat.zero_add] at hpart
  have hwb := hT4.fz.size
  refine wpAnyZ_oneB 13 rfl (by kernel_rfl) (fun K hK' => ?_)
  refine step_joinY rfl _ _ rfl ao D.length co wb.heap.size D rfl hA4 hwb (some ⟨br, g, none⟩) t (r.c - g) _ rfl hpart (by omega) (by have := hK.len; omega) ?_
  intro gx c5 w5 hA5 u5 hgx
  have hT5 := hT4.bytes hA4 (Nat.le_refl _) hap u5
  obtain ⟨c0, c1, c2⟩ := hT5.cell hj
  have SX5 : w5.cell? ⟨gq, j * 3 + 2, none⟩ = some (.int .i64 (g : Int)) := c2
  refine hK' _ _ (fun _ => SX5) ?_
  try simp only [List.getElem_toArray, List.getElem_cons_succ, List.getElem_cons_zero, Act.put, List.setIfInBounds_toArray, List.set_cons_zero, List.set_cons_succ]
  refine wpAnyZ_take [] 14 (.slice (some ⟨gx, 0, none⟩) (D.length + t) c5) rfl (by kernel_rfl) (fun c a w h => hP c _ _ w (by rfl) h) SX5 rfl (by intro wz hz; go_simp) ?_
  try simp only [List.getElem_toArray, List.getElem_cons_succ, List.getElem_cons_zero, Act.put, List.setIfInBounds_toArray, List.set_cons_zero, List.set_cons_succ]
  refine wpAnyZ_doneB (by kernel_rfl) ?_ _
  have hll : (D ++ (r.D.drop g).take t).length = D.length + t := by rw [List.length_append, List.length_take, List.length_drop]; omega
  rw [← hll] at hA5 ⊢
  obtain ⟨D', hD'⟩ : ∃ D', D ++ (r.D.drop g).take t = D' := ⟨_, rfl⟩
  rw [hD'] at hA5 hll ⊢
  have HD : Hid (D ++ (r.D.drop g).take t = D') := hD'
  have HLL : Hid (D'.length = D.length + t) := hll
  clear hD' hll
  have hap5 : ∀ x, Ofo (some ⟨gp, op, none⟩) (r :: rs) x → (Value.slice (some ⟨gx, 0, none⟩) D'.length c5).ownBlock ≠ some x := fun x hx e => by
    have e : gx = x := Option.some.inj e
    rcases hgx with h1 | h1
    · exact hap x hx (by rw [← e]; exact h1)
    · have := (hT4.oo.lh hx).1; omega
  refine HK1.out _ _ ?_
  clear HK1
  refine wp_seq_k fun K2 hK2 => ?_
  have HK2 : Hid _ := hK2
  clear hK2
  have s0 : True := trivial
  have hbl := hT5.bl
  go_wp2_with (have _t := s0; clear s0; refine wpList_stT _ rfl _ _ _ rfl hT5 hj 2 (by decide) (.int .i64 ((g : Int) + (t : Int))) ⟨q.ow, some ⟨gp, op, none⟩, n', c', (g : Int) + (t : Int), r :: rs⟩ rfl rfl (stc_int _ _ _) rfl hT5.oo hbl ?_; intro w6 hT6 u6)
  have hA6 : Ans w6 wb.heap.size (some ⟨gx, 0, none⟩) D'.length c5 D' := hA5.fz (Fz.of1 u6) (fun x e e2 => by
    have e2 : x = gq := e2
    subst e2
    obtain ⟨cs, hcs⟩ := hT5.rowbx
    exact hA5.apart hcs (by decide) e)
  clear c0 c1 c2 SX5
  obtain ⟨c0, c1, c2⟩ := hT6.cell hj
  have c2 : w6.cell? ⟨gq, j * 3 + 2, none⟩ = some (.int .i64 ((g : Int) + (t : Int))) := c2
  have c1 : w6.cell? ⟨gq, j * 3 + 1, none⟩ = some (.slice (some ⟨gp, op, none⟩) n' c') := c1
  refine HK2.out _ _ ?_
  clear HK2
  by_cases hx : g + t = r.n
  · have hx' : ((g : Int) + (t : Int) == (r.n : Int)) = true := by simp; omega
    have HX : Hid (g + t = r.n) := hx
    clear hx
    have k1 : ¬ (n' : Int) < 1 := by omega
    have k2 : (1 : Int) ≤ (n' : Int) := by omega
    have hbl6 := hT6.bl
    have hot := hT6.oo.tail
    have s0 : True := trivial
    go_wp2_with (first
      | (have _t := s0; clear s0; refine wpList_stT _ rfl _ _ _ rfl hT6 hj 1 (by decide) (.slice (if c' = 1 then some ⟨gp, op, none⟩ else some ⟨gp, op + 1, none⟩) (n' - 1) (c' - 1)) ⟨q.ow, (if c' = 1 then some ⟨gp, op, none⟩ else some ⟨gp, op + 1, none⟩), n' - 1, c' - 1, (g : Int) + (t : Int), rs⟩ rfl rfl (stc_rows _ _ _ _ _) rfl hot (fun x hx => hbl6 x (ofo_tail hx)) ?_; intro w7 hT7 u7; have s1 : True := trivial)
      | (have _t := s1; clear s1; refine wpList_stT _ rfl _ _ _ rfl hT7 hj 2 (by decide) (.int .i64 0) ⟨q.ow, (if c' = 1 then some ⟨gp, op, none⟩ else some ⟨gp, op + 1, none⟩), n' - 1, c' - 1, 0, rs⟩ rfl rfl (stc_int _ _ _) rfl hT7.oo (fun x hx => hbl6 x (ofo_tail hx)) ?_; intro w8 hT8 u8))
    all_goals (
      have hA8 := hT7.ansK (hT6.ansK hA6 u7) u8
      have htt := HT.out
      have hxx := HX.out
      have e : D ++ r.D.drop g = D' := by rw [← HD.out, List.take_of_length_le (by rw [List.length_drop]; omega)]
      have hTK := hK.all hDl (show r.D.length - g ≤ room - D.length by omega)
      rw [e] at hTK
      exact HQ.out _ _ _ _ _ _ _ _ _ _ _ _ _ _ _ _ _ _ _ _ _ _ _ _ _ _ _ _ _ _ _ _ _ _ _ _ _ _ _ _ w8 _ c5 D' _ 0 (by have := HLL.out; omega) hT8 rfl rfl hA8 hTK (fun x hx => hap5 x (ofo_tail hx)))
  · have hx' : ((g : Int) + (t : Int) == (r.n : Int)) = false := by simp; omega
    have HX : Hid (¬ g + t = r.n) := hx
    clear hx
    go_wp2
    have htt := HT.out
    have hxx := HX.out
    have et : t = room - D.length := by omega
    have hTK := hK.part hDl (show ¬ r.D.length - g ≤ room - D.length by omega)
    have e : D ++ (r.D.drop g).take (room - D.length) = D' := by rw [← HD.out, et]
    rw [e, ← et] at hTK
    exact HQ.out _ _ _ _ _ _ _ _ _ _ _ _ _ _ _ _ _ _ _ _ _ _ _ _ _ _ _ _ _ _ _ _ _ _ _ _ _ _ _ _ w6 _ c5 D' _ (g + t) (by have := HLL.out; omega) hT6 (by show (g : Int) + (t : Int) = ((g + t : Nat) : Int); omega) rfl hA6 hTK hap5

set_option maxHeartbeats 32000000 in
theorem td_t7 {u2 u3 u4 u7 u8 u9 u10 u11 u12 u13 u14 u15 u16 u17 u18 u19 u20 u21 u22 u23 u24 u25 u26 u27 u28 u29 u30 u31 u32 u33 u34 u35 u36 u37 u38 u39 u40 u41 u42 u43 u44 u45 u46 u47 u48 u49 u50 u51 u52 u53 u54 u55 u56 u57 u58 u59 u60 u61 u62 u63 u64 u65 u66 u67 u68 u69 u70 u71 u72 u73 u74 u75 u76 u77 u78 u79 u80 u81 u82 u83 u84 u85 u86 u87 u88 u89 u90 u91 u92 u93 : Value} (Q : Exit → Act → World → Prop) (wb w : World) (lo gq n c j room m : Nat) (qs : List Qw) (q q' : Qw) (ao : Option Addr) (co : Nat) (D : List Nat) (g : Nat) (TB : List Nat) (TP : List (List Nat)) (TG : Nat) (hj : j < qs.length) (hT : TD wb w lo gq n c j qs q q') (hgo : q'.go = (g : Int)) (how : q'.ow = q.ow) (hA : Ans w wb.heap.size ao D.length co D) (hroom : room ≤ 60000) (hm : room - D.length = m) (hDl : D.length < room) (hK : TK room TB TP TG D (q'.rs.map Rw.D) g) (hap : ∀ x, Ofo q'.a q'.rs x → (Value.slice ao D.length co).ownBlock ≠ some x) (hP : ∀ c a a' wz, a.defers = a'.defers → Q (.panic c) a wz → Q (.panic c) a' wz) (hne : q'.rs ≠ []) (hQ : ∀ (z9 z10 z38 z39 z40 z41 z42 z43 z44 z45 z46 z47 z48 z49 z50 z51 z52 z53 z54 z55 z56 z57 z58 z59 z60 z61 z62 z63 z64 z65 z66 z67 z68 z69 z70 z71 z72 z73 z74 z75 z76 z77 z78 z79 z80 z81 z82 z83 z84 z85 z86 z87 z88 z89 z90 z91 z92 : Value) (w' : World) (ao' : Option Addr) (co' : Nat) (D' : List Nat) (q2 : Qw) (g2 : Nat), D.length < D'.length → TD wb w' lo gq n c j qs q q2 → q2.go = (g2 : Int) → q2.ow = q.ow → Ans w' wb.heap.size ao' D'.length co' D' → TK room TB TP TG D' (q2.rs.map Rw.D) g2 → (∀ x, Ofo q2.a q2.rs x → (Value.slice ao' D'.length co').ownBlock ≠ some x) → Q .normal (Act.mk (List.toArray ((.pointer (some ⟨gq, j * 3, none⟩)) :: (.int .i64 (room : Int)) :: u2 :: u3 :: u4 :: (.slice ao' D'.length co') :: (.int .i64 (m : Int)) :: u7 :: u8 :: z9 :: z10 :: u11 :: u12 :: u13 :: u14 :: u15 :: u16 :: u17 :: u18 :: u19 :: u20 :: u21 :: u22 :: u23 :: u24 :: u25 :: u26 :: u27 :: u28 :: u29 :: u30 :: u31 :: u32 :: u33 :: u34 :: u35 :: u36 :: u37 :: z38 :: z39 :: z40 :: z41 :: z42 :: z43 :: z44 :: z45 :: z46 :: z47 :: z48 :: z49 :: z50 :: z51 :: z52 :: z53 :: z54 :: z55 :: z56 :: z57 :: z58 :: z59 :: z60 :: z61 :: z62 :: z63 :: z64 :: z65 :: z66 :: z67 :: z68 :: z69 :: z70 :: z71 :: z72 :: z73 :: z74 :: z75 :: z76 :: z77 :: z78 :: z79 :: z80 :: z81 :: z82 :: z83 :: z84 :: z85 :: z86 :: z87 :: z88 :: z89 :: z90 :: z91 :: z92 :: u93 :: [])) []) w') :
    Code.wp Try.prog (tailR 7 (Try.f79.body.getD .skip)) Q (Act.mk (List.toArray ((.pointer (some ⟨gq, j * 3, none⟩)) :: (.int .i64 (room : Int)) :: u2 :: u3 :: u4 :: (.slice ao D.length co) :: (.int .i64 (m : Int)) :: u7 :: u8 :: u9 :: u10 :: u11 :: u12 :: u13 :: u14 :: u15 :: u16 :: u17 :: u18 :: u19 :: u20 :: u21 :: u22 :: u23 :: u24 :: u25 :: u26 :: u27 :: u28 :: u29 :: u30 :: u31 :: u32 :: u33 :: u34 :: u35 :: u36 :: u37 :: u38 :: u39 :: u40 :: u41 :: u42 :: u43 :: u44 :: u45 :: u46 :: u47 :: u48 :: u49 :: u50 :: u51 :: u52 :: u53 :: u54 :: u55 :: u56 :: u57 :: u58 :: u59 :: u60 :: u61 :: u62 :: u63 :: u64 :: u65 :: u66 :: u67 :: u68 :: u69 :: u70 :: u71 :: u72 :: u73 :: u74 :: u75 :: u76 :: u77 :: u78 :: u79 :: u80 :: u81 :: u82 :: u83 :: u84 :: u85 :: u86 :: u87 :: u88 :: u89 :: u90 :: u91 :: u92 :: u93 :: [])) []) w := by
  let pq : Exit → Act → World → Prop := bodyPost Try.prog Try.f79 (fun _ _ => True)
  conv => enter [2]; whnf
  have HQ : Hid _ := hQ
  clear hQ
  obtain ⟨ow', a', n', c', go', rs'⟩ := q'
  have hgo : go' = (g : Int) := hgo
  subst hgo
  have how : ow' = q.ow := how
  subst how
  obtain ⟨r, rs, rfl⟩ : ∃ r rs, rs' = r :: rs := by
    cases rs' with
    | nil => exact absurd rfl hne
    | cons r rs => exact ⟨r, rs, rfl⟩
  have hoo := hT.oo
  have hln : (r :: rs).length = n' := hoo.ro.len
  have hn1 : 1 ≤ n' := by rw [← hln]; exact Nat.succ_le_succ (Nat.zero_le _)
  have hn1' : (0 : Int) < (n' : Int) := by omega
  obtain ⟨gp, op, rfl, hcell⟩ : ∃ gp op, a' = some ⟨gp, op, none⟩ ∧ ∀ wz : World, OwO wz lo a' n' c' (r :: rs) → wz.cell? ⟨gp, op, none⟩ = some (.slice r.a r.n r.c) := by
    rcases hoo.ro.at' with ⟨_, h0, _⟩ | ⟨g, o, cur, e, _⟩
    · have h0 : n' = 0 := h0
      omega
    · refine ⟨g, o, e, fun wz hz => ?_⟩
      obtain ⟨_, _, ee, _, hc⟩ := hz.ro.rdr.at' (by omega)
      have e : a' = some ⟨g, o, none⟩ := e
      rw [e] at ee
      cases ee
      exact hc 0 (by omega)
  have hAr := hoo.ro.each r (List.mem_cons_self ..)
  have hrl := hAr.len
  have hg : g < r.n := by have := hK.go r.D rfl; omega
  have hrn : r.n ≤ 100000 := by have := (hK.ne r.D (List.mem_cons_self ..)).2; omega
  obtain ⟨br, hra⟩ : ∃ br, r.a = some ⟨br, 0, none⟩ := by
    rcases hAr.cases with ⟨_, h0, _⟩ | ⟨x, e, _⟩
    · omega
    · exact ⟨x, e⟩
  obtain ⟨c0, c1, c2⟩ := hT.cell hj
  have cr := hcell w hoo
  rw [hra] at cr
  obtain ⟨d, hd⟩ : ∃ d, r.n - g = d := ⟨_, rfl⟩
  have hwl : IntKind.i64.wrap ((r.n : Int) - (g : Int)) = (d : Int) := by rw [show (r.n : Int) - (g : Int) = (d : Int) by omega]; exact wrap_i64_in _ (by omega) (by omega)
  have HM : Hid (room - D.length = m) := hm
  have HDd : Hid (r.n - g = d) := hd
  clear hm hd
  refine wp_seq_k fun K1 hK1 => ?_
  have HK1 : Hid _ := hK1
  clear hK1
  go_wp2
  refine HK1.out _ _ ?_
  clear HK1
  refine wp_seq_k fun K2 hK2 => ?_
  have HK2 : Hid _ := hK2
  clear hK2
  by_cases hle : m ≤ d
  · have hle' : (m : Int) ≤ (d : Int) := by omega
    go_wp2
    have hm := HM.out
    have hd := HDd.out
    refine HK2.out _ _ ?_
    clear HK2
    refine td_t9 Q wb w lo gq n c j room m gp op n' c' br qs q r rs ao co D g TB TP TG hj hT hA hroom hDl hK hap hra hg hrn (by omega) hP ?_
    intro z53 z54 z55 z56 z57 z58 z59 z60 z61 z62 z63 z64 z65 z66 z67 z68 z69 z70 z71 z72 z73 z74 z75 z76 z77 z78 z79 z80 z81 z82 z83 z84 z85 z86 z87 z88 z89 z90 z91 z92 w' ao' co' D' q2 g2 hl' h1 h2 h3 h4 h5 h6
    exact HQ.out _ _ _ _ _ _ _ _ _ _ _ _ _ _ _ _ _ _ _ _ _ _ _ _ _ _ _ _ _ _ _ _ _ _ _ _ _ _ _ _ _ _ _ _ _ _ _ _ _ _ _ _ _ _ _ _ _ w' ao' co' D' q2 g2 hl' h1 h2 h3 h4 h5 h6
  · have hle' : ¬ (m : Int) ≤ (d : Int) := by omega
    go_wp2
    have hm := HM.out
    have hd := HDd.out
    refine HK2.out _ _ ?_
    clear HK2
    refine td_t9 Q wb w lo gq n c j room d gp op n' c' br qs q r rs ao co D g TB TP TG hj hT hA hroom hDl hK hap hra hg hrn (by omega) hP ?_
    intro z53 z54 z55 z56 z57 z58 z59 z60 z61 z62 z63 z64 z65 z66 z67 z68 z69 z70 z71 z72 z73 z74 z75 z76 z77 z78 z79 z80 z81 z82 z83 z84 z85 z86 z87 z88 z89 z90 z91 z92 w' ao' co' D' q2 g2 hl' h1 h2 h3 h4 h5 h6
    exact HQ.out _ _ _ _ _ _ _ _ _ _ _ _ _ _ _ _ _ _ _ _ _ _ _ _ _ _ _ _ _ _ _ _ _ _ _ _ _ _ _ _ _ _ _ _ _ _ _ _ _ _ _ _ _ _ _ _ _ w' ao' co' D' q2 g2 hl' h1 h2 h3 h4 h5 h6

theorem fill_new {w wr w5 : World} {a5 : Option Addr} {n5 c5 : Nat} {FB : List Nat} (hA5 : Ans w5 wr.heap.size a5 n5 c5 FB) (h1 : w.heap.size ≤ wr.heap.size) (h2 : wr.heap.size ≤ w5.heap.size) {x : Nat} (hx : Ofo (some ⟨w5.heap.size, 0, none⟩) [⟨a5, n5, c5, FB⟩] x) : w.heap.size ≤ x := by
  rcases hx with ⟨o, s, e⟩ | ⟨r, hr, e⟩
  · cases e; omega
  · rw [List.mem_singleton.1 hr] at e
    have := hA5.new x e
    omega
def slN : Value → Nat
  | .slice _ n _ => n
  | _ => 0
set_option maxHeartbeats 32000000 in
theorem takeData_any (w : World) (lo gq n c j room g : Nat) (qs : List Qw) (q : Qw) (hj : qs[j]? = some q) (hrow : w.ownsRow 0 83 3 (.slice (some ⟨gq, 0, none⟩) n c) n (flQ qs)) (hoo : OwO w lo q.a q.n q.c q.rs) (hlo : lo ≤ w.heap.size) (hgo : q.go = (g : Int)) (hr1 : 1 ≤ room ∧ room ≤ 60000) (TB : List Nat) (TP : List (List Nat)) (TG : Nat) (hK : TK room TB TP TG [] (q.rs.map Rw.D) g) :
    Calls Try.prog 79 #[.pointer (some ⟨gq, j * 3, none⟩), .int .i64 (room : Int)] w fun e w' => ∃ (ya : Option Addr) (yc : Nat) (q2 : Qw), e = .returned (.slice ya room yc) ∧ Ans w' w.heap.size ya room yc TB ∧ TD w w' lo gq n c j qs q q2 ∧ q2.ow = q.ow ∧ q2.go = (TG : Int) ∧ q2.rs.map Rw.D = TP ∧ (∀ x, Ofo q2.a q2.rs x → (Value.slice ya room yc).ownBlock ≠ some x) := by
  have hjl := (List.getElem?_eq_some_iff.1 hj).1
  have hset : qs.set j q = qs := by
    obtain ⟨h1, h2⟩ := List.getElem?_eq_some_iff.1 hj
    rw [← h2]; exact List.set_getElem_self h1
  have hT0 : TD w w lo gq n c j qs q q := ⟨by rw [hset]; exact hrow, hoo, Fz.refl _ _, fun x hx => .inl hx⟩
  obtain ⟨i0, hi, hz0, hz1, hz2⟩ := info_parts Try.info_u8
  go_enter Try.func79, Try.ntmps79
  refine wp_seq_k fun K0 hK0 => ?_
  have HK0 : Hid _ := hK0
  clear hK0
  go_wp2
  refine HK0.out _ _ ?_
  clear HK0
  refine wp_seq_k fun K1 hK1 => ?_
  have HK1 : Hid _ := hK1
  clear hK1
  have s0 : True := trivial
  go_wp2_with (at_make; have _t := s0; clear s0; refine wpList_make_own _ rfl _ _ 22 rfl w.heap.size 5 i0 (.int .u8 0) 1 Try.underlying22 hi hz0 hz1 .i64 .i64 (room : Int) room rfl rfl rfl (by rw [hz2]; omega) (by unfold maxLen; omega) (Nat.le_refl _) ?_; intro w1 hown1 g1)
  have hA1 := own_nil w1 w.heap.size _ _ hown1 (Nat.le_refl _)
  have hT1 := hT0.keep g1
  refine HK1.out _ _ ?_
  clear HK1
  refine wp_seq_k fun K2 hK2 => ?_
  have HK2 : Hid _ := hK2
  clear hK2
  go_wp2
  go_loopw [5] (fun ov wr => ∃ (ao : Option Addr) (co : Nat) (D : List Nat) (q' : Qw) (g' : Nat), ov = .slice ao D.length co ∧ TD w wr lo gq n c j qs q q' ∧ q'.go = (g' : Int) ∧ q'.ow = q.ow ∧ Ans wr w.heap.size ao D.length co D ∧ TK room TB TP TG D (q'.rs.map Rw.D) g' ∧ (∀ x, Ofo q'.a q'.rs x → (Value.slice ao D.length co).ownBlock ≠ some x)) (fun ov _ => room - slN ov)
  case atStart => exact ⟨_, _, [], q, g, rfl, hT1, hgo, rfl, hA1, hK, fun x hx e => by have := (hoo.lh hx).1; have e : w.heap.size = x := Option.some.inj e; omega⟩
  case round =>
    clear hT0 hT1 hA1 hK
    obtain ⟨ao, co, D, q', g', rfl, hT, hgo', how', hA, hK, hap⟩ := hrel
    have hDle := hK.len
    by_cases hlt : D.length < room
    · have hlt' : (D.length : Int) < (room : Int) := by omega
      obtain ⟨m, hm⟩ : ∃ m, room - D.length = m := ⟨_, rfl⟩
      have hwm : IntKind.i64.wrap ((room : Int) - (D.length : Int)) = (m : Int) := by rw [show (room : Int) - (D.length : Int) = (m : Int) by omega]; exact wrap_i64_in _ (by omega) (by omega)
      have HM : Hid (room - D.length = m) := hm
      have hm1 : 1 ≤ m ∧ m ≤ 60000 := by omega
      clear hm
      refine wp_seq_k fun K3 hK3 => ?_
      have HK3 : Hid _ := hK3
      clear hK3
      go_wp2
      refine HK3.out _ _ ?_
      clear HK3
      refine wp_block ?_
      refine wp_seq_k fun K4 hK4 => ?_
      have HK4 : Hid _ := hK4
      clear hK4
      go_wp2
      refine HK4.out _ _ ?_
      clear HK4
      obtain ⟨c0, c1, c2⟩ := hT.cell hjl
      have hqn := hT.oo.ro.len
      have HGO : Hid (q'.go = (g' : Int)) := hgo'
      have HOW : Hid (q'.ow = q.ow) := how'
      clear hgo' how'
      refine wp_seq_k fun K5 hK5 => ?_
      have HK5 : Hid _ := hK5
      clear hK5
      by_cases h0 : q'.n = 0
      · have hrs0 : q'.rs = [] := List.eq_nil_of_length_eq_zero (by omega)
        have h0' : ((q'.n : Int) == 0) = true := by rw [h0]; rfl
        rw [hrs0] at hK
        obtain ⟨hg0, hKf⟩ := hK.fill hlt (by omega)
        have HG0 : Hid (g' = 0) := hg0
        have HH : Hid (q'.n = 0) := h0
        clear h0 hqn hg0
        have hways : ∃ mx : Nat, max m 7 = mx ∧ ((mx = 7 ∧ m < 7) ∨ (mx = m ∧ 7 < m) ∨ (m = 7 ∧ mx = 7)) := ⟨max m 7, rfl, by omega⟩
        obtain ⟨mx, hmx, hways⟩ := hways
        have hkF := fun wz => fill_any (mx : Int) wz
        have hE0 : filE (mx : Int) = 0 := by unfold filE; rw [if_pos (by omega)]
        have hFl : (filL (mx : Int)).length = mx := by have := nxF_len m hm1.2; unfold nxF at this; rw [hmx] at this; exact this
        have hKf : TK room TB TP TG D [filL (mx : Int)] 0 := by have h := hKf; rw [HM.out] at h; unfold nxF at h; rw [hmx] at h; exact h
        rw [hE0] at hkF
        clear hE0 hmx
        generalize filL (mx : Int) = FB at *
        have HFl : Hid (FB.length = mx) := hFl
        clear hFl
        rcases hways with ⟨rfl, hw1⟩ | ⟨rfl, hw1⟩ | ⟨rfl, rfl⟩
        · have k1 : (m : Int) ≤ 7 := by omega
          have k2 : ¬ (7 : Int) ≤ (m : Int) := by omega
          have k3 : (m : Int) < 7 := by omega
          have s0 : True := trivial
          go_wp2_with (first
            | (go_at_call 89; have _t := s0; clear s0; refine (hkF _).mono ?_; rintro e w5 ⟨a5, n5, c5, rfl, hA5, y5⟩; have z5 := y5.size; clear c0 c1 c2; have hT5 := hT.keep y5; have gA := World.grownBy_alloc w5 (.cells #[.slice a5 n5 c5] 22) none; have hT6 := hT5.keep gA; have hwz := hT.fz.size; have hon := OwO.one (r := ⟨a5, n5, c5, FB⟩) (hA5.wide (show lo ≤ wr.heap.size by omega)) (show lo ≤ w5.heap.size by omega); have s1 : True := trivial)
            | (have _t := s1; clear s1; refine wpList_stT _ rfl _ _ _ rfl hT6 hjl 1 (by decide) (.slice (some ⟨w5.heap.size, 0, none⟩) 1 1) ⟨q'.ow, some ⟨w5.heap.size, 0, none⟩, 1, 1, q'.go, [⟨a5, n5, c5, FB⟩]⟩ rfl rfl (stc_rows _ _ _ _ _) rfl hon (fun x hx => .inr ?_) ?_; exact fill_new hA5 hwz z5 hx; intro w7 hT7 u7))
          have hA7 := hT6.ansK ((hA.keep y5).keep gA) u7
          have hn5 := hA5.len
          refine HK5.out _ _ ?_
          clear HK5
          refine td_t7 _ w w7 lo gq n c j room _ qs q _ ao co D 0 TB TP TG hjl hT7 (by show q'.go = _; rw [HGO.out, HG0.out]) HOW.out hA7 hr1.2 HM.out hlt hKf (fun x hx e => ?_) (fun c a a' wz e h => by cases a; cases a'; cases e; exact h) (fun e => by cases e) ?_
          · have h1 := fill_new hA5 (Nat.le_refl wr.heap.size) z5 hx
            have h2 := hA.ltB e
            omega
          · intro z9 z10 z38 z39 z40 z41 z42 z43 z44 z45 z46 z47 z48 z49 z50 z51 z52 z53 z54 z55 z56 z57 z58 z59 z60 z61 z62 z63 z64 z65 z66 z67 z68 z69 z70 z71 z72 z73 z74 z75 z76 z77 z78 z79 z80 z81 z82 z83 z84 z85 z86 z87 z88 z89 z90 z91 z92 w' ao' co' D' q2 g2 hl' h1 h2 h3 h4 h5 h6
            simp only [Exit.inBlock, Exit.then]
            refine ⟨?_, ?_⟩
            · repeat apply Exists.intro
              refine ⟨?_, rfl⟩
              exact ⟨ao', co', D', q2, g2, rfl, h1, h2, h3, h4, h5, h6⟩
            · have := h5.len
              show room - D'.length < room - D.length
              omega
        · have k1 : ¬ (mx : Int) ≤ 7 := by omega
          have k2 : (7 : Int) ≤ (mx : Int) := by omega
          have k3 : ¬ (mx : Int) < 7 := by omega
          have s0 : True := trivial
          go_wp2_with (first
            | (go_at_call 89; have _t := s0; clear s0; refine (hkF _).mono ?_; rintro e w5 ⟨a5, n5, c5, rfl, hA5, y5⟩; have z5 := y5.size; clear c0 c1 c2; have hT5 := hT.keep y5; have gA := World.grownBy_alloc w5 (.cells #[.slice a5 n5 c5] 22) none; have hT6 := hT5.keep gA; have hwz := hT.fz.size; have hon := OwO.one (r := ⟨a5, n5, c5, FB⟩) (hA5.wide (show lo ≤ wr.heap.size by omega)) (show lo ≤ w5.heap.size by omega); have s1 : True := trivial)
            | (have _t := s1; clear s1; refine wpList_stT _ rfl _ _ _ rfl hT6 hjl 1 (by decide) (.slice (some ⟨w5.heap.size, 0, none⟩) 1 1) ⟨q'.ow, some ⟨w5.heap.size, 0, none⟩, 1, 1, q'.go, [⟨a5, n5, c5, FB⟩]⟩ rfl rfl (stc_rows _ _ _ _ _) rfl hon (fun x hx => .inr ?_) ?_; exact fill_new hA5 hwz z5 hx; intro w7 hT7 u7))
          have hA7 := hT6.ansK ((hA.keep y5).keep gA) u7
          have hn5 := hA5.len
          refine HK5.out _ _ ?_
          clear HK5
          refine td_t7 _ w w7 lo gq n c j room _ qs q _ ao co D 0 TB TP TG hjl hT7 (by show q'.go = _; rw [HGO.out, HG0.out]) HOW.out hA7 hr1.2 HM.out hlt hKf (fun x hx e => ?_) (fun c a a' wz e h => by cases a; cases a'; cases e; exact h) (fun e => by cases e) ?_
          · have h1 := fill_new hA5 (Nat.le_refl wr.heap.size) z5 hx
            have h2 := hA.ltB e
            omega
          · intro z9 z10 z38 z39 z40 z41 z42 z43 z44 z45 z46 z47 z48 z49 z50 z51 z52 z53 z54 z55 z56 z57 z58 z59 z60 z61 z62 z63 z64 z65 z66 z67 z68 z69 z70 z71 z72 z73 z74 z75 z76 z77 z78 z79 z80 z81 z82 z83 z84 z85 z86 z87 z88 z89 z90 z91 z92 w' ao' co' D' q2 g2 hl' h1 h2 h3 h4 h5 h6
            simp only [Exit.inBlock, Exit.then]
            refine ⟨?_, ?_⟩
            · repeat apply Exists.intro
              refine ⟨?_, rfl⟩
              exact ⟨ao', co', D', q2, g2, rfl, h1, h2, h3, h4, h5, h6⟩
            · have := h5.len
              show room - D'.length < room - D.length
              omega
        · have s0 : True := trivial
          go_wp2_with (first
            | (go_at_call 89; have _t := s0; clear s0; refine (hkF _).mono ?_; rintro e w5 ⟨a5, n5, c5, rfl, hA5, y5⟩; have z5 := y5.size; clear c0 c1 c2; have hT5 := hT.keep y5; have gA := World.grownBy_alloc w5 (.cells #[.slice a5 n5 c5] 22) none; have hT6 := hT5.keep gA; have hwz := hT.fz.size; have hon := OwO.one (r := ⟨a5, n5, c5, FB⟩) (hA5.wide (show lo ≤ wr.heap.size by omega)) (show lo ≤ w5.heap.size by omega); have s1 : True := trivial)
            | (have _t := s1; clear s1; refine wpList_stT _ rfl _ _ _ rfl hT6 hjl 1 (by decide) (.slice (some ⟨w5.heap.size, 0, none⟩) 1 1) ⟨q'.ow, some ⟨w5.heap.size, 0, none⟩, 1, 1, q'.go, [⟨a5, n5, c5, FB⟩]⟩ rfl rfl (stc_rows _ _ _ _ _) rfl hon (fun x hx => .inr ?_) ?_; exact fill_new hA5 hwz z5 hx; intro w7 hT7 u7))
          have hA7 := hT6.ansK ((hA.keep y5).keep gA) u7
          have hn5 := hA5.len
          refine HK5.out _ _ ?_
          clear HK5
          refine td_t7 _ w w7 lo gq n c j room _ qs q _ ao co D 0 TB TP TG hjl hT7 (by show q'.go = _; rw [HGO.out, HG0.out]) HOW.out hA7 hr1.2 HM.out hlt hKf (fun x hx e => ?_) (fun c a a' wz e h => by cases a; cases a'; cases e; exact h) (fun e => by cases e) ?_
          · have h1 := fill_new hA5 (Nat.le_refl wr.heap.size) z5 hx
            have h2 := hA.ltB e
            omega
          · intro z9 z10 z38 z39 z40 z41 z42 z43 z44 z45 z46 z47 z48 z49 z50 z51 z52 z53 z54 z55 z56 z57 z58 z59 z60 z61 z62 z63 z64 z65 z66 z67 z68 z69 z70 z71 z72 z73 z74 z75 z76 z77 z78 z79 z80 z81 z82 z83 z84 z85 z86 z87 z88 z89 z90 z91 z92 w' ao' co' D' q2 g2 hl' h1 h2 h3 h4 h5 h6
            simp only [Exit.inBlock, Exit.then]
            refine ⟨?_, ?_⟩
            · repeat apply Exists.intro
              refine ⟨?_, rfl⟩
              exact ⟨ao', co', D', q2, g2, rfl, h1, h2, h3, h4, h5, h6⟩
            · have := h5.len
              show room - D'.length < room - D.length
              omega
      · have h0' : ((q'.n : Int) == 0) = false := by simp; omega
        go_wp2
        refine HK5.out _ _ ?_
        clear HK5
        refine td_t7 _ w wr lo gq n c j room m qs q q' ao co D g' TB TP TG hjl hT HGO.out HOW.out hA hr1.2 HM.out hlt hK hap (fun c a a' wz e h => by cases a; cases a'; cases e; exact h) (fun e => by rw [e] at hqn; exact h0 hqn.symm) ?_
        intro z9 z10 z38 z39 z40 z41 z42 z43 z44 z45 z46 z47 z48 z49 z50 z51 z52 z53 z54 z55 z56 z57 z58 z59 z60 z61 z62 z63 z64 z65 z66 z67 z68 z69 z70 z71 z72 z73 z74 z75 z76 z77 z78 z79 z80 z81 z82 z83 z84 z85 z86 z87 z88 z89 z90 z91 z92 w' ao' co' D' q2 g2 hl' h1 h2 h3 h4 h5 h6
        simp only [Exit.inBlock, Exit.then]
        refine ⟨?_, ?_⟩
        · repeat apply Exists.intro
          refine ⟨?_, rfl⟩
          exact ⟨ao', co', D', q2, g2, rfl, h1, h2, h3, h4, h5, h6⟩
        · have := h5.len
          show room - D'.length < room - D.length
          omega
    · have hlt' : ¬ (D.length : Int) < (room : Int) := by omega
      obtain ⟨rfl, e2, e3, e4⟩ := hK.done hlt
      have HE2 : Hid _ := e2
      have HE3 : Hid _ := e3
      have HE4 : Hid _ := e4
      clear e2 e3 e4
      go_wp2
      refine HK2.out _ _ ?_
      clear HK2
      go_wp2
      go_ret
      have e4 := HE4.out
      subst e4
      exact ⟨ao, co, q', rfl, hA, hT, how', by rw [hgo', HE3.out], HE2.out, hap⟩
end Go.Proofs.Ytlmddjkplnbadaa
