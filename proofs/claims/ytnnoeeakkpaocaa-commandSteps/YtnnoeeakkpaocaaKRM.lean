import Derived.Test.YtnnoeeakkpaocaaKSM
import Derived.Test.YtnnoeeakkpaocaaKHa
import Derived.Deep.RegionLawGrows
import Derived.Test.YtnnoeeakkpaocaaKxAp
namespace Go.Proofs.Ytnnoeeakkpaocaa
open Go.RowKit
set_option maxRecDepth 100000
set_option linter.unusedVariables false
set_option linter.unusedSimpArgs false

/-- rows of bytes in a row of the call's own, from some place of it on -/
structure RO (w : World) (lo : Nat) (a : Option Addr) (n c : Nat) (rs : List Rw) : Prop where
  len : rs.length = n
  max : n ≤ c ∧ c ≤ maxLen
  at' : (a = none ∧ n = 0 ∧ c = 0) ∨ ∃ g o cur, a = some ⟨g, o, none⟩ ∧ lo ≤ g ∧ w.heap[g]? = some (.cells cur 22 (0, 0)) ∧ o + c ≤ cur.size ∧ ∀ j u, (flatR rs)[j]? = some u → cur[o + j]? = some u
  each : ∀ r, r ∈ rs → Ans w lo r.a r.n r.c r.D
/-- the block that it lies in -/
def Hb (a : Option Addr) (i : Nat) : Prop := ∃ o s, a = some ⟨i, o, s⟩
theorem RO.of {w : World} {lo : Nat} {a : Option Addr} {n c : Nat} {rs : List Rw} (h : OwR w lo a n c rs) : RO w lo a n c rs := by
  have hx := h.x
  refine ⟨h.len, hx.max, ?_, h.each⟩
  rcases h.own.2 with ⟨h1, h2⟩ | ⟨g, cap', cur, h1, _, h3, _, _, h6, h7⟩
  · simp only [Value.slice.injEq] at h1; exact .inl h1
  · simp only [Value.slice.injEq] at h1
    obtain ⟨rfl, _, rfl⟩ := h1
    refine .inr ⟨g, 0, cur, rfl, h.new g rfl, h3, by omega, fun j u hu => ?_⟩
    rw [Nat.zero_add]
    rw [← h7, List.getElem?_take] at hu
    split at hu
    · simpa using hu
    · cases hu
theorem RO.hlo {w : World} {lo : Nat} {a : Option Addr} {n c : Nat} {rs : List Rw} (h : RO w lo a n c rs) {y : Nat} (hy : Hb a y) : lo ≤ y ∧ y < w.heap.size ∧ ∃ cs, BxS w y 22 cs := by
  obtain ⟨oo, ss, e⟩ := hy
  rcases h.at' with ⟨rfl, _⟩ | ⟨g, o, cur, e', hl, hh, _⟩
  · cases e
  · rw [e'] at e
    cases e
    exact ⟨hl, (Array.getElem?_eq_some_iff.1 hh).1, cur, hh⟩
theorem RO.wide {w : World} {lo lo' : Nat} {a : Option Addr} {n c : Nat} {rs : List Rw} (h : RO w lo a n c rs) (hl : lo' ≤ lo) : RO w lo' a n c rs := by
  refine ⟨h.len, h.max, ?_, fun r hr => (h.each r hr).wide hl⟩
  rcases h.at' with h1 | ⟨g, o, cur, e, hlo, hh, hs, hc⟩
  · exact .inl h1
  · exact .inr ⟨g, o, cur, e, Nat.le_trans hl hlo, hh, hs, hc⟩
/-- it lies as it lay, whatever but bytes and its own row is written -/
theorem RO.kept {w w' : World} {lo : Nat} {a : Option Addr} {n c : Nat} {rs : List Rw} {r : Option Nat} (h : RO w lo a n c rs) (hg : w.grownBy w' r) (h1 : ∀ y, r = some y → ¬ Hb a y) (h2 : ∀ y, r = some y → ∃ t cs, BxS w y t cs ∧ 5 ≠ t) : RO w' lo a n c rs := by
  refine ⟨h.len, h.max, ?_, fun q hq => (h.each q hq).kept hg ?_⟩
  · rcases h.at' with h3 | ⟨g, o, cur, e, hlo, hh, hs, hc⟩
    · exact .inl h3
    · refine .inr ⟨g, o, cur, e, hlo, ?_, hs, hc⟩
      rw [hg.block g (Array.getElem?_eq_some_iff.1 hh).1 (fun e2 => h1 g e2.symm ⟨o, none, e⟩)]
      exact hh
  · cases e : (Value.slice q.a q.n q.c).ownBlock with
    | none => exact .inl rfl
    | some x =>
      refine .inr (fun e2 => ?_)
      obtain ⟨t, cs, hb, ht⟩ := h2 x e2.symm
      exact (h.each q hq).box hb ht e
theorem RO.keep {w w' : World} {lo : Nat} {a : Option Addr} {n c : Nat} {rs : List Rw} (h : RO w lo a n c rs) (hg : w.grownBy w' none) : RO w' lo a n c rs := h.kept hg (fun y e => by cases e) (fun y e => by cases e)
theorem RO.rdr {w : World} {lo : Nat} {a : Option Addr} {n c : Nat} {rs : List Rw} (h : RO w lo a n c rs) : RdR w a n c (fun i => rs.getD i kr0) := by
  have hl := h.len
  refine ⟨h.max.1, h.max.2, fun h0 => ?_, fun i hi => ?_⟩
  · rcases h.at' with h1 | ⟨g, o, cur, e, hlo, hh, hs, hc⟩
    · omega
    · refine ⟨g, o, e, (Array.getElem?_eq_some_iff.1 hh).1, fun i hi => ?_⟩
      rw [cell_of_row _ _ _ _ _ _ hh]
      refine hc i _ ?_
      simp only [flatR, List.getElem?_map]
      rw [List.getD_eq_getElem?_getD, List.getElem?_eq_getElem (by omega)]
      rfl
  · have hm : rs.getD i kr0 ∈ rs := by rw [List.getD_eq_getElem?_getD, List.getElem?_eq_getElem (by omega)]; exact List.getElem_mem _
    exact (h.each _ hm).rd
theorem RO.rd {w : World} {lo : Nat} {a : Option Addr} {n c : Nat} {rs : List Rw} {R : List (List Nat)} (h : RO w lo a n c rs) (hR : rs.map Rw.D = R) : RdW w a n c R := by
  refine ⟨by rw [← hR, List.length_map]; exact h.len, _, h.rdr, fun i hi => ?_⟩
  rw [← hR, getD_map_D rs i (by rw [h.len]; exact hi)]
/-- the first m are left out -/
theorem RO.tail {w : World} {lo g o n c : Nat} {rs : List Rw} (h : RO w lo (some ⟨g, o, none⟩) n c rs) (m : Nat) (hm : m ≤ n) : RO w lo (some ⟨g, o + m, none⟩) (n - m) (c - m) (rs.drop m) := by
  have hl := h.len
  have hx := h.max
  refine ⟨by rw [List.length_drop]; omega, ⟨by omega, by omega⟩, ?_, fun r hr => h.each r (List.mem_of_mem_drop hr)⟩
  rcases h.at' with ⟨e, _⟩ | ⟨g', o', cur, e, hlo, hh, hs, hc⟩
  · cases e
  · cases e
    refine .inr ⟨g, o + m, cur, rfl, hlo, hh, by omega, fun j u hu => ?_⟩
    rw [← flatR_drop, List.getElem?_drop] at hu
    rw [Nat.add_assoc]
    exact hc (m + j) u hu
theorem RO.tail0 {w : World} {lo g o n c : Nat} {rs : List Rw} (h : RO w lo (some ⟨g, o, none⟩) n c rs) (m : Nat) (hm : m ≤ n) (hc : c = m) : RO w lo (some ⟨g, o, none⟩) (n - m) 0 (rs.drop m) := by
  have hl := h.len
  have hx := h.max
  have e : rs.drop m = [] := List.drop_eq_nil_of_le (by omega)
  rw [e]
  refine ⟨by rw [show n - m = 0 by omega]; rfl, ⟨by omega, by omega⟩, ?_, fun r hr => by cases hr⟩
  rcases h.at' with ⟨e, _⟩ | ⟨g', o', cur, e, hlo, hh, hs, hcc⟩
  · cases e
  · cases e
    exact .inr ⟨g, o, cur, rfl, hlo, hh, by omega, fun j u hu => by simp [flatR] at hu⟩
theorem run_pushR (g o n cap b : Nat) (v v0 : Value) (w : World) (hv1 : v.oneCell' = true) (hb : w.cell? ⟨b, 0, none⟩ = some v) (hc : w.cell? ⟨g, o + n, none⟩ = some v0) (hf : w.frozen? ⟨g, o + n, none⟩ = false) (hfit : n + 1 ≤ cap) (ra : Option Addr) (rn rc : Nat) (hv : v = .slice ra rn rc) (ty : TypeId) :
    (Builtin.append_ #[48, 48] ty #[.slice (some ⟨g, o, none⟩) n cap, .slice (some ⟨b, 0, none⟩) 1 1]).run Try.prog w = .ok (.slice (some ⟨g, o, none⟩) (n + 1) cap) (w.setCell ⟨g, o + n, none⟩ v) := by
  subst hv
  have hb' : w.cell? ((⟨b, 0, none⟩ : Addr).add 0) = some (.slice ra rn rc) := by rw [addr_add]; exact hb
  have hst : (store ⟨g, o + n, none⟩ (.slice ra rn rc)).run Try.prog w = .ok () (w.setCell ⟨g, o + n, none⟩ (.slice ra rn rc)) := by
    simp [go_sem, hc, hf]
  go_simp
/-- 'append(v, r)', v in a row of the call's own, from some place of it on -/
theorem step_psRO (w : World) {ops : Array Oper} {o : Oper} {a : Act} {K : Act → World → Prop} {Q : Exit → Act → World → Prop} {E : Prop} (hg : o.guard = none) (s x : Operand)
    (hop : o.op = Op.call { callee := .builtin .append, args := #[s, x], argTypes := #[48, 48] }) (ao : Option Addr) (m co lo : Nat) (rs : List Rw) (hs : a.eval s = .slice ao m co)
    (hA : RO w lo ao m co rs) (hlo : lo ≤ w.heap.size) (r : Rw) (b : Nat) (hr : Ans w lo r.a r.n r.c r.D) (hbx : w.cell? ⟨b, 0, none⟩ = some r.v) (hx : a.eval x = .slice (some ⟨b, 0, none⟩) 1 1) (hb : m + 1 ≤ 1000)
    (hK : ∀ a' c' w' rr, RO w' lo a' (m + 1) c' (rs ++ [r]) → w.grownBy w' rr → (∀ y, rr = some y → Hb ao y) → (∀ y, Hb a' y → Hb ao y ∨ w.heap.size ≤ y) → K (a.put o.dst (.slice a' (m + 1) c')) w') :
    if Region.wanted o (yielded ops a.tmps) = true then Oper.wp Try.prog o a w K Q else E := by
  obtain ⟨i0, hi, hz0, hz1, hz2⟩ := info_parts Try.info_rw
  have hl := hA.len
  have efl : flatR (rs ++ [r]) = flatR rs ++ [r.v] := by simp [flatR]
  have hcb : ∀ j u, [r.v][j]? = some u → w.cell? ((⟨b, 0, none⟩ : Addr).add j) = some u := by
    intro j u hu
    cases j with
    | zero => rw [addr_add]; have hu : some r.v = some u := hu; rw [← hu]; exact hbx
    | succ j => simp at hu
  by_cases hfit : m + 1 ≤ co
  · rcases hA.at' with ⟨_, _, h0⟩ | ⟨g, of', cur, rfl, hgl, hh, hcs, hc⟩
    · omega
    · have hc0 : w.cell? ⟨g, of' + m, none⟩ = some cur[of' + m] := by
        rw [cell_of_row _ _ _ _ _ _ hh, Array.getElem?_eq_getElem (by omega)]
      have hf := frozen_of_row w g (of' + m) _ _ hh
      have hrun := fun ty => run_pushR g of' m co b r.v _ w rfl hbx hc0 hf hfit _ _ _ rfl ty
      have hset : (w.setCell ⟨g, of' + m, none⟩ r.v).heap[g]? = some (.cells (cur.setIfInBounds (of' + m) r.v) 22 (0, 0)) := heap_setCell_same _ g (of' + m) _ _ _ hh
      have hgs := grown_set w g (of' + m) r.v
      have hea : ∀ q lo', Ans w lo' q.a q.n q.c q.D → Ans (w.setCell ⟨g, of' + m, none⟩ r.v) lo' (Rw.a q) (Rw.n q) (Rw.c q) (Rw.D q) := fun q lo' hq => hq.kept hgs (by
        cases e : (Value.slice q.a q.n q.c).ownBlock with
        | none => exact .inl rfl
        | some x => exact .inr (fun e2 => by have e2 := Option.some.inj e2; subst e2; exact hq.box hh (by decide) e))
      have hw : Region.wanted o (yielded ops a.tmps) = true := by simp [Region.wanted, hg]
      rw [if_pos hw]
      unfold Oper.wp
      simp [execOp, hop, resolve, invoke, builtin, hs, hx, hrun, Result.andThen]
      refine hK _ _ _ (some g) ⟨by simp [hl], ⟨hfit, hA.max.2⟩, .inr ⟨g, of', _, rfl, hgl, hset, by simpa using hcs, ?_⟩, fun q hq => ?_⟩ hgs (fun y e => ⟨of', none, by have e : g = y := Option.some.inj e; rw [e]⟩) (fun y h => .inl h)
      · intro j u hu
        rw [efl] at hu
        by_cases hj : j < m
        · rw [List.getElem?_append_left (by rw [flatR_len]; omega)] at hu
          have := hc j u hu
          rw [Array.getElem?_setIfInBounds_ne (by omega)]
          exact this
        · have hj2 : j < m + 1 := by
            have := (List.getElem?_eq_some_iff.1 hu).1
            simp [flatR_len, hl] at this; omega
          obtain rfl : j = m := by omega
          rw [List.getElem?_append_right (by rw [flatR_len]; omega), flatR_len, hl, Nat.sub_self] at hu
          have hu : some r.v = some u := hu
          rw [← hu]
          exact Array.getElem?_setIfInBounds_self_of_lt (by omega)
      · rcases List.mem_append.1 hq with hq | hq
        · exact hea q lo (hA.each q hq)
        · have hq := List.mem_singleton.1 hq
          subst hq
          exact hea q lo hr
  · refine step_append_grows hg s x 48 hop 22 i0 Go.Proofs.Ytnnoeeakkpaocaa.zr 1 24 Try.underlying48 hi hz0 hz1 hz2 rfl (by decide) ao m co (flatR rs) hs (fun e => ?_) (by rw [flatR_len]; omega) (fun b' e j u hu => ?_) ⟨b, 0, none⟩ 1 1 [r.v] hx rfl hcb (by intro u hu; have hu := List.mem_singleton.1 hu; subst hu; rfl) (by omega) (by unfold maxLen; omega) (by omega) ?_
    · rcases hA.at' with h1 | ⟨g, o', cur, e', _⟩
      · exact ⟨h1.2.1, h1.2.2⟩
      · rw [e] at e'; cases e'
    · rcases hA.at' with ⟨h1, _⟩ | ⟨g, o', cur, e', _, hh, _, hc⟩
      · rw [h1] at e; cases e
      · rw [e'] at e
        cases e
        rw [addr_add, cell_of_row _ _ _ _ _ _ hh]
        exact hc j u hu
    · intro v' w' hown hgr
      rcases hown.2 with ⟨_, h0⟩ | ⟨g, cap', cur, rfl, hge, hh, hle, hmx, hsz, htk⟩
      · omega
      · refine hK _ _ w' none ⟨by simp [hl], ⟨hle, hmx⟩, .inr ⟨g, 0, cur, rfl, Nat.le_trans hlo hge, hh, by omega, fun j u hu => ?_⟩, fun q hq => ?_⟩ hgr (fun y e => by cases e) (fun y h => ?_)
        · rw [Nat.zero_add]
          rw [efl, ← htk, List.getElem?_take] at hu
          split at hu
          · simpa using hu
          · cases hu
        · rcases List.mem_append.1 hq with hq | hq
          · exact (hA.each q hq).keep hgr
          · have hq := List.mem_singleton.1 hq
            subst hq
            exact hr.keep hgr
        · obtain ⟨oo, ss, e⟩ := h
          cases e
          exact .inr hge

/-- the document's hand at work, and what it sends up -/
structure DW (lo : Nat) (w : World) (g : Nat) (d : Hd) (Z : Hx) (rs qs : List Rw) (oa : Option Addr) (on oc : Nat) (os : List Rw) (U : List (List Nat)) : Prop where
  box : BxS w g 50 #[.int .i64 d.cr, .int .i64 d.nx, .int .i64 d.ah, .slice Z.sa Z.sn Z.sc, .slice Z.qa Z.qn Z.qc, .int .i64 d.ti, .int .i64 d.pa, .int .i64 d.tr, .int .i64 d.li, .int .i64 d.si, .int .i64 d.pu, .int .i64 d.hl]
  gl : g < lo
  ll : lo ≤ w.heap.size
  s : RO w lo Z.sa Z.sn Z.sc rs
  q : RO w lo Z.qa Z.qn Z.qc qs
  o : RO w lo oa on oc os
  eS : rs.map Rw.D = d.S
  eQ : qs.map Rw.D = d.Q
  eU : os.map Rw.D = U
  sq : ∀ y, Hb Z.sa y → ¬ Hb Z.qa y
  so : ∀ y, Hb Z.sa y → ¬ Hb oa y
  qo : ∀ y, Hb Z.qa y → ¬ Hb oa y
theorem hb_none (y : Nat) : ¬ Hb none y := fun ⟨_, _, e⟩ => by cases e
theorem RO.nil (w : World) (lo : Nat) : RO w lo none 0 0 [] := RO.of (OwR.nil w lo)
theorem DW.lS {lo : Nat} {w  : World} {g : Nat} {d : Hd} {Z : Hx} {rs qs : List Rw} {oa : Option Addr} {on oc : Nat} {os : List Rw} {U : List (List Nat)} (h : DW lo w g d Z rs qs oa on oc os U) : d.S.length = Z.sn := by rw [← h.eS, List.length_map]; exact h.s.len
theorem DW.lQ {lo : Nat} {w  : World} {g : Nat} {d : Hd} {Z : Hx} {rs qs : List Rw} {oa : Option Addr} {on oc : Nat} {os : List Rw} {U : List (List Nat)} (h : DW lo w g d Z rs qs oa on oc os U) : d.Q.length = Z.qn := by rw [← h.eQ, List.length_map]; exact h.q.len
theorem DW.lU {lo : Nat} {w  : World} {g : Nat} {d : Hd} {Z : Hx} {rs qs : List Rw} {oa : Option Addr} {on oc : Nat} {os : List Rw} {U : List (List Nat)} (h : DW lo w g d Z rs qs oa on oc os U) : U.length = on := by rw [← h.eU, List.length_map]; exact h.o.len
theorem DW.keep {lo : Nat} {w W1 : World} {g : Nat} {d : Hd} {Z : Hx} {rs qs : List Rw} {oa : Option Addr} {on oc : Nat} {os : List Rw} {U : List (List Nat)} (h : DW lo w g d Z rs qs oa on oc os U) (hg : w.grownBy W1 none) : DW lo W1 g d Z rs qs oa on oc os U :=
  ⟨h.box.keep hg (by simp), h.gl, Nat.le_trans h.ll hg.size, h.s.keep hg, h.q.keep hg, h.o.keep hg, h.eS, h.eQ, h.eU, h.sq, h.so, h.qo⟩
theorem RO.box' {w w' : World} {lo g : Nat} {a : Option Addr} {n c : Nat} {rs : List Rw} {cs : Array Value} (h : RO w lo a n c rs) (hb : BxS w g 50 cs) (hl : g < lo) (hg : w.grownBy w' (some g)) : RO w' lo a n c rs :=
  h.kept hg (fun y e hy => by have e := Option.some.inj e; subst e; have := (h.hlo hy).1; omega) (fun y e => by have e := Option.some.inj e; subst e; exact ⟨_, _, hb, by decide⟩)
/-- its numbers are written -/
theorem DW.setI {lo : Nat} {w W1 : World} {g : Nat} {d : Hd} {Z : Hx} {rs qs : List Rw} {oa : Option Addr} {on oc : Nat} {os : List Rw} {U : List (List Nat)} (h : DW lo w g d Z rs qs oa on oc os U) (d' : Hd) (hS : d'.S = d.S) (hQ : d'.Q = d.Q) (bx : BxS W1 g 50 #[.int .i64 d'.cr, .int .i64 d'.nx, .int .i64 d'.ah, .slice Z.sa Z.sn Z.sc, .slice Z.qa Z.qn Z.qc, .int .i64 d'.ti, .int .i64 d'.pa, .int .i64 d'.tr, .int .i64 d'.li, .int .i64 d'.si, .int .i64 d'.pu, .int .i64 d'.hl]) (hg : w.grownBy W1 (some g)) : DW lo W1 g d' Z rs qs oa on oc os U :=
  ⟨bx, h.gl, Nat.le_trans h.ll hg.size, h.s.box' h.box h.gl hg, h.q.box' h.box h.gl hg, h.o.box' h.box h.gl hg, by rw [hS]; exact h.eS, by rw [hQ]; exact h.eQ, h.eU, h.sq, h.so, h.qo⟩
/-- another block is written: a box that is no block of its own -/
theorem DW.far {lo : Nat} {w W1 : World} {g : Nat} {d : Hd} {Z : Hx} {rs qs : List Rw} {oa : Option Addr} {on oc : Nat} {os : List Rw} {U : List (List Nat)} (h : DW lo w g d Z rs qs oa on oc os U) (x : Nat) (cs : Array Value) (hx : BxS w x 50 cs) (hxl : x < lo) (hne : x ≠ g) (hg : w.grownBy W1 (some x)) : DW lo W1 g d Z rs qs oa on oc os U :=
  ⟨h.box.keep hg (fun e => hne (Option.some.inj e).symm), h.gl, Nat.le_trans h.ll hg.size, h.s.box' hx hxl hg, h.q.box' hx hxl hg, h.o.box' hx hxl hg, h.eS, h.eQ, h.eU, h.sq, h.so, h.qo⟩
/-- something more goes up -/
theorem DW.push {lo : Nat} {w W1 : World} {g : Nat} {d : Hd} {Z : Hx} {rs qs : List Rw} {oa : Option Addr} {on oc : Nat} {os : List Rw} {U : List (List Nat)} (h : DW lo w g d Z rs qs oa on oc os U) {rr : Option Nat} {a' : Option Addr} {c' : Nat} {r : Rw} (ho : RO W1 lo a' (on + 1) c' (os ++ [r])) (hg : w.grownBy W1 rr) (h1 : ∀ y, rr = some y → Hb oa y) (h2 : ∀ y, Hb a' y → Hb oa y ∨ w.heap.size ≤ y) : DW lo W1 g d Z rs qs a' (on + 1) c' (os ++ [r]) (U ++ [r.D]) := by
  have hty : ∀ y, rr = some y → ∃ t cs, BxS w y t cs ∧ 5 ≠ t := fun y e => by
    obtain ⟨_, _, cs, hb⟩ := h.o.hlo (h1 y e)
    exact ⟨_, cs, hb, by decide⟩
  have hn : ∀ b n c rs', RO w lo b n c rs' → (∀ y, Hb b y → ¬ Hb oa y) → ∀ y, Hb b y → ¬ Hb a' y := fun b n c rs' hb hap y hy ha => by
    rcases h2 y ha with h3 | h3
    · exact hap y hy h3
    · have := (hb.hlo hy).2.1; omega
  refine ⟨h.box.keep hg (fun e => ?_), h.gl, Nat.le_trans h.ll hg.size, h.s.kept hg (fun y e hy => h.so y hy (h1 y e)) hty, h.q.kept hg (fun y e hy => h.qo y hy (h1 y e)) hty, ho, h.eS, h.eQ, by rw [List.map_append, h.eU]; rfl, h.sq, hn _ _ _ _ h.s h.so, hn _ _ _ _ h.q h.qo⟩
  have := (h.o.hlo (h1 g e.symm)).1
  have := h.gl
  omega
/-- something more is sent -/
theorem DW.pushS {lo : Nat} {w W1 W2 : World} {g : Nat} {d : Hd} {Z : Hx} {rs qs : List Rw} {oa : Option Addr} {on oc : Nat} {os : List Rw} {U : List (List Nat)} (h : DW lo w g d Z rs qs oa on oc os U) {rr : Option Nat} {a' : Option Addr} {c' : Nat} {r : Rw} (ho : RO W1 lo a' (Z.sn + 1) c' (rs ++ [r])) (hg : w.grownBy W1 rr) (h1 : ∀ y, rr = some y → Hb Z.sa y) (h2 : ∀ y, Hb a' y → Hb Z.sa y ∨ w.heap.size ≤ y)
    (bx : BxS W2 g 50 #[.int .i64 d.cr, .int .i64 d.nx, .int .i64 d.ah, .slice a' (Z.sn + 1) c', .slice Z.qa Z.qn Z.qc, .int .i64 d.ti, .int .i64 d.pa, .int .i64 d.tr, .int .i64 d.li, .int .i64 d.si, .int .i64 d.pu, .int .i64 d.hl]) (hg2 : W1.grownBy W2 (some g)) : DW lo W2 g ⟨d.cr, d.nx, d.ah, d.ti, d.pa, d.tr, d.li, d.si, d.pu, d.hl, (d.S ++ [r.D]), d.Q⟩ ⟨a', Z.sn + 1, c', Z.qa, Z.qn, Z.qc⟩ (rs ++ [r]) qs oa on oc os U := by
  have hty : ∀ y, rr = some y → ∃ t cs, BxS w y t cs ∧ 5 ≠ t := fun y e => by
    obtain ⟨_, _, cs, hb⟩ := h.s.hlo (h1 y e)
    exact ⟨_, cs, hb, by decide⟩
  have hb1 := h.box.keep hg (fun e => by
    have := (h.s.hlo (h1 g e.symm)).1
    have := h.gl
    omega)
  have q1 := h.q.kept hg (fun y e hy => h.sq y (h1 y e) hy) hty
  have o1 := h.o.kept hg (fun y e hy => h.so y (h1 y e) hy) hty
  refine ⟨bx, h.gl, Nat.le_trans h.ll (Nat.le_trans hg.size hg2.size), ho.box' hb1 h.gl hg2, q1.box' hb1 h.gl hg2, o1.box' hb1 h.gl hg2, by rw [List.map_append, h.eS]; rfl, h.eQ, h.eU, fun y hy hq => ?_, fun y hy hq => ?_, h.qo⟩
  · rcases h2 y hy with h3 | h3
    · exact h.sq y h3 hq
    · have := (h.q.hlo hq).2.1; omega
  · rcases h2 y hy with h3 | h3
    · exact h.so y h3 hq
    · have := (h.o.hlo hq).2.1; omega
/-- the first that waits is struck -/
theorem DW.cutQ {lo : Nat} {w W1 : World} {g : Nat} {d : Hd} {Z : Hx} {rs qs : List Rw} {oa : Option Addr} {on oc : Nat} {os : List Rw} {U : List (List Nat)} (h : DW lo w g d Z rs qs oa on oc os U) (gq oq o2 c2 m : Nat) (e : Z.qa = some ⟨gq, oq, none⟩) (hQ : RO w lo (some ⟨gq, o2, none⟩) (Z.qn - m) c2 (qs.drop m)) (bx : BxS W1 g 50 #[.int .i64 d.cr, .int .i64 d.nx, .int .i64 d.ah, .slice Z.sa Z.sn Z.sc, .slice (some ⟨gq, o2, none⟩) (Z.qn - m) c2, .int .i64 d.ti, .int .i64 d.pa, .int .i64 d.tr, .int .i64 d.li, .int .i64 d.si, .int .i64 d.pu, .int .i64 d.hl]) (hg : w.grownBy W1 (some g)) : DW lo W1 g ⟨d.cr, d.nx, d.ah, d.ti, d.pa, d.tr, d.li, d.si, d.pu, d.hl, d.S, (d.Q.drop m)⟩ ⟨Z.sa, Z.sn, Z.sc, some ⟨gq, o2, none⟩, Z.qn - m, c2⟩ rs (qs.drop m) oa on oc os U := by
  have hi : ∀ y, Hb (some ⟨gq, o2, none⟩) y → Hb Z.qa y := fun y ⟨o, s, e2⟩ => by cases e2; exact ⟨oq, none, e⟩
  exact ⟨bx, h.gl, Nat.le_trans h.ll hg.size, h.s.box' h.box h.gl hg, hQ.box' h.box h.gl hg, h.o.box' h.box h.gl hg, h.eS, by rw [List.map_drop, h.eQ], h.eU, fun y hy hq' => h.sq y hy (hi y hq'), h.so, fun y hy => h.qo y (hi y hy)⟩
/-- the first that were sent are struck -/
theorem DW.cutS {lo : Nat} {w W1 : World} {g : Nat} {d : Hd} {Z : Hx} {rs qs : List Rw} {oa : Option Addr} {on oc : Nat} {os : List Rw} {U : List (List Nat)} (h : DW lo w g d Z rs qs oa on oc os U) (gs o1 o2 c2 m : Nat) (e : Z.sa = some ⟨gs, o1, none⟩) (hS : RO w lo (some ⟨gs, o2, none⟩) (Z.sn - m) c2 (rs.drop m)) (bx : BxS W1 g 50 #[.int .i64 d.cr, .int .i64 d.nx, .int .i64 d.ah, .slice (some ⟨gs, o2, none⟩) (Z.sn - m) c2, .slice Z.qa Z.qn Z.qc, .int .i64 d.ti, .int .i64 d.pa, .int .i64 d.tr, .int .i64 d.li, .int .i64 d.si, .int .i64 d.pu, .int .i64 d.hl]) (hg : w.grownBy W1 (some g)) : DW lo W1 g ⟨d.cr, d.nx, d.ah, d.ti, d.pa, d.tr, d.li, d.si, d.pu, d.hl, (d.S.drop m), d.Q⟩ ⟨some ⟨gs, o2, none⟩, Z.sn - m, c2, Z.qa, Z.qn, Z.qc⟩ (rs.drop m) qs oa on oc os U := by
  have hi : ∀ y, Hb (some ⟨gs, o2, none⟩) y → Hb Z.sa y := fun y ⟨o, s, e2⟩ => by cases e2; exact ⟨o1, none, e⟩
  exact ⟨bx, h.gl, Nat.le_trans h.ll hg.size, hS.box' h.box h.gl hg, h.q.box' h.box h.gl hg, h.o.box' h.box h.gl hg, by rw [List.map_drop, h.eS], h.eQ, h.eU, fun y hy => h.sq y (hi y hy), fun y hy => h.so y (hi y hy), h.qo⟩
theorem DW.rd {lo : Nat} {w  : World} {g : Nat} {d : Hd} {Z : Hx} {rs qs : List Rw} {oa : Option Addr} {on oc : Nat} {os : List Rw} {U : List (List Nat)} (h : DW lo w g d Z rs qs oa on oc os U) : RdHd w Z d ∧ RdW w oa on oc U := ⟨⟨h.s.rd h.eS, h.q.rd h.eQ⟩, h.o.rd h.eU⟩
/-- how it begins -/
theorem DW.of {lo : Nat} {w : World} {g : Nat} {d : Hd} {Z : Hx} {rs qs : List Rw} (bx : BxS w g 50 #[.int .i64 d.cr, .int .i64 d.nx, .int .i64 d.ah, .slice Z.sa Z.sn Z.sc, .slice Z.qa Z.qn Z.qc, .int .i64 d.ti, .int .i64 d.pa, .int .i64 d.tr, .int .i64 d.li, .int .i64 d.si, .int .i64 d.pu, .int .i64 d.hl]) (gl : g < lo) (ll : lo ≤ w.heap.size) (h : OwHd w lo Z rs qs d) : DW lo w g d Z rs qs none 0 0 [] [] := by
  refine ⟨bx, gl, ll, RO.of h.s.o, RO.of h.q.o, RO.nil _ _, h.s.d, h.q.d, rfl, fun y hy hq => ?_, fun y _ => hb_none y, fun y _ => hb_none y⟩
  have hh : ∀ a n c rs', RO w lo a n c rs' → Hb a y → OwR w lo a n c rs' → (Value.slice a n c).ownBlock = some y := fun a n c rs' hr ⟨o, s, e⟩ hw => by
    rcases hw.own.2 with ⟨h1, h2⟩ | ⟨g, cap', cur, h1, _⟩
    · simp only [Value.slice.injEq] at h1; rw [h1.1] at e; cases e
    · simp only [Value.slice.injEq] at h1
      rw [h1.1] at e ⊢
      cases e
      rfl
  exact h.ap y (.inl (hh _ _ _ _ (RO.of h.s.o) hy h.s.o)) (.inl (hh _ _ _ _ (RO.of h.q.o) hq h.q.o))

set_option maxHeartbeats 32000000 in
/-- the document's frame of a command -/
theorem rup_any (X : Hx) (d : Hd) (q : Int) (a : Option Addr) (n c : Nat) (D : List Nat) (w : World) (hR : Rd w a n c D) (hcr : 0 ≤ d.cr ∧ d.cr ≤ 1023) (hq : -256 ≤ q ∧ q ≤ 1000) (h1 : 1 ≤ n ∧ n ≤ 1017) :
    Calls Try.prog 72 #[.agg #[.int .i64 d.cr, .int .i64 d.nx, .int .i64 d.ah, .slice X.sa X.sn X.sc, .slice X.qa X.qn X.qc, .int .i64 d.ti, .int .i64 d.pa, .int .i64 d.tr, .int .i64 d.li, .int .i64 d.si, .int .i64 d.pu, .int .i64 d.hl], .int .i64 q, .slice a n c] w fun e w' => ∃ a' n' c', e = .returned (.slice a' n' c') ∧ Ans w' w.heap.size a' n' c' (orL d.cr.toNat false false (q % 256).toNat D) ∧ w.grownBy w' none := by
  have b0 := BxS.new w 50 #[.int .i64 d.cr, .int .i64 d.nx, .int .i64 d.ah, .slice X.sa X.sn X.sc, .slice X.qa X.qn X.qc, .int .i64 d.ti, .int .i64 d.pa, .int .i64 d.tr, .int .i64 d.li, .int .i64 d.si, .int .i64 d.pu, .int .i64 d.hl]
  have g0 := World.grownBy_alloc w (.cells #[.int .i64 d.cr, .int .i64 d.nx, .int .i64 d.ah, .slice X.sa X.sn X.sc, .slice X.qa X.qn X.qc, .int .i64 d.ti, .int .i64 d.pa, .int .i64 d.tr, .int .i64 d.li, .int .i64 d.si, .int .i64 d.pu, .int .i64 d.hl] 50) none
  generalize hw0 : w.alloc (.cells #[.int .i64 d.cr, .int .i64 d.nx, .int .i64 d.ah, .slice X.sa X.sn X.sc, .slice X.qa X.qn X.qc, .int .i64 d.ti, .int .i64 d.pa, .int .i64 d.tr, .int .i64 d.li, .int .i64 d.si, .int .i64 d.pu, .int .i64 d.hl] 50) = w0 at b0 g0
  have hz0 : w0.heap.size = w.heap.size + 1 := by rw [← hw0]; simp
  have hB := robytes_any d.cr false false (q % 256) a n c D w0 (hR.keep g0)
  have eE : orE d.cr false false (q % 256) n = 0 := by
    unfold orE kwB
    have : 0 ≤ q % 256 ∧ q % 256 ≤ 255 := by omega
    simp [hcr, this]
    omega
  have eO : ordB d.cr false false (q % 256) D = orL d.cr.toNat false false (q % 256).toNat D := by
    unfold ordB
    rw [hR.len, eE, if_pos rfl]
  rw [eO, eE] at hB
  unfold orA at hB
  generalize orL d.cr.toNat false false (q % 256).toNat D = DD at *
  have hw1 : IntKind.i64.wrap (q + 256) = q + 256 := wrap_i64_in _ (by omega) (by omega)
  have hm : (q + 256).tmod 256 = q % 256 := by rw [Int.tmod_eq_emod_of_nonneg (by omega)]; omega
  have hw2 : IntKind.i64.wrap (q % 256) = q % 256 := wrap_i64_in _ (by omega) (by omega)
  have hq0 : 0 ≤ q + 256 := by omega
  obtain ⟨c0, c1, c2, c3, c4, c5, c6, c7, c8, c9, c10, c11⟩ := b0.cell12
  clear eO eE
  go_enter Try.func72, Try.ntmps72
  go_wp2_with (go_at_call 14; refine hB.mono ?_; rintro e w1 ⟨a1, n1, c1, rfl, hA1, y1⟩)
  go_ret
  exact ⟨a1, n1, c1, rfl, hA1.wide (by omega), grown_trans g0 y1⟩
end Go.Proofs.Ytnnoeeakkpaocaa
