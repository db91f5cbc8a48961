import Derived.Deep.RegionLawGrows
import Derived.Test.YtlfacjpehhcdiaaOn7
import Derived.Test.YtlfacjpehhcdiaaOn5
import Derived.Deep.Upon
import Derived.Deep.MidRow
namespace Go.Proofs.Ytlfacjpehhcdiaa
open Go.RowKit
set_option maxRecDepth 100000
set_option linter.unusedVariables false
set_option linter.unusedSimpArgs false

section
/-- rows of bytes in a row of the call's own, from some place of it on -/
structure RO (w : World) (lo : Nat) (a : Option Addr) (n c : Nat) (rs : List Rw) : Prop where
  len : rs.length = n
  max : n ≤ c ∧ c ≤ maxLen
  at' : (a = none ∧ n = 0 ∧ c = 0) ∨ ∃ g o cur, a = some ⟨g, o, none⟩ ∧ lo ≤ g ∧ w.heap[g]? = some (.cells cur 29 (0, 0)) ∧ o + c ≤ cur.size ∧ ∀ j u, (flatR rs)[j]? = some u → cur[o + j]? = some u
  each : ∀ r, r ∈ rs → Ans w lo r.a r.n r.c r.D
/-- the block that it lies in -/
def Hb (a : Option Addr) (i : Nat) : Prop := ∃ o s, a = some ⟨i, o, s⟩
theorem RO.of {w : World} {lo : Nat} {a : Option Addr} {n c : Nat} {rs : List Rw} (h : OwR w lo a n c rs) : RO w lo a n c rs := by
  have hx := h.x
  refine ⟨h.len, hx.max, ?_, h.each⟩
  rcases h.own.2 with ⟨h1, h2⟩ | ⟨g, cap', cur, h1, _, h3, _, _, h6, h7⟩
  · simp only [Value.slice.injEq] at h1; exact .inl h1
  · simp only [Value.slice.injEq] at h1
    obtain ⟨rfl, _, rfl⟩ := h1
    refine .inr ⟨g, 0, cur, rfl, h.new g rfl, h3, by omega, fun j u hu => ?_⟩
    rw [Nat.zero_add]
    rw [← h7, List.getElem?_take] at hu
    split at hu
    · simpa using hu
    · cases hu
theorem RO.hlo {w : World} {lo : Nat} {a : Option Addr} {n c : Nat} {rs : List Rw} (h : RO w lo a n c rs) {y : Nat} (hy : Hb a y) : lo ≤ y ∧ y < w.heap.size ∧ ∃ cs, BxS w y 29 cs := by
  obtain ⟨oo, ss, e⟩ := hy
  rcases h.at' with ⟨rfl, _⟩ | ⟨g, o, cur, e', hl, hh, _⟩
  · cases e
  · rw [e'] at e
    cases e
    exact ⟨hl, (Array.getElem?_eq_some_iff.1 hh).1, cur, hh⟩
theorem RO.wide {w : World} {lo lo' : Nat} {a : Option Addr} {n c : Nat} {rs : List Rw} (h : RO w lo a n c rs) (hl : lo' ≤ lo) : RO w lo' a n c rs := by
  refine ⟨h.len, h.max, ?_, fun r hr => (h.each r hr).wide hl⟩
  rcases h.at' with h1 | ⟨g, o, cur, e, hlo, hh, hs, hc⟩
  · exact .inl h1
  · exact .inr ⟨g, o, cur, e, Nat.le_trans hl hlo, hh, hs, hc⟩
/-- it lies as it lay, whatever but bytes and its own row is written -/
theorem RO.kept {w w' : World} {lo : Nat} {a : Option Addr} {n c : Nat} {rs : List Rw} {r : Option Nat} (h : RO w lo a n c rs) (hg : w.grownBy w' r) (h1 : ∀ y, r = some y → ¬ Hb a y) (h2 : ∀ y, r = some y → ∃ t cs, BxS w y t cs ∧ 5 ≠ t) : RO w' lo a n c rs := by
  refine ⟨h.len, h.max, ?_, fun q hq => (h.each q hq).kept hg ?_⟩
  · rcases h.at' with h3 | ⟨g, o, cur, e, hlo, hh, hs, hc⟩
    · exact .inl h3
    · refine .inr ⟨g, o, cur, e, hlo, ?_, hs, hc⟩
      rw [hg.block g (Array.getElem?_eq_some_iff.1 hh).1 (fun e2 => h1 g e2.symm ⟨o, none, e⟩)]
      exact hh
  · cases e : (Value.slice q.a q.n q.c).ownBlock with
    | none => exact .inl rfl
    | some x =>
      refine .inr (fun e2 => ?_)
      obtain ⟨t, cs, hb, ht⟩ := h2 x e2.symm
      exact (h.each q hq).box hb ht e
theorem RO.keep {w w' : World} {lo : Nat} {a : Option Addr} {n c : Nat} {rs : List Rw} (h : RO w lo a n c rs) (hg : w.grownBy w' none) : RO w' lo a n c rs := h.kept hg (fun y e => by cases e) (fun y e => by cases e)
theorem RO.rdr {w : World} {lo : Nat} {a : Option Addr} {n c : Nat} {rs : List Rw} (h : RO w lo a n c rs) : RdR w a n c (fun i => rs.getD i kr0) := by
  have hl := h.len
  refine ⟨h.max.1, h.max.2, fun h0 => ?_, fun i hi => ?_⟩
  · rcases h.at' with h1 | ⟨g, o, cur, e, hlo, hh, hs, hc⟩
    · omega
    · refine ⟨g, o, e, (Array.getElem?_eq_some_iff.1 hh).1, fun i hi => ?_⟩
      rw [cell_of_row _ _ _ _ _ _ hh]
      refine hc i _ ?_
      simp only [flatR, List.getElem?_map]
      rw [List.getD_eq_getElem?_getD, List.getElem?_eq_getElem (by omega)]
      rfl
  · have hm : rs.getD i kr0 ∈ rs := by rw [List.getD_eq_getElem?_getD, List.getElem?_eq_getElem (by omega)]; exact List.getElem_mem _
    exact (h.each _ hm).rd
theorem RO.rd {w : World} {lo : Nat} {a : Option Addr} {n c : Nat} {rs : List Rw} {R : List (List Nat)} (h : RO w lo a n c rs) (hR : rs.map Rw.D = R) : RdW w a n c R := by
  refine ⟨by rw [← hR, List.length_map]; exact h.len, _, h.rdr, fun i hi => ?_⟩
  rw [← hR, getD_map_D rs i (by rw [h.len]; exact hi)]
/-- the first m are left out -/
theorem RO.tail {w : World} {lo g o n c : Nat} {rs : List Rw} (h : RO w lo (some ⟨g, o, none⟩) n c rs) (m : Nat) (hm : m ≤ n) : RO w lo (some ⟨g, o + m, none⟩) (n - m) (c - m) (rs.drop m) := by
  have hl := h.len
  have hx := h.max
  refine ⟨by rw [List.length_drop]; omega, ⟨by omega, by omega⟩, ?_, fun r hr => h.each r (List.mem_of_mem_drop hr)⟩
  rcases h.at' with ⟨e, _⟩ | ⟨g', o', cur, e, hlo, hh, hs, hc⟩
  · cases e
  · cases e
    refine .inr ⟨g, o + m, cur, rfl, hlo, hh, by omega, fun j u hu => ?_⟩
    rw [← flatR_drop, List.getElem?_drop] at hu
    rw [Nat.add_assoc]
    exact hc (m + j) u hu
theorem RO.tail0 {w : World} {lo g o n c : Nat} {rs : List Rw} (h : RO w lo (some ⟨g, o, none⟩) n c rs) (m : Nat) (hm : m ≤ n) (hc : c = m) : RO w lo (some ⟨g, o, none⟩) (n - m) 0 (rs.drop m) := by
  have hl := h.len
  have hx := h.max
  have e : rs.drop m = [] := List.drop_eq_nil_of_le (by omega)
  rw [e]
  refine ⟨by rw [show n - m = 0 by omega]; rfl, ⟨by omega, by omega⟩, ?_, fun r hr => by cases hr⟩
  rcases h.at' with ⟨e, _⟩ | ⟨g', o', cur, e, hlo, hh, hs, hcc⟩
  · cases e
  · cases e
    exact .inr ⟨g, o, cur, rfl, hlo, hh, by omega, fun j u hu => by simp [flatR] at hu⟩
/-- the document's hand at work, and what it sends up -/
structure DW (lo : Nat) (w : World) (g : Nat) (d : Hd) (Z : Hx) (rs qs : List Rw) (oa : Option Addr) (on oc : Nat) (os : List Rw) (U : List (List Nat)) : Prop where
  box : BxS w g 26 #[.int .i64 d.cr, .int .i64 d.nx, .int .i64 d.ah, .slice Z.sa Z.sn Z.sc, .slice Z.qa Z.qn Z.qc, .int .i64 d.ti, .int .i64 d.pa, .int .i64 d.tr, .int .i64 d.li, .int .i64 d.si, .int .i64 d.pu, .int .i64 d.hl]
  gl : g < lo
  ll : lo ≤ w.heap.size
  s : RO w lo Z.sa Z.sn Z.sc rs
  q : RO w lo Z.qa Z.qn Z.qc qs
  o : RO w lo oa on oc os
  eS : rs.map Rw.D = d.S
  eQ : qs.map Rw.D = d.Q
  eU : os.map Rw.D = U
  sq : ∀ y, Hb Z.sa y → ¬ Hb Z.qa y
  so : ∀ y, Hb Z.sa y → ¬ Hb oa y
  qo : ∀ y, Hb Z.qa y → ¬ Hb oa y
theorem hb_none (y : Nat) : ¬ Hb none y := fun ⟨_, _, e⟩ => by cases e
theorem RO.nil (w : World) (lo : Nat) : RO w lo none 0 0 [] := RO.of (OwR.nil w lo)
theorem DW.keep {lo : Nat} {w W1 : World} {g : Nat} {d : Hd} {Z : Hx} {rs qs : List Rw} {oa : Option Addr} {on oc : Nat} {os : List Rw} {U : List (List Nat)} (h : DW lo w g d Z rs qs oa on oc os U) (hg : w.grownBy W1 none) : DW lo W1 g d Z rs qs oa on oc os U :=
  ⟨h.box.keep hg (by simp), h.gl, Nat.le_trans h.ll hg.size, h.s.keep hg, h.q.keep hg, h.o.keep hg, h.eS, h.eQ, h.eU, h.sq, h.so, h.qo⟩
theorem RO.box' {w w' : World} {lo g : Nat} {a : Option Addr} {n c : Nat} {rs : List Rw} {cs : Array Value} (h : RO w lo a n c rs) (hb : BxS w g 26 cs) (hl : g < lo) (hg : w.grownBy w' (some g)) : RO w' lo a n c rs :=
  h.kept hg (fun y e hy => by have e := Option.some.inj e; subst e; have := (h.hlo hy).1; omega) (fun y e => by have e := Option.some.inj e; subst e; exact ⟨_, _, hb, by decide⟩)
/-- its numbers are written -/
theorem DW.setI {lo : Nat} {w W1 : World} {g : Nat} {d : Hd} {Z : Hx} {rs qs : List Rw} {oa : Option Addr} {on oc : Nat} {os : List Rw} {U : List (List Nat)} (h : DW lo w g d Z rs qs oa on oc os U) (d' : Hd) (hS : d'.S = d.S) (hQ : d'.Q = d.Q) (bx : BxS W1 g 26 #[.int .i64 d'.cr, .int .i64 d'.nx, .int .i64 d'.ah, .slice Z.sa Z.sn Z.sc, .slice Z.qa Z.qn Z.qc, .int .i64 d'.ti, .int .i64 d'.pa, .int .i64 d'.tr, .int .i64 d'.li, .int .i64 d'.si, .int .i64 d'.pu, .int .i64 d'.hl]) (hg : w.grownBy W1 (some g)) : DW lo W1 g d' Z rs qs oa on oc os U :=
  ⟨bx, h.gl, Nat.le_trans h.ll hg.size, h.s.box' h.box h.gl hg, h.q.box' h.box h.gl hg, h.o.box' h.box h.gl hg, by rw [hS]; exact h.eS, by rw [hQ]; exact h.eQ, h.eU, h.sq, h.so, h.qo⟩
/-- another block is written: a box that is no block of its own -/
theorem DW.far {lo : Nat} {w W1 : World} {g : Nat} {d : Hd} {Z : Hx} {rs qs : List Rw} {oa : Option Addr} {on oc : Nat} {os : List Rw} {U : List (List Nat)} (h : DW lo w g d Z rs qs oa on oc os U) (x : Nat) (cs : Array Value) (hx : BxS w x 26 cs) (hxl : x < lo) (hne : x ≠ g) (hg : w.grownBy W1 (some x)) : DW lo W1 g d Z rs qs oa on oc os U :=
  ⟨h.box.keep hg (fun e => hne (Option.some.inj e).symm), h.gl, Nat.le_trans h.ll hg.size, h.s.box' hx hxl hg, h.q.box' hx hxl hg, h.o.box' hx hxl hg, h.eS, h.eQ, h.eU, h.sq, h.so, h.qo⟩
/-- something more goes up -/
theorem DW.push {lo : Nat} {w W1 : World} {g : Nat} {d : Hd} {Z : Hx} {rs qs : List Rw} {oa : Option Addr} {on oc : Nat} {os : List Rw} {U : List (List Nat)} (h : DW lo w g d Z rs qs oa on oc os U) {rr : Option Nat} {a' : Option Addr} {c' : Nat} {r : Rw} (ho : RO W1 lo a' (on + 1) c' (os ++ [r])) (hg : w.grownBy W1 rr) (h1 : ∀ y, rr = some y → Hb oa y) (h2 : ∀ y, Hb a' y → Hb oa y ∨ w.heap.size ≤ y) : DW lo W1 g d Z rs qs a' (on + 1) c' (os ++ [r]) (U ++ [r.D]) := by
  have hty : ∀ y, rr = some y → ∃ t cs, BxS w y t cs ∧ 5 ≠ t := fun y e => by
    obtain ⟨_, _, cs, hb⟩ := h.o.hlo (h1 y e)
    exact ⟨_, cs, hb, by decide⟩
  have hn : ∀ b n c rs', RO w lo b n c rs' → (∀ y, Hb b y → ¬ Hb oa y) → ∀ y, Hb b y → ¬ Hb a' y := fun b n c rs' hb hap y hy ha => by
    rcases h2 y ha with h3 | h3
    · exact hap y hy h3
    · have := (hb.hlo hy).2.1; omega
  refine ⟨h.box.keep hg (fun e => ?_), h.gl, Nat.le_trans h.ll hg.size, h.s.kept hg (fun y e hy => h.so y hy (h1 y e)) hty, h.q.kept hg (fun y e hy => h.qo y hy (h1 y e)) hty, ho, h.eS, h.eQ, by rw [List.map_append, h.eU]; rfl, h.sq, hn _ _ _ _ h.s h.so, hn _ _ _ _ h.q h.qo⟩
  have := (h.o.hlo (h1 g e.symm)).1
  have := h.gl
  omega
/-- the first that were sent are struck -/
theorem DW.cutS {lo : Nat} {w W1 : World} {g : Nat} {d : Hd} {Z : Hx} {rs qs : List Rw} {oa : Option Addr} {on oc : Nat} {os : List Rw} {U : List (List Nat)} (h : DW lo w g d Z rs qs oa on oc os U) (gs o1 o2 c2 m : Nat) (e : Z.sa = some ⟨gs, o1, none⟩) (hS : RO w lo (some ⟨gs, o2, none⟩) (Z.sn - m) c2 (rs.drop m)) (bx : BxS W1 g 26 #[.int .i64 d.cr, .int .i64 d.nx, .int .i64 d.ah, .slice (some ⟨gs, o2, none⟩) (Z.sn - m) c2, .slice Z.qa Z.qn Z.qc, .int .i64 d.ti, .int .i64 d.pa, .int .i64 d.tr, .int .i64 d.li, .int .i64 d.si, .int .i64 d.pu, .int .i64 d.hl]) (hg : w.grownBy W1 (some g)) : DW lo W1 g ⟨d.cr, d.nx, d.ah, d.ti, d.pa, d.tr, d.li, d.si, d.pu, d.hl, (d.S.drop m), d.Q⟩ ⟨some ⟨gs, o2, none⟩, Z.sn - m, c2, Z.qa, Z.qn, Z.qc⟩ (rs.drop m) qs oa on oc os U := by
  have hi : ∀ y, Hb (some ⟨gs, o2, none⟩) y → Hb Z.sa y := fun y ⟨o, s, e2⟩ => by cases e2; exact ⟨o1, none, e⟩
  exact ⟨bx, h.gl, Nat.le_trans h.ll hg.size, hS.box' h.box h.gl hg, h.q.box' h.box h.gl hg, h.o.box' h.box h.gl hg, by rw [List.map_drop, h.eS], h.eQ, h.eU, fun y hy => h.sq y (hi y hy), fun y hy => h.so y (hi y hy), h.qo⟩
theorem DW.rd {lo : Nat} {w  : World} {g : Nat} {d : Hd} {Z : Hx} {rs qs : List Rw} {oa : Option Addr} {on oc : Nat} {os : List Rw} {U : List (List Nat)} (h : DW lo w g d Z rs qs oa on oc os U) : RdHd w Z d ∧ RdW w oa on oc U := ⟨⟨h.s.rd h.eS, h.q.rd h.eQ⟩, h.o.rd h.eU⟩
/-- how it begins -/
theorem DW.of {lo : Nat} {w : World} {g : Nat} {d : Hd} {Z : Hx} {rs qs : List Rw} (bx : BxS w g 26 #[.int .i64 d.cr, .int .i64 d.nx, .int .i64 d.ah, .slice Z.sa Z.sn Z.sc, .slice Z.qa Z.qn Z.qc, .int .i64 d.ti, .int .i64 d.pa, .int .i64 d.tr, .int .i64 d.li, .int .i64 d.si, .int .i64 d.pu, .int .i64 d.hl]) (gl : g < lo) (ll : lo ≤ w.heap.size) (h : OwHd w lo Z rs qs d) : DW lo w g d Z rs qs none 0 0 [] [] := by
  refine ⟨bx, gl, ll, RO.of h.s.o, RO.of h.q.o, RO.nil _ _, h.s.d, h.q.d, rfl, fun y hy hq => ?_, fun y _ => hb_none y, fun y _ => hb_none y⟩
  have hh : ∀ a n c rs', RO w lo a n c rs' → Hb a y → OwR w lo a n c rs' → (Value.slice a n c).ownBlock = some y := fun a n c rs' hr ⟨o, s, e⟩ hw => by
    rcases hw.own.2 with ⟨h1, h2⟩ | ⟨g, cap', cur, h1, _⟩
    · simp only [Value.slice.injEq] at h1; rw [h1.1] at e; cases e
    · simp only [Value.slice.injEq] at h1
      rw [h1.1] at e ⊢
      cases e
      rfl
  exact h.ap y (.inl (hh _ _ _ _ (RO.of h.s.o) hy h.s.o)) (.inl (hh _ _ _ _ (RO.of h.q.o) hq h.q.o))
end

section
/-- some cells of a box are written -/
def setA (A : Array Value) : Nat → List Value → Array Value
  | _, [] => A
  | o, v :: r => setA (A.setIfInBounds o v) (o + 1) r
theorem box_setA {g : Nat} {t : TypeId} : ∀ (L : List Value) (o : Nat) (w : World) (A : Array Value), BxS w g t A → BxS (w.setCells g o L) g t (setA A o L) ∧ w.grownBy (w.setCells g o L) (some g) := by
  intro L
  induction L with
  | nil => intro o w A h; exact ⟨h, World.grownBy.refl _ _⟩
  | cons v L ih =>
    intro o w A h
    have h1 : BxS (w.setCell ⟨g, o, none⟩ v) g t (A.setIfInBounds o v) := by unfold BxS; rw [heap_setCell_same w g o _ _ _ h]
    obtain ⟨k1, k2⟩ := ih (o + 1) _ _ h1
    exact ⟨k1, grown_trans (grown_set w g o v) k2⟩
theorem setA_size : ∀ (L : List Value) (o : Nat) (A : Array Value), (setA A o L).size = A.size := by
  intro L
  induction L with
  | nil => intro o A; rfl
  | cons v L ih => intro o A; show (setA _ _ L).size = _; rw [ih, Array.size_setIfInBounds]
theorem setA_out : ∀ (L : List Value) (o : Nat) (A : Array Value) (j : Nat), (j < o ∨ o + L.length ≤ j) → (setA A o L)[j]? = A[j]? := by
  intro L
  induction L with
  | nil => intro o A j _; rfl
  | cons v L ih =>
    intro o A j h
    rw [List.length_cons] at h
    show (setA _ _ L)[j]? = _
    rw [ih (o + 1) _ j (by omega), Array.getElem?_setIfInBounds_ne (by omega)]
theorem setA_in : ∀ (L : List Value) (o : Nat) (A : Array Value) (j : Nat), j < L.length → o + L.length ≤ A.size → (setA A o L)[o + j]? = L[j]? := by
  intro L
  induction L with
  | nil => intro o A j h; cases h
  | cons v L ih =>
    intro o A j h hs
    rw [List.length_cons] at h hs
    show (setA _ _ L)[o + j]? = _
    cases j with
    | zero =>
      show (setA _ _ L)[o]? = _
      rw [setA_out L (o + 1) _ o (by omega), Array.getElem?_setIfInBounds_self_of_lt (by omega)]
      rfl
    | succ j =>
      rw [show o + (j + 1) = o + 1 + j by omega, ih (o + 1) _ j (by omega) (by rw [Array.size_setIfInBounds]; omega)]
      rfl
section
variable {w : World} {lo : Nat}
/-- 'append(v, x...)', v in a row of the call's own, from some place of it on -/
theorem wpList_joRO {ops : Array Oper} {rest : List Oper} {o : Oper} {ac : Act} {Q : Exit → Act → World → Prop} (hg : o.guard = none) (s x : Operand)
    (hop : o.op = Op.call { callee := .builtin .append, args := #[s, x], argTypes := #[23, 23] }) (ao : Option Addr) (m co : Nat) (rs : List Rw) (hs : ac.eval s = .slice ao m co)
    (hA : RO w lo ao m co rs) (hlo : lo ≤ w.heap.size) (ax : Option Addr) (nx cx : Nat) (qs : List Rw) (hm0 : qs.length = nx) (hx : ac.eval x = .slice ax nx cx) (h0 : ax = none → nx = 0 ∧ cx = 0) (hc : ∀ ad, ax = some ad → ∀ j u, (flatR qs)[j]? = some u → w.cell? (ad.add j) = some u) (hq : ∀ r, r ∈ qs → Ans w lo r.a r.n r.c r.D) (hb : m + nx ≤ 1000000)
    (hK : ∀ a' c' w' rr, RO w' lo a' (m + nx) c' (rs ++ qs) → w.grownBy w' rr → (∀ y, rr = some y → Hb ao y) → (∀ y, Hb a' y → Hb ao y ∨ w.heap.size ≤ y) → wpList Try.prog ops Q rest (ac.put o.dst (.slice a' (m + nx) c')) w') :
    wpList Try.prog ops Q (o :: rest) ac w := by
  obtain ⟨i0, hi, hz0, hz1, hz2⟩ := info_parts Try.info_rw
  have hl := hA.len
  have efl : flatR (rs ++ qs) = flatR rs ++ flatR qs := by simp [flatR]
  have one : ∀ u, u ∈ flatR qs → u.oneCell' = true := by
    intro u hu
    unfold flatR at hu
    obtain ⟨r, _, rfl⟩ := List.mem_map.1 hu
    rfl
  have fq : (flatR qs).length = nx := by unfold flatR; rw [List.length_map]; exact hm0
  by_cases hz : nx = 0
  · subst hz
    have hqs : qs = [] := List.length_eq_zero_iff.1 hm0
    subst hqs
    refine wpList_plain hg fun K hK2 => ?_
    have hrun : ∀ ty, (Builtin.append_ #[23, 23] ty #[.slice ao m co, .slice ax 0 cx]).run Try.prog w = .ok (.slice ao m co) w := fun ty => by
      cases ax with
      | none => exact run_append_nothing w 23 23 ty 29 i0 Try.underlying23 hi ao m co hA.max.1 _ (Src.ofNil w Try.underlying23 cx)
      | some ad => exact run_append_nothing w 23 23 ty 29 i0 Try.underlying23 hi ao m co hA.max.1 _ (Src.ofSlice w Try.underlying23 ad 0 cx [] (by simp) (fun j u hu => by cases hu) (fun u hu => by cases hu))
    unfold Oper.wp
    simp [execOp, hop, resolve, invoke, builtin, hs, hx, hrun, Result.andThen]
    exact hK2 _ _ (hK ao co w none (by rw [List.append_nil]; exact hA) (World.grownBy.refl _ _) (fun y e => by cases e) (fun y h => .inl h))
  · cases ax with
    | none => exact absurd (h0 rfl).1 hz
    | some ad =>
      by_cases hfit : m + nx ≤ co
      · rcases hA.at' with ⟨_, _, h00⟩ | ⟨g, of', cur, rfl, hgl, hh, hcs, hcc⟩
        · omega
        · have hB : BxS w g 29 cur := hh
          have hrun := fun ty => run_append_room_src (P := Try.prog) w 23 23 ty 29 i0 Try.underlying23 hi g of' m co (.slice (some ad) nx cx) nx (flatR qs) (Src.ofSlice w Try.underlying23 ad nx cx (flatR qs) (by rw [hz1, fq]; omega) (hc ad rfl) one) hfit (fun j hj => by rw [cell_of_row _ _ _ _ _ _ hh, Array.getElem?_eq_getElem (by rw [hz1, fq] at *; omega)]; rfl) (fun j hj => frozen_of_row w g _ _ _ hh)
          rw [hz1, Nat.mul_one] at hrun
          obtain ⟨k1, k2⟩ := box_setA (flatR qs) (of' + m) w cur hB
          have hea : ∀ (q : Rw) (lo' : Nat), Ans w lo' q.a q.n q.c q.D → Ans (w.setCells g (of' + m) (flatR qs)) lo' q.a q.n q.c q.D := fun q lo' hq => hq.kept k2 (by
            cases e : (Value.slice q.a q.n q.c).ownBlock with
            | none => exact .inl rfl
            | some x => exact .inr (fun e2 => by have e2 := Option.some.inj e2; subst e2; exact hq.box hh (by decide) e))
          refine wpList_plain hg fun K hK2 => ?_
          unfold Oper.wp
          simp [execOp, hop, resolve, invoke, builtin, hs, hx, hrun, Result.andThen]
          refine hK2 _ _ (hK _ _ _ (some g) ⟨by rw [List.length_append, hl, hm0], ⟨hfit, hA.max.2⟩, .inr ⟨g, of', _, rfl, hgl, k1, by rw [setA_size]; exact hcs, ?_⟩, fun q hq' => ?_⟩ k2 (fun y e => ⟨of', none, by have e : g = y := Option.some.inj e; rw [e]⟩) (fun y h => .inl h))
          · intro j u hu
            rw [efl] at hu
            by_cases hj : j < m
            · rw [List.getElem?_append_left (by rw [flatR_len]; omega)] at hu
              rw [setA_out _ _ _ _ (by omega)]
              exact hcc j u hu
            · rw [List.getElem?_append_right (by rw [flatR_len]; omega), flatR_len, hl] at hu
              have hj2 : j - m < (flatR qs).length := (List.getElem?_eq_some_iff.1 hu).1
              rw [show of' + j = of' + m + (j - m) by omega, setA_in _ _ _ _ hj2 (by rw [fq]; omega)]
              exact hu
          · rcases List.mem_append.1 hq' with h | h
            · exact hea q lo (hA.each q h)
            · exact hea q lo (hq q h)
      · refine wpList_append_grows w hg s x 23 hop 29 i0 Go.Proofs.Ytlfacjpehhcdiaa.zr 1 24 Try.underlying23 hi hz0 hz1 hz2 rfl (by decide) ao m co (flatR rs) hs (fun e => ?_) (by rw [flatR_len]; omega) (fun b' e j u hu => ?_) ad nx cx (flatR qs) hx (by rw [fq]; omega) (hc ad rfl) one (by omega) (by unfold maxLen; omega) (by omega) ?_
        · rcases hA.at' with h1 | ⟨g, o', cur, e', _⟩
          · exact ⟨h1.2.1, h1.2.2⟩
          · rw [e] at e'; cases e'
        · rcases hA.at' with ⟨h1, _⟩ | ⟨g, o', cur, e', _, hh, _, hcc⟩
          · rw [h1] at e; cases e
          · rw [e'] at e
            cases e
            rw [addr_add, cell_of_row _ _ _ _ _ _ hh]
            exact hcc j u hu
        · intro v' w' hown hgr
          rcases hown.2 with ⟨_, h00⟩ | ⟨g, cap', cur, rfl, hge, hh, hle, hmx, hsz, htk⟩
          · omega
          · refine hK _ _ w' none ⟨by rw [List.length_append, hl, hm0], ⟨hle, hmx⟩, .inr ⟨g, 0, cur, rfl, Nat.le_trans hlo hge, hh, by omega, fun j u hu => ?_⟩, fun q hq' => ?_⟩ hgr (fun y e => by cases e) (fun y h => ?_)
            · rw [Nat.zero_add]
              rw [efl, ← htk, List.getElem?_take] at hu
              split at hu
              · simpa using hu
              · cases hu
            · rcases List.mem_append.1 hq' with h | h
              · exact (hA.each q h).keep hgr
              · exact (hq q h).keep hgr
            · obtain ⟨oo, ss, e⟩ := h
              cases e
              exact .inr hge
end
end
end Go.Proofs.Ytlfacjpehhcdiaa
