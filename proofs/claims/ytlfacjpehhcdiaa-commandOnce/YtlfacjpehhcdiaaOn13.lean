import Derived.Test.YtlfacjpehhcdiaaOn8
import Derived.Test.YtlfacjpehhcdiaaOn12
import Derived.Deep.RegionHeld3
import Derived.Test.YtlfacjpehhcdiaaOn5
namespace Go.Proofs.Ytlfacjpehhcdiaa
open Go.RowKit
set_option maxRecDepth 100000
set_option linter.unusedVariables false
set_option linter.unusedSimpArgs false

section
/-- a link's cells -/
def lkA (d : Hd) (H : Hx) (x : Nat × Bool × Bool) (W O D : Value) (a : Nat) (z : Int) (he : Bool) : Array Value := #[.int .i64 d.cr, .int .i64 d.nx, .int .i64 d.ah, .slice H.sa H.sn H.sc, .slice H.qa H.qn H.qc, .int .i64 d.ti, .int .i64 d.pa, .int .i64 d.tr, .int .i64 d.li, .int .i64 d.si, .int .i64 d.pu, .int .i64 d.hl, .int .i64 3, .int .i64 (x.1 : Int), .int .i64 127, .bool false, .bool x.2.1, .bool x.2.2, .int .i64 0, W, O, D, .int .i64 (a : Int), .int .i64 z, .bool he]
def haC (d : Hd) (H : Hx) : List Value := [.int .i64 d.cr, .int .i64 d.nx, .int .i64 d.ah, .slice H.sa H.sn H.sc, .slice H.qa H.qn H.qc, .int .i64 d.ti, .int .i64 d.pa, .int .i64 d.tr, .int .i64 d.li, .int .i64 d.si, .int .i64 d.pu, .int .i64 d.hl]
def gaC (x : Nat × Bool × Bool) : List Value := [.int .i64 3, .int .i64 (x.1 : Int), .int .i64 127, .bool false, .bool x.2.1, .bool x.2.2, .int .i64 0]
theorem setA_ha (d d2 : Hd) (H H2 : Hx) (x : Nat × Bool × Bool) (W O D : Value) (a : Nat) (z : Int) (he : Bool) : setA (lkA d H x W O D a z he) 0 (haC d2 H2) = lkA d2 H2 x W O D a z he := by
  simp [setA, haC, lkA]
theorem setA_ga (d : Hd) (H : Hx) (x x2 : Nat × Bool × Bool) (W O D : Value) (a : Nat) (z : Int) (he : Bool) : setA (lkA d H x W O D a z he) 12 (gaC x2) = lkA d H x2 W O D a z he := by
  simp [setA, gaC, lkA]
theorem Try.info_lk : (Try.prog.info? 31).map (fun i => i.size) = some 25 := by kernel_rfl
/-- where all of it lies -/
structure Lx where
  h : Hx
  rs : List Rw
  qs : List Rw
  wa : Option Addr
  wn : Nat
  wc : Nat
  wr : List Rw
  oa : Option Addr
  on : Nat
  oc : Nat
  or' : List Rw
  da : Option Addr
  dn : Nat
  dc : Nat
  z : Int
/-- all of a link but its box -/
structure LC (wB w : World) (gl : Nat) (l : Lk) (X : Lx) : Prop where
  bx : ∃ cs, BxS w gl 31 cs
  lo : wB.heap.size ≤ gl
  gr : wB.grownBy w none
  hd : OwHd w wB.heap.size X.h X.rs X.qs l.d
  wy : RO w wB.heap.size X.wa X.wn X.wc X.wr
  od : RO w wB.heap.size X.oa X.on X.oc X.or'
  wD : Hid (X.wr.map Rw.D = l.way.map frm)
  oD : Hid (X.or'.map Rw.D = l.old.map frm)
  dn : Ans w wB.heap.size X.da X.dn X.dc (List.range l.x.1)
  zz : l.he = true → X.z = l.z
  s1 : ∀ y, Hb X.wa y → ¬ Hb X.oa y
  s2 : ∀ y, Hb X.wa y → ¬ Hbl X.h X.rs X.qs y
  s3 : ∀ y, Hb X.oa y → ¬ Hbl X.h X.rs X.qs y
  s4 : ∀ y, (Value.slice X.da X.dn X.dc).ownBlock = some y → ¬ Hbl X.h X.rs X.qs y
  s5 : ∀ y, (Value.slice X.da X.dn X.dc).ownBlock = some y → ∀ r, r ∈ X.wr ++ X.or' → r.v.ownBlock ≠ some y
/-- A LINK IN MEMORY -/
structure LM (wB w : World) (gl : Nat) (l : Lk) (X : Lx) : Prop where
  c : LC wB w gl l X
  bx : BxS w gl 31 (lkA l.d X.h l.x (.slice X.wa X.wn X.wc) (.slice X.oa X.on X.oc) (.slice X.da X.dn X.dc) l.a X.z l.he)
theorem LC.keep {wB w w' : World} {gl : Nat} {l : Lk} {X : Lx} (h : LC wB w gl l X) (hg : w.grownBy w' none) : LC wB w' gl l X := by
  obtain ⟨cs, hb⟩ := h.bx
  exact ⟨⟨cs, hb.keep hg (by simp)⟩, h.lo, grown_trans h.gr hg, h.hd.keep hg, h.wy.keep hg, h.od.keep hg, h.wD, h.oD, h.dn.keep hg, h.zz, h.s1, h.s2, h.s3, h.s4, h.s5⟩
theorem LM.keep {wB w w' : World} {gl : Nat} {l : Lk} {X : Lx} (h : LM wB w gl l X) (hg : w.grownBy w' none) : LM wB w' gl l X := ⟨h.c.keep hg, h.bx.keep hg (by simp)⟩
theorem RO.kr {w w' : World} {lo : Nat} {a : Option Addr} {n c : Nat} {rs : List Rw} {r : Option Nat} (h : RO w lo a n c rs) (hg : w.grownBy w' r) (h1 : ∀ y, r = some y → ¬ Hb a y) (h2 : ∀ y, r = some y → ∀ q, q ∈ rs → q.v.ownBlock ≠ some y) : RO w' lo a n c rs := by
  refine ⟨h.len, h.max, ?_, fun q hq => (h.each q hq).kept hg ?_⟩
  · rcases h.at' with e | ⟨g, o, cur, e, hl, hh, hs, hc⟩
    · exact .inl e
    · refine .inr ⟨g, o, cur, e, hl, ?_, hs, hc⟩
      rw [hg.block g (Array.getElem?_eq_some_iff.1 hh).1 (fun e2 => h1 g e2.symm ⟨o, none, e⟩)]
      exact hh
  · cases e : (Value.slice q.a q.n q.c).ownBlock with
    | none => exact .inl rfl
    | some x => exact .inr (fun e2 => h2 x e2.symm q hq e)
theorem LC.st {wB w2 w3 : World} {gl : Nat} {l : Lk} {X : Lx} (h : LC wB w2 gl l X) (hb : BxS w3 gl 31 (lkA l.d X.h l.x (.slice X.wa X.wn X.wc) (.slice X.oa X.on X.oc) (.slice X.da X.dn X.dc) l.a X.z l.he)) (u : w2.grownBy w3 (some gl)) : LM wB w3 gl l X := by
  obtain ⟨cs, b⟩ := h.bx
  have hh : ∀ x, Hbl X.h X.rs X.qs x → ¬ some gl = some x := fun x hx e => by
    have e := Option.some.inj e
    subst e
    rcases hx with hx | hx
    · exact ofr_box h.hd.s.o b (by decide) (by decide) hx rfl
    · exact ofr_box h.hd.q.o b (by decide) (by decide) hx rfl
  have kR : ∀ {a : Option Addr} {n c : Nat} {rs : List Rw}, RO w2 wB.heap.size a n c rs → RO w3 wB.heap.size a n c rs := fun k => k.kept u (fun y e hy => by
    have e := Option.some.inj e
    subst e
    obtain ⟨cs2, b2⟩ := (k.hlo hy).2.2
    exact BxS.apart b b2 (by decide) rfl) (fun y e => by have e := Option.some.inj e; subst e; exact ⟨_, cs, b, by decide⟩)
  refine ⟨⟨⟨_, hb⟩, h.lo, grown_far h.gr u (fun z e => by cases e; exact h.lo), h.hd.fz (fz_of2 u) hh, kR h.wy, kR h.od, h.wD, h.oD, h.dn.kept u ?_, h.zz, h.s1, h.s2, h.s3, h.s4, h.s5⟩, hb⟩
  cases e : (Value.slice X.da X.dn X.dc).ownBlock with
  | none => exact .inl rfl
  | some x => exact .inr (fun e2 => by have e2 := Option.some.inj e2; subst e2; exact h.dn.box b (by decide) e)
theorem ans_ltK {w : World} {lo : Nat} {a : Option Addr} {n c : Nat} {L : List Nat} (h : Ans w lo a n c L) {y : Nat} (e : (Value.slice a n c).ownBlock = some y) : y < w.heap.size := by
  rcases h.own.2 with ⟨h1, _⟩ | ⟨g', cap', cur, h1, _, h3, _⟩
  · rw [h1] at e; cases e
  · rw [h1] at e
    have e : g' = y := Option.some.inj e
    subst e
    exact (Array.getElem?_eq_some_iff.1 h3).1
/-- the hand is another, in new memory -/
theorem LC.hand {wB w w2 : World} {gl : Nat} {l : Lk} {X : Lx} (h : LC wB w gl l X) (u : w.grownBy w2 none) {H : Hx} {rs qs : List Rw} {d : Hd} (ho : OwHd w2 w.heap.size H rs qs d) (a : Nat) : LC wB w2 gl { l with d := d, a := a } ⟨H, rs, qs, X.wa, X.wn, X.wc, X.wr, X.oa, X.on, X.oc, X.or', X.da, X.dn, X.dc, X.z⟩ := by
  have h2 := h.keep u
  have hw : ∀ y, Hbl H rs qs y → w.heap.size ≤ y := fun y hy => ho.lo' y hy
  exact ⟨h2.bx, h2.lo, h2.gr, ⟨ho.s.wide h.gr.size, ho.q.wide h.gr.size, ho.ap⟩, h2.wy, h2.od, h2.wD, h2.oD, h2.dn, h2.zz, h2.s1, fun y hy hb => by have := hw y hb; have := (h.wy.hlo hy).2.1; omega, fun y hy hb => by have := hw y hb; have := (h.od.hlo hy).2.1; omega, fun y hy hb => by have := hw y hb; have := ans_ltK h.dn hy; omega, h2.s5⟩
/-- frames go on their way -/
theorem LC.send {wB w w2 : World} {gl : Nat} {l : Lk} {X : Lx} (h : LC wB w gl l X) {rr : Option Nat} (u : w.grownBy w2 rr) (hr : ∀ y, rr = some y → Hb X.wa y) {a : Option Addr} {n c : Nat} {us : List Rw} {N : List Nat} (hn : RO w2 wB.heap.size a n c (X.wr ++ us)) (hz : ∀ y, Hb a y → Hb X.wa y ∨ w.heap.size ≤ y) (hN : us.map Rw.D = N.map frm) (h5 : ∀ y, (Value.slice X.da X.dn X.dc).ownBlock = some y → ∀ r, r ∈ us → r.v.ownBlock ≠ some y) : LC wB w2 gl { l with way := l.way ++ N } ⟨X.h, X.rs, X.qs, a, n, c, X.wr ++ us, X.oa, X.on, X.oc, X.or', X.da, X.dn, X.dc, X.z⟩ := by
  obtain ⟨cs, b⟩ := h.bx
  have ht : ∀ y, rr = some y → ∃ cs, BxS w y 29 cs := fun y e => (h.wy.hlo (hr y e)).2.2
  have hlt : ∀ y, Hb a y → Hb X.oa y → False := fun y h1 h2 => by
    rcases hz y h1 with h3 | h3
    · exact h.s1 y h3 h2
    · have := (h.od.hlo h2).2.1; omega
  refine ⟨⟨cs, b.keep u (fun e => by obtain ⟨cs2, b2⟩ := ht gl e.symm; exact BxS.apart b b2 (by decide) rfl)⟩, h.lo, grown_far h.gr u (fun y e => (h.wy.hlo (hr y e)).1), h.hd.fz (fz_of2 u) (fun x hx e => h.s2 x (hr x e) hx), hn, h.od.kept u (fun y e hy => h.s1 y (hr y e) hy) (fun y e => by obtain ⟨cs2, b2⟩ := ht y e; exact ⟨_, cs2, b2, by decide⟩), ?_, h.oD, h.dn.kept u ?_, h.zz, hlt, fun y h1 hb => ?_, h.s3, h.s4, fun y hy r hr' => ?_⟩
  · show (X.wr ++ us).map Rw.D = (l.way ++ N).map frm
    rw [List.map_append, List.map_append, h.wD.out, hN]
  · cases e : (Value.slice X.da X.dn X.dc).ownBlock with
    | none => exact .inl rfl
    | some x => exact .inr (fun e2 => by obtain ⟨cs2, b2⟩ := ht x e2.symm; exact h.dn.box b2 (by decide) e)
  · rcases hz y h1 with h3 | h3
    · exact h.s2 y h3 hb
    · have := h.hd.hi y hb; omega
  · rcases List.mem_append.1 hr' with h1 | h1
    · rcases List.mem_append.1 h1 with h1 | h1
      · exact h.s5 y hy r (List.mem_append_left _ h1)
      · exact h5 y hy r h1
    · exact h.s5 y hy r (List.mem_append_right _ h1)
/-- .. and are kept -/
theorem LC.sendO {wB w w2 : World} {gl : Nat} {l : Lk} {X : Lx} (h : LC wB w gl l X) {rr : Option Nat} (u : w.grownBy w2 rr) (hr : ∀ y, rr = some y → Hb X.oa y) {a : Option Addr} {n c : Nat} {us : List Rw} {N : List Nat} (hn : RO w2 wB.heap.size a n c (X.or' ++ us)) (hz : ∀ y, Hb a y → Hb X.oa y ∨ w.heap.size ≤ y) (hN : us.map Rw.D = N.map frm) (h5 : ∀ y, (Value.slice X.da X.dn X.dc).ownBlock = some y → ∀ r, r ∈ us → r.v.ownBlock ≠ some y) : LC wB w2 gl { l with old := l.old ++ N } ⟨X.h, X.rs, X.qs, X.wa, X.wn, X.wc, X.wr, a, n, c, X.or' ++ us, X.da, X.dn, X.dc, X.z⟩ := by
  obtain ⟨cs, b⟩ := h.bx
  have ht : ∀ y, rr = some y → ∃ cs, BxS w y 29 cs := fun y e => (h.od.hlo (hr y e)).2.2
  have hlt : ∀ y, Hb X.wa y → Hb a y → False := fun y h1 h2 => by
    rcases hz y h2 with h3 | h3
    · exact h.s1 y h1 h3
    · have := (h.wy.hlo h1).2.1; omega
  refine ⟨⟨cs, b.keep u (fun e => by obtain ⟨cs2, b2⟩ := ht gl e.symm; exact BxS.apart b b2 (by decide) rfl)⟩, h.lo, grown_far h.gr u (fun y e => (h.od.hlo (hr y e)).1), h.hd.fz (fz_of2 u) (fun x hx e => h.s3 x (hr x e) hx), h.wy.kept u (fun y e hy => h.s1 y hy (hr y e)) (fun y e => by obtain ⟨cs2, b2⟩ := ht y e; exact ⟨_, cs2, b2, by decide⟩), hn, h.wD, ?_, h.dn.kept u ?_, h.zz, hlt, h.s2, fun y h1 hb => ?_, h.s4, fun y hy r hr' => ?_⟩
  · show (X.or' ++ us).map Rw.D = (l.old ++ N).map frm
    rw [List.map_append, List.map_append, h.oD.out, hN]
  · cases e : (Value.slice X.da X.dn X.dc).ownBlock with
    | none => exact .inl rfl
    | some x => exact .inr (fun e2 => by obtain ⟨cs2, b2⟩ := ht x e2.symm; exact h.dn.box b2 (by decide) e)
  · rcases hz y h1 with h3 | h3
    · exact h.s3 y h3 hb
    · have := h.hd.hi y hb; omega
  · rcases List.mem_append.1 hr' with h1 | h1
    · exact h.s5 y hy r (List.mem_append_left _ h1)
    · rcases List.mem_append.1 h1 with h1 | h1
      · exact h.s5 y hy r (List.mem_append_right _ h1)
      · exact h5 y hy r h1
/-- the first one is taken off -/
theorem LC.first {wB w : World} {gl : Nat} {l : Lk} {X : Lx} (h : LC wB w gl l X) {a : Option Addr} {n c k : Nat} {W : List Nat} (hW : l.way = k :: W) (hn : RO w wB.heap.size a n c (X.wr.drop 1)) (hz : ∀ y, Hb a y → Hb X.wa y) : LC wB w gl { l with way := W } ⟨X.h, X.rs, X.qs, a, n, c, X.wr.drop 1, X.oa, X.on, X.oc, X.or', X.da, X.dn, X.dc, X.z⟩ := by
  refine ⟨h.bx, h.lo, h.gr, h.hd, hn, h.od, ?_, h.oD, h.dn, h.zz, fun y hy => h.s1 y (hz y hy), fun y hy => h.s2 y (hz y hy), h.s3, h.s4, fun y hy r hr => ?_⟩
  · show (X.wr.drop 1).map Rw.D = W.map frm
    rw [List.map_drop, h.wD.out, hW]
    rfl
  · rcases List.mem_append.1 hr with h1 | h1
    · exact h.s5 y hy r (List.mem_append_left _ (List.mem_of_mem_drop h1))
    · exact h.s5 y hy r (List.mem_append_right _ h1)
/-- the gate is another, nothing is let in -/
theorem LC.gate {wB w : World} {gl : Nat} {l : Lk} {X : Lx} (h : LC wB w gl l X) (x : Nat × Bool × Bool) (hx : x.1 = l.x.1) (he : l.he = false) : LC wB w gl { l with x := x } X :=
  ⟨h.bx, h.lo, h.gr, h.hd, h.wy, h.od, h.wD, h.oD, by show Ans w _ _ _ _ (List.range x.1); rw [hx]; exact h.dn, (fun e => by have e : l.he = true := e; rw [he] at e; cases e), h.s1, h.s2, h.s3, h.s4, h.s5⟩
/-- a command is let in -/
theorem LC.done {wB w w2 : World} {gl : Nat} {l : Lk} {X : Lx} (h : LC wB w gl l X) (u : w.grownBy w2 (Value.slice X.da X.dn X.dc).ownBlock) {a : Option Addr} {n c : Nat} (x : Nat × Bool × Bool) (ho : Ans w2 wB.heap.size a n c (List.range x.1)) (hz : ∀ y, (Value.slice a n c).ownBlock = some y → (Value.slice X.da X.dn X.dc).ownBlock = some y ∨ w.heap.size ≤ y) (he : l.he = false) : LC wB w2 gl { l with x := x } ⟨X.h, X.rs, X.qs, X.wa, X.wn, X.wc, X.wr, X.oa, X.on, X.oc, X.or', a, n, c, X.z⟩ := by
  obtain ⟨cs, b⟩ := h.bx
  have hb8 : ∀ y, (Value.slice X.da X.dn X.dc).ownBlock = some y → ∃ cs, BxS w y 5 cs := fun y e => by
    rcases h.dn.own.2 with ⟨h1, _⟩ | ⟨g', cap', cur, h1, _, h3, _⟩
    · rw [h1] at e; cases e
    · rw [h1] at e
      have e : g' = y := Option.some.inj e
      subst e
      exact ⟨cur, h3⟩
  have hRO : ∀ {a : Option Addr} {n c : Nat} {rs : List Rw}, RO w wB.heap.size a n c rs → (∀ r, r ∈ rs → r ∈ X.wr ++ X.or') → RO w2 wB.heap.size a n c rs := fun k hk => k.kr u (fun y e hy => by
    obtain ⟨c1, b1⟩ := hb8 y e
    obtain ⟨c2, b2⟩ := (k.hlo hy).2.2
    exact BxS.apart b1 b2 (by decide) rfl) (fun y e q hq => h.s5 y e q (hk q hq))
  refine ⟨⟨cs, b.keep u (fun e => h.dn.box b (by decide) e.symm)⟩, h.lo, grown_far h.gr u (fun y e => h.dn.new y e), h.hd.fz (fz_of2 u) (fun y hy e => h.s4 y e hy), hRO h.wy (fun r hr => List.mem_append_left _ hr), hRO h.od (fun r hr => List.mem_append_right _ hr), h.wD, h.oD, ho, (fun e => by have e : l.he = true := e; rw [he] at e; cases e), h.s1, h.s2, h.s3, fun y hy hb => ?_, fun y hy r hr e => ?_⟩
  · rcases hz y hy with h1 | h1
    · exact h.s4 y h1 hb
    · have := h.hd.hi y hb; omega
  · rcases hz y hy with h1 | h1
    · exact h.s5 y h1 r hr e
    · have hA : Ans w wB.heap.size r.a r.n r.c r.D := by
        rcases List.mem_append.1 hr with h2 | h2
        · exact h.wy.each r h2
        · exact h.od.each r h2
      have := ans_ltK hA e
      omega
/-- what is reported -/
theorem LC.told {wB w : World} {gl : Nat} {l : Lk} {X : Lx} (h : LC wB w gl l X) (he : Bool) (z : Int) (hz : he = true → z = l.z) : LC wB w gl { l with he := he } ⟨X.h, X.rs, X.qs, X.wa, X.wn, X.wc, X.wr, X.oa, X.on, X.oc, X.or', X.da, X.dn, X.dc, z⟩ :=
  ⟨h.bx, h.lo, h.gr, h.hd, h.wy, h.od, h.wD, h.oD, h.dn, hz, h.s1, h.s2, h.s3, h.s4, h.s5⟩
end

section
section
variable {P : Program} {ops : Array Oper} {Q : Exit → Act → World → Prop} {md : Region.Mode} {S : World → Prop}
/-- whatever order is picked from here on, and S holds behind every operation but those of Z, the last ones -/
def wpAnyY (P : Program) (md : Region.Mode) (ops : Array Oper) (Q : Exit → Act → World → Prop) (S : World → Prop) (Z : List Nat) : Nat → Array Bool → Act → World → Prop
  | 0, listed, a, w => Region.ready md ops listed = [] ∧ Q .normal a w
  | fuel + 1, listed, a, w =>
    (Region.ready md ops listed = [] → Q .normal a w) ∧
    ∀ i ∈ Region.ready md ops listed, wpOp P ops Q i (fun a' w' => (S w → i ∉ Z → S w') ∧ wpAnyY P md ops Q S Z fuel (listed.setIfInBounds i true) a' w') a w
theorem wpAny_of_Y (Z : List Nat) : ∀ (fuel : Nat) (listed : Array Bool) (a : Act) (w : World), wpAnyY P md ops Q S Z fuel listed a w → wpAny P md ops Q fuel listed a w
  | 0, _, _, _, h => h
  | fuel + 1, _, _, _, h => ⟨h.1, fun i hi => wpOp_mono (fun a' w' h' => wpAny_of_Y Z fuel _ a' w' h'.2) (h.2 i hi)⟩
theorem wpAnyY_first {Z C : List Nat} (hz : ∀ z, z ∈ Z → z ∈ C) {i : Nat} {oi : Oper} {v : Value} (hi : ops[i]? = some oi) (hsel : ∀ (j : Nat) (o : Oper) cs b, ops[j]? = some o → o.op ≠ .select cs b)
    (hQ : ∀ c a w, Q (.panic c) (a.put oi.dst v) w → Q (.panic c) a w) :
    ∀ (fuel : Nat) (listed : Array Bool) (a : Act) (w : World),
      (∀ j oj, ops[j]? = some oj → j ≠ i → listed.getD j true = false → (∀ e ∈ oj.after, Region.binds md e = true → e.on ≠ i) → oi.apart ops oj = true) →
      i ∈ Region.ready md ops listed → waitZ md ops listed i C = true → YieldsIf P ops S oi v a → S w →
      wpAnyY P md ops Q S Z fuel (listed.setIfInBounds i true) (a.put oi.dst v) w → wpAnyY P md ops Q S Z (fuel + 1) listed a w := by
  intro fuel
  induction fuel with
  | zero =>
    intro listed a w _ hr hW hy hS H
    refine ⟨fun h => (by rw [h] at hr; cases hr), fun j hj => ?_⟩
    by_cases hji : j = i
    · subst hji; exact hy.wpOp hi hS ⟨fun h _ => h, H⟩
    · have := ready_mono hj hji
      rw [H.1] at this
      cases this
  | succ fuel ih =>
    intro listed a w hfree hr hW hy hS H
    refine ⟨fun h => (by rw [h] at hr; cases hr), fun j hj => ?_⟩
    by_cases hji : j = i
    · subst hji; exact hy.wpOp hi hS ⟨fun h _ => h, H⟩
    · have hjC := waitZ_no hW hr hj
      have hjz : j ∉ Z := fun e => hjC (hz j e)
      have h1 := H.2 j (ready_mono hj hji)
      obtain ⟨hjun, oj, hoj, hall⟩ := mem_ready.1 hj
      have hnot : ∀ e ∈ oj.after, Region.binds md e = true → e.on ≠ i := fun e he hb heq => by
        have h1 := hall e he hb
        have h0 := (mem_ready.1 hr).1
        rw [heq] at h1
        rcases Nat.lt_or_ge i listed.size with h' | h'
        · simp [h'] at h0 h1; rw [h0] at h1; cases h1
        · simp [Array.getElem?_eq_none h'] at h1
      have h2 := wpOp_putIf hoj (hfree j oj hoj hji hjun hnot) (fun cs b => hsel i oi cs b hi) (fun cs b => hsel j oj cs b hoj) hQ hy h1
      have hfree' : ∀ k ok, ops[k]? = some ok → k ≠ i → (listed.setIfInBounds j true).getD k true = false →
          (∀ e ∈ ok.after, Region.binds md e = true → e.on ≠ i) → oi.apart ops ok = true := fun k ok hk hki hun hno => by
        refine hfree k ok hk hki ?_ hno
        by_cases hjk : j = k
        · subst hjk; exact hjun
        · rw [getD_set_ne true hjk] at hun; exact hun
      refine wpOp_mono (fun a' w' h3 => ⟨h3.2.1, ih (listed.setIfInBounds j true) a' w' hfree' (ready_mono hr (Ne.symm hji)) (waitZ_step hW hjC) h3.1 (h3.2.1 hS hjz) ?_⟩) h2
      rw [Array.setIfInBounds_comm _ _ hji]
      exact h3.2.2
/-- take number i first -/
theorem wpAnyY_take {Z : List Nat} (C : List Nat) (i : Nat) {oi : Oper} (v : Value) {fuel : Nat} {listed : Array Bool} {a : Act} {w : World} (hi : ops[i]? = some oi)
    (hs : ((Z.all fun z => C.contains z) && Region.noSelect ops && Region.free md ops listed i && (Region.ready md ops listed).contains i && waitZ md ops listed i C) = true)
    (hQ : ∀ c a w, Q (.panic c) (a.put oi.dst v) w → Q (.panic c) a w) (hS : S w) (hw : Region.wanted oi (yielded ops a.tmps) = true) (hy : ∀ w, S w → (execOp a.eval oi).run P w = .ok (.value v) w)
    (h : wpAnyY P md ops Q S Z fuel (listed.setIfInBounds i true) (a.put oi.dst v) w) : wpAnyY P md ops Q S Z (fuel + 1) listed a w := by
  simp only [Bool.and_eq_true, List.contains_iff_mem, List.all_eq_true] at hs
  exact wpAnyY_first hs.1.1.1.1 hi (Region.noSelect_spec hs.1.1.1.2) hQ fuel listed a w (Region.free_spec hi hs.1.1.2) hs.1.2 hs.2 (.inl ⟨hw, hy⟩) hS h
/-- one alone may come up -/
theorem wpAnyY_one {Z : List Nat} (i : Nat) {o : Oper} {fuel : Nat} {listed : Array Bool} {a : Act} {w : World} (ho : ops[i]? = some o) (hr : Region.ready md ops listed = [i])
    (h : ∀ K' : Act → World → Prop, (∀ a' w', (S w → i ∉ Z → S w') → wpAnyY P md ops Q S Z fuel (listed.setIfInBounds i true) a' w' → K' a' w') → if Region.wanted o (yielded ops a.tmps) = true then Oper.wp P o a w K' Q else K' (a.put o.dst undef) w) :
    wpAnyY P md ops Q S Z (fuel + 1) listed a w := by
  refine ⟨fun h0 => (by rw [hr] at h0; cases h0), fun j hj => ?_⟩
  rw [hr] at hj
  have e := List.mem_singleton.1 hj
  subst e
  exact wpOp_step ho (fun K' hK => h K' (fun a w hS hW => hK a w ⟨hS, hW⟩))
theorem wpAnyY_done {Z : List Nat} {listed : Array Bool} {a : Act} {w : World} (hr : Region.ready md ops listed = []) (h : Q .normal a w) : ∀ fuel, wpAnyY P md ops Q S Z fuel listed a w
  | 0 => ⟨hr, h⟩
  | _ + 1 => ⟨fun _ => h, by rw [hr]; simp⟩
theorem wp_regionY {id : Nat} {a : Act} {w : World} (S : World → Prop) (Z : List Nat) (hm : P.follows .mixedOrders = true)
    (h : wpAnyY P .any ops Q S Z ops.size (Array.replicate ops.size false) a w.drew) : (Code.region id ops true).wp P Q a w :=
  wp_region_any hm (wpAny_of_Y Z _ _ _ _ h)
end

section
variable {P : Program} {ops : Array Oper} {Q : Exit → Act → World → Prop} {md : Region.Mode} {S : World → Prop}
/-- what yields in whatever world may be taken first, whatever of Z comes up ahead of it -/
theorem wpAnyY_firstF {Z : List Nat} {i : Nat} {oi : Oper} {v : Value} (hi : ops[i]? = some oi) (hsel : ∀ (j : Nat) (o : Oper) cs b, ops[j]? = some o → o.op ≠ .select cs b)
    (hQ : ∀ c a w, Q (.panic c) (a.put oi.dst v) w → Q (.panic c) a w) :
    ∀ (fuel : Nat) (listed : Array Bool) (a : Act) (w : World),
      (∀ j oj, ops[j]? = some oj → j ≠ i → listed.getD j true = false → (∀ e ∈ oj.after, Region.binds md e = true → e.on ≠ i) → oi.apart ops oj = true) →
      i ∈ Region.ready md ops listed → YieldsIf P ops (fun _ => True) oi v a →
      wpAnyY P md ops Q S Z fuel (listed.setIfInBounds i true) (a.put oi.dst v) w → wpAnyY P md ops Q S Z (fuel + 1) listed a w := by
  intro fuel
  induction fuel with
  | zero =>
    intro listed a w _ hr hy H
    refine ⟨fun h => (by rw [h] at hr; cases hr), fun j hj => ?_⟩
    by_cases hji : j = i
    · subst hji; exact hy.wpOp hi trivial ⟨fun h _ => h, H⟩
    · have := ready_mono hj hji
      rw [H.1] at this
      cases this
  | succ fuel ih =>
    intro listed a w hfree hr hy H
    refine ⟨fun h => (by rw [h] at hr; cases hr), fun j hj => ?_⟩
    by_cases hji : j = i
    · subst hji; exact hy.wpOp hi trivial ⟨fun h _ => h, H⟩
    · have h1 := H.2 j (ready_mono hj hji)
      obtain ⟨hjun, oj, hoj, hall⟩ := mem_ready.1 hj
      have hnot : ∀ e ∈ oj.after, Region.binds md e = true → e.on ≠ i := fun e he hb heq => by
        have h1 := hall e he hb
        have h0 := (mem_ready.1 hr).1
        rw [heq] at h1
        rcases Nat.lt_or_ge i listed.size with h' | h'
        · simp [h'] at h0 h1; rw [h0] at h1; cases h1
        · simp [Array.getElem?_eq_none h'] at h1
      have h2 := wpOp_putIf hoj (hfree j oj hoj hji hjun hnot) (fun cs b => hsel i oi cs b hi) (fun cs b => hsel j oj cs b hoj) hQ hy h1
      have hfree' : ∀ k ok, ops[k]? = some ok → k ≠ i → (listed.setIfInBounds j true).getD k true = false →
          (∀ e ∈ ok.after, Region.binds md e = true → e.on ≠ i) → oi.apart ops ok = true := fun k ok hk hki hun hno => by
        refine hfree k ok hk hki ?_ hno
        by_cases hjk : j = k
        · subst hjk; exact hjun
        · rw [getD_set_ne true hjk] at hun; exact hun
      refine wpOp_mono (fun a' w' h3 => ⟨h3.2.1, ih (listed.setIfInBounds j true) a' w' hfree' (ready_mono hr (Ne.symm hji)) h3.1 ?_⟩) h2
      rw [Array.setIfInBounds_comm _ _ hji]
      exact h3.2.2
theorem wpAnyY_takeF {Z : List Nat} (i : Nat) {oi : Oper} (v : Value) {fuel : Nat} {listed : Array Bool} {a : Act} {w : World} (hi : ops[i]? = some oi)
    (hs : (Region.noSelect ops && Region.free md ops listed i && (Region.ready md ops listed).contains i) = true)
    (hQ : ∀ c a w, Q (.panic c) (a.put oi.dst v) w → Q (.panic c) a w) (hw : Region.wanted oi (yielded ops a.tmps) = true) (hy : ∀ w, (execOp a.eval oi).run P w = .ok (.value v) w)
    (h : wpAnyY P md ops Q S Z fuel (listed.setIfInBounds i true) (a.put oi.dst v) w) : wpAnyY P md ops Q S Z (fuel + 1) listed a w := by
  simp only [Bool.and_eq_true, List.contains_iff_mem] at hs
  exact wpAnyY_firstF hi (Region.noSelect_spec hs.1.1) hQ fuel listed a w (Region.free_spec hi hs.1.2) hs.2 (.inl ⟨hw, fun w _ => hy w⟩) h
end
theorem wp_regionM {P : Program} {ops : Array Oper} {Q : Exit → Act → World → Prop} {id : Nat} {a : Act} {w : World} (S : World → Prop) (Z : List Nat) (L0 : Array Bool) (hL : Array.replicate ops.size false = L0) (hm : P.follows .mixedOrders = true)
    (h : wpAnyY P .any ops Q S Z ops.size L0 a w.drew) : (Code.region id ops true).wp P Q a w := by
  subst hL
  exact wp_regionY S Z hm h
theorem wpAnyY_oneB {P : Program} {ops : Array Oper} {Q : Exit → Act → World → Prop} {md : Region.Mode} {S : World → Prop} {Z : List Nat} (i : Nat) {o : Oper} {fuel : Nat} {listed : Array Bool} {a : Act} {w : World} (ho : ops[i]? = some o) (hr : (Region.ready md ops listed == [i]) = true)
    (h : ∀ K' : Act → World → Prop, (∀ a' w', (S w → i ∉ Z → S w') → wpAnyY P md ops Q S Z fuel (listed.setIfInBounds i true) a' w' → K' a' w') → if Region.wanted o (yielded ops a.tmps) = true then Oper.wp P o a w K' Q else K' (a.put o.dst undef) w) :
    wpAnyY P md ops Q S Z (fuel + 1) listed a w := wpAnyY_one i ho (eq_of_beq hr) h
theorem wpAnyY_doneB {P : Program} {ops : Array Oper} {Q : Exit → Act → World → Prop} {md : Region.Mode} {S : World → Prop} {Z : List Nat} {listed : Array Bool} {a : Act} {w : World} (hr : (Region.ready md ops listed == []) = true) (h : Q .normal a w) (fuel : Nat) : wpAnyY P md ops Q S Z fuel listed a w := wpAnyY_done (eq_of_beq hr) h fuel
/-- two may come up -/
theorem wpAnyY_twoB {P : Program} {ops : Array Oper} {Q : Exit → Act → World → Prop} {md : Region.Mode} {S : World → Prop} {Z : List Nat} (i j : Nat) {o o' : Oper} {fuel : Nat} {listed : Array Bool} {a : Act} {w : World} (ho : ops[i]? = some o) (ho' : ops[j]? = some o') (hr : (Region.ready md ops listed == [i, j]) = true)
    (h : ∀ K' : Act → World → Prop, (∀ a' w', (S w → i ∉ Z → S w') → wpAnyY P md ops Q S Z fuel (listed.setIfInBounds i true) a' w' → K' a' w') → if Region.wanted o (yielded ops a.tmps) = true then Oper.wp P o a w K' Q else K' (a.put o.dst undef) w)
    (h' : ∀ K' : Act → World → Prop, (∀ a' w', (S w → j ∉ Z → S w') → wpAnyY P md ops Q S Z fuel (listed.setIfInBounds j true) a' w' → K' a' w') → if Region.wanted o' (yielded ops a.tmps) = true then Oper.wp P o' a w K' Q else K' (a.put o'.dst undef) w) :
    wpAnyY P md ops Q S Z (fuel + 1) listed a w := by
  have hr := eq_of_beq hr
  refine ⟨fun h0 => (by rw [hr] at h0; cases h0), fun k hk => ?_⟩
  rw [hr] at hk
  rcases List.mem_cons.1 hk with e | hk
  · subst e
    exact wpOp_step ho (fun K' hK => h K' (fun a w hS hW => hK a w ⟨hS, hW⟩))
  · have e := List.mem_singleton.1 hk
    subst e
    exact wpOp_step ho' (fun K' hK => h' K' (fun a w hS hW => hK a w ⟨hS, hW⟩))
end

section
section
variable {w : World}
theorem BxS.rangeL {g : Nat} {t : TypeId} {A : Array Value} (h : BxS w g t A) (o : Nat) (cs : List Value) (hc : (A.toList.drop o).take cs.length = cs) : w.rangeAt g o cs := by
  intro j v hv
  rw [cell_of_row _ _ _ _ _ _ h]
  have hj : j < cs.length := (List.getElem?_eq_some_iff.1 hv).1
  rw [← hc, List.getElem?_take, if_pos hj, List.getElem?_drop] at hv
  rw [← hv]
  simp
theorem wpList_stPL {ops : Array Oper} {rest : List Oper} {o : Oper} {ac : Act} {Q : Exit → Act → World → Prop} (hg : o.guard = none) (t : TypeId) (p x : Operand) (hop : o.op = Op.store t p x)
    (g i : Nat) (ty : TypeId) (A A' B : Array Value) (hp : ac.eval p = .pointer (some ⟨g, i, none⟩)) (hx : ac.eval x = .agg B) (hB : BxS w g ty A) (hin : (Try.prog.info? t).map (·.size) = some B.size) (hi : i + B.size ≤ A.size) (h1 : B.all (·.oneCell') = true) (hA : setA A i B.toList = A')
    (hK : ∀ w', BxS w' g ty A' → w.grownBy w' (some g) → wpList Try.prog ops Q rest (ac.put o.dst undef) w') :
    wpList Try.prog ops Q (o :: rest) ac w := by
  obtain ⟨k1, k2⟩ := box_setA B.toList i w A hB
  rw [hA] at k1
  refine wpList_store_mid hg t p x hop g i B hp hx (fun j hj => ⟨?_, frozen_of_row w g _ _ _ hB⟩) hin h1 (hK _ k1 k2)
  rw [cell_of_row _ _ _ _ _ _ hB, Array.getElem?_eq_getElem (by omega)]
  rfl
theorem ldML {o : Oper} {a : Act} {t : TypeId} {p : Operand} {g off : Nat} {cs : List Value} {d : TypeDesc} (hop : o.op = Op.load t p) (hp : a.eval p = .pointer (some ⟨g, off, none⟩)) (hr : w.rangeAt g off cs) (hu : Try.prog.underlying t = some d) (hd : d.isRow = true) (hi : (Try.prog.info? t).map (·.size) = some cs.length) : (execOp a.eval o).run Try.prog w = .ok (.value (.agg cs.toArray)) w := by
  simp [execOp, hop, hp, run_loadAt_mid w g off t cs d hr hu hd hi, Result.andThen]
theorem step_of_listL {ops : Array Oper} {o : Oper} {a : Act} {K : Act → World → Prop} {Q : Exit → Act → World → Prop} {E : Prop} (hg : o.guard = none) (h : wpList Try.prog ops (Exit.then K (fun _ _ _ => False)) [o] a w) :
    if Region.wanted o (yielded ops a.tmps) = true then Oper.wp Try.prog o a w K Q else E := by
  have hw : Region.wanted o (yielded ops a.tmps) = true := by simp [Region.wanted, hg]
  rw [if_pos hw]
  unfold wpList at h
  rw [if_pos hw] at h
  rcases h with h | ⟨_, a', w', h⟩
  · unfold Oper.wp at *
    generalize (execOp a.eval o).run Try.prog w = r at *
    cases r with
    | ok n w' =>
      cases n <;> simp only [Oper.upon] at h ⊢ <;>
        first
          | exact h
          | exact Calls.mono h (fun e w'' he => by
              cases e with
              | returned v => exact he
              | panicked c => exact he.elim
              | outgrown => obtain ⟨a', w', he⟩ := he; exact he.elim)
          | exact Rows.mono h (fun _ _ he => he)
    | halt x w' =>
      cases x <;> simp only [Oper.upon] at h ⊢ <;> first | exact h | exact h.elim
  · exact h.elim
end
/-- the box is written, whatever -/
theorem LC.box {wB w2 w3 : World} {gl : Nat} {l : Lk} {X : Lx} (h : LC wB w2 gl l X) {A : Array Value} (hb : BxS w3 gl 31 A) (u : w2.grownBy w3 (some gl)) : LC wB w3 gl l X := by
  obtain ⟨cs, b⟩ := h.bx
  have hh : ∀ x, Hbl X.h X.rs X.qs x → ¬ some gl = some x := fun x hx e => by
    have e := Option.some.inj e
    subst e
    rcases hx with hx | hx
    · exact ofr_box h.hd.s.o b (by decide) (by decide) hx rfl
    · exact ofr_box h.hd.q.o b (by decide) (by decide) hx rfl
  have kR : ∀ {a : Option Addr} {n c : Nat} {rs : List Rw}, RO w2 wB.heap.size a n c rs → RO w3 wB.heap.size a n c rs := fun k => k.kept u (fun y e hy => by
    have e := Option.some.inj e
    subst e
    obtain ⟨cs2, b2⟩ := (k.hlo hy).2.2
    exact BxS.apart b b2 (by decide) rfl) (fun y e => by have e := Option.some.inj e; subst e; exact ⟨_, cs, b, by decide⟩)
  refine ⟨⟨_, hb⟩, h.lo, grown_far h.gr u (fun z e => by cases e; exact h.lo), h.hd.fz (fz_of2 u) hh, kR h.wy, kR h.od, h.wD, h.oD, h.dn.kept u ?_, h.zz, h.s1, h.s2, h.s3, h.s4, h.s5⟩
  cases e : (Value.slice X.da X.dn X.dc).ownBlock with
  | none => exact .inl rfl
  | some x => exact .inr (fun e2 => by have e2 := Option.some.inj e2; subst e2; exact h.dn.box b (by decide) e)
theorem LC.dl {wB w : World} {gl : Nat} {l : Lk} {X : Lx} (h : LC wB w gl l X) : X.dn = l.x.1 := by
  have := h.dn.len
  rw [List.length_range] at this
  omega
theorem LC.wl {wB w : World} {gl : Nat} {l : Lk} {X : Lx} (h : LC wB w gl l X) : X.wn = l.way.length := by
  have h9 := congrArg List.length h.wD.out
  rw [List.length_map, List.length_map] at h9
  have := h.wy.len
  omega
theorem LC.ol {wB w : World} {gl : Nat} {l : Lk} {X : Lx} (h : LC wB w gl l X) : X.on = l.old.length := by
  have h9 := congrArg List.length h.oD.out
  rw [List.length_map, List.length_map] at h9
  have := h.od.len
  omega
/-- one more is let in -/
theorem ans_more {w w' : World} {lo n c k g cap : Nat} {a : Option Addr} (h : Ans w lo a n c (List.range n)) (hk : k = n) (hn : n ≤ 100) (hlo : lo ≤ w.heap.size) (hor : (Value.slice a n c).ownBlock = some g ∨ w.heap.size ≤ g) (ho : w'.ownsRow 0 5 1 (.slice (some ⟨g, 0, none⟩) (n + 1) cap) (n + 1) (bys (List.range n) ++ [.int .u8 (k : Int)])) : Ans w' lo (some ⟨g, 0, none⟩) (n + 1) cap (List.range (n + 1)) := by
  refine ⟨?_, ?_, ?_⟩
  · rw [List.range_succ]
    subst hk
    unfold bys at ho ⊢
    rw [List.map_append]
    exact ho
  · intro x hx
    have := List.mem_range.1 hx
    omega
  · intro y e
    have e : g = y := Option.some.inj e
    subst e
    rcases hor with h1 | h1
    · exact h.new g h1
    · omega
end
end Go.Proofs.Ytlfacjpehhcdiaa
