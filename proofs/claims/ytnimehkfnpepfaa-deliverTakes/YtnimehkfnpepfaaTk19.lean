import Derived.Lib.AppendStr
import Derived.Deep.RegionLawGrows
import Derived.Test.YtnimehkfnpepfaaTk11
import Derived.Test.YtnimehkfnpepfaaTk2
import Derived.Test.YtnimehkfnpepfaaTk3
import Derived.Test.YtnimehkfnpepfaaTk4
import Derived.Test.YtnimehkfnpepfaaTk7
import Derived.Test.YtnimehkfnpepfaaTk9
import Derived.Test.YtnimehkfnpepfaaTk6
import Derived.Test.YtnimehkfnpepfaaTk8
import Derived.Test.YtnimehkfnpepfaaTk18
import Derived.Test.YtnimehkfnpepfaaTk16
namespace Go.Proofs.Ytnimehkfnpepfaa
open Go.RowKit
set_option maxRecDepth 100000
set_option linter.unusedVariables false
set_option linter.unusedSimpArgs false

section
/-- pairs at a slice that need not begin at its row's head, in new memory -/
structure OgP (w : World) (lo : Nat) (q : Option Addr) (m d : Nat) (G : List (Int × Int)) : Prop where
  len : G.length = m
  le : m ≤ d
  max : d ≤ maxLen
  nil : q = none → d = 0
  at' : 0 < m → ∃ g off cur, q = some ⟨g, off, none⟩ ∧ lo ≤ g ∧ BxS w g 82 cur ∧ off + m * 2 ≤ cur.size ∧ ∀ i, i < m * 2 → cur[off + i]? = (flP G)[i]?
section
variable {w w' : World} {lo : Nat} {q : Option Addr} {m d : Nat} {G : List (Int × Int)}
theorem OgP.rd (h : OgP w lo q m d G) : RdG w q m d (giF G) :=
  ⟨h.le, h.max, h.nil, fun h0 => by
    obtain ⟨g, off, cur, rfl, hl, hb, hs, hc⟩ := h.at' h0
    refine ⟨g, off, rfl, hb.lt, fun i hi => ?_⟩
    have hG : i < G.length := by rw [h.len]; exact hi
    have e : giF G i = G[i] := by unfold giF; rw [List.getD_eq_getElem?_getD, List.getElem?_eq_getElem hG]; rfl
    have f0 : (flP G)[i * 2]? = some (.int .i64 (giF G i).1) := by
      have := flP_drop G i
      have h2 : (flP G)[i * 2 + 0]? = ((flP G).drop (i * 2))[0]? := by rw [List.getElem?_drop]
      rw [Nat.add_zero] at h2
      rw [h2, this, List.drop_eq_getElem_cons hG, e]; rfl
    have f1 : (flP G)[i * 2 + 1]? = some (.int .i64 (giF G i).2) := by
      have := flP_drop G i
      have h2 : (flP G)[i * 2 + 1]? = ((flP G).drop (i * 2))[1]? := by rw [List.getElem?_drop]
      rw [h2, this, List.drop_eq_getElem_cons hG, e]; rfl
    have k0 := hc (i * 2) (by omega)
    have k1 := hc (i * 2 + 1) (by omega)
    rw [f0] at k0
    rw [f1] at k1
    have hb' : w.heap[g]? = some (.cells cur 82) := hb
    exact ⟨by rw [cell_of_row w g _ _ _ _ hb']; exact k0, by rw [cell_of_row w g _ _ _ _ hb', Nat.add_assoc]; exact k1⟩⟩
theorem OgP.kR (h : OgP w lo q m d G) {r : Option Nat} (u : w.grownBy w' r) (hr : ∀ z, r = some z → ¬ ∃ cs, BxS w z 82 cs) : OgP w' lo q m d G :=
  ⟨h.len, h.le, h.max, h.nil, fun h0 => by
    obtain ⟨g, off, cur, e, hl, hb, hs, hc⟩ := h.at' h0
    exact ⟨g, off, cur, e, hl, hb.keep u (fun e2 => hr g e2.symm ⟨cur, hb⟩), hs, hc⟩⟩
theorem OgP.keep (h : OgP w lo q m d G) (u : w.grownBy w' none) : OgP w' lo q m d G := h.kR u (fun z e => by cases e)
theorem OgP.bx (h : OgP w lo q m d G) {g : Nat} {t : TypeId} {cs : Array Value} (hb : BxS w g t cs) (ht : 82 ≠ t) (u : w.grownBy w' (some g)) : OgP w' lo q m d G :=
  h.kR u (fun z e ⟨cs2, hb2⟩ => by have e := Option.some.inj e; subst e; exact BxS.apart hb2 hb ht rfl)
/-- the first one is written -/
theorem OgP.head {x y e : Int} {g off : Nat} {cur : Array Value} (h : OgP w lo (some ⟨g, off, none⟩) m d ((x, y) :: G)) (hb : BxS w g 82 cur) (hb' : BxS w' g 82 (cur.setIfInBounds off (.int .i64 e))) : OgP w' lo (some ⟨g, off, none⟩) m d ((e, y) :: G) := by
  have hl : m = G.length + 1 := by have := h.len; rw [List.length_cons] at this; omega
  refine ⟨h.len, h.le, h.max, h.nil, fun h0 => ?_⟩
  obtain ⟨g', off', cur', e', hlo, hb2, hs, hc⟩ := h.at' h0
  cases e'
  have e1 : cur' = cur := by
    have hb : w.heap[g]? = some (.cells cur 82) := hb
    have hb2 : w.heap[g]? = some (.cells cur' 82) := hb2
    rw [hb2] at hb
    injection hb with hb
    injection hb
  subst e1
  refine ⟨g, off, _, rfl, hlo, hb', by simpa using hs, fun i hi => ?_⟩
  rw [Array.getElem?_setIfInBounds]
  by_cases h1 : off = off + i
  · rw [if_pos h1]
    obtain rfl : i = 0 := by omega
    rw [if_pos (by omega)]
    rfl
  · rw [if_neg h1, hc i hi]
    obtain ⟨j, rfl⟩ : ∃ j, i = j + 1 := ⟨i - 1, by omega⟩
    rfl
end
/-- one note more -/
theorem OwN.push {w w' : World} {lo : Nat} {na : Option Addr} {nn nc : Nat} {xs : List Nx} (h : OwN w lo na nn nc xs) {x : Nx} (hxA : Ans w lo x.a x.da.length x.c x.da) (hxO : OwGi w lo x.q x.ga.length x.d x.ga) (hsep : ∀ z, ((Value.slice x.a x.da.length x.c).ownBlock = some z ∨ (Value.slice x.q x.ga.length x.d).ownBlock = some z) → ¬ Nbl na nn nc xs z)
    {gx cx : Nat} (hl : lo ≤ w.heap.size) (hor : (Value.slice na nn nc).ownBlock = some gx ∨ w.heap.size ≤ gx) (u : w.grownBy w' (Value.slice na nn nc).ownBlock) (hO : w'.ownsRow 0 27 10 (.slice (some ⟨gx, 0, none⟩) (nn + 1) cx) (nn + 1) (flN xs ++ x.cells)) : OwN w' lo (some ⟨gx, 0, none⟩) (nn + 1) cx (xs ++ [x]) := by
  have hrow : ∀ z, (Value.slice na nn nc).ownBlock = some z → ∃ cs, BxS w z 27 cs := fun z e => own_bxS h.own e
  have kA : ∀ {y : Nx}, Ans w lo y.a y.da.length y.c y.da → Ans w' lo y.a y.da.length y.c y.da := fun hy => hy.kRR u (fun z e e2 => by obtain ⟨cs, hb⟩ := hrow z e; exact own_ty hy.own hb (by decide) e2)
  have kO : ∀ {y : Nx}, OwGi w lo y.q y.ga.length y.d y.ga → OwGi w' lo y.q y.ga.length y.d y.ga := fun hy => hy.kR u (fun z e => by obtain ⟨cs, hb⟩ := hrow z e; exact hy.neB hb (by decide))
  refine ⟨by rw [flN_add]; exact hO, by rw [List.length_append, h.len]; rfl, (fun z e => ?_), (fun y hy => ?_), (fun y hy => ?_), ?_, ?_⟩
  · have e : gx = z := Option.some.inj e
    subst e
    rcases hor with e | e
    · exact h.new _ e
    · omega
  · rcases List.mem_append.1 hy with hy | hy
    · exact kA (h.eA y hy)
    · rw [List.mem_singleton.1 hy]; exact kA hxA
  · rcases List.mem_append.1 hy with hy | hy
    · exact kO (h.eO y hy)
    · rw [List.mem_singleton.1 hy]; exact kO hxO
  · refine List.pairwise_append.2 ⟨h.pA, List.pairwise_singleton _ _, fun y hy z hz g e e2 => ?_⟩
    rw [List.mem_singleton.1 hz] at e2
    exact hsep g (.inl e2) (.inr ⟨y, hy, .inl e⟩)
  · refine List.pairwise_append.2 ⟨h.pO, List.pairwise_singleton _ _, fun y hy z hz g e e2 => ?_⟩
    rw [List.mem_singleton.1 hz] at e2
    exact hsep g (.inr e2) (.inr ⟨y, hy, .inr e⟩)
end

section
/-- the document's giver at work -/
structure DX (wB w : World) (g1 g2 gv : Nat) (s0 : Int) (V : Gv) (a : Option Addr) (c : Nat) (q : Option Addr) (d : Nat) (na : Option Addr) (nn nc : Nat) (xs : List Nx) : Prop where
  b1 : ∃ cs, BxS w g1 44 cs ∧ cs[5]? = some (.int .i64 s0)
  b2 : ∃ cs : Array Value, cs.size = 13 ∧ BxS w g2 44 cs
  bv : BxS w gv 92 #[.int .i64 V.id, .string V.nm, .slice a V.L.length c, .int .i64 V.mo, .int .i64 V.bu, .int .i64 V.st, .bool V.fi, .int .i64 V.at', .slice q V.G.length d, .int .i64 V.ti, .int .i64 V.pa, .int .i64 V.tr, .int .i64 V.li]
  A : Ans w wB.heap.size a V.L.length c V.L
  O : OgP w wB.heap.size q V.G.length d V.G
  N : OwN w wB.heap.size na nn nc xs
  nq : ∀ x, x ∈ xs → x.q = none
  l2 : wB.heap.size ≤ g2
  lv : wB.heap.size ≤ gv
  g : wB.grownBy w none
section
variable {wB w w' : World} {g1 g2 gv : Nat} {s0 : Int} {V : Gv} {a : Option Addr} {c : Nat} {q : Option Addr} {d : Nat} {na : Option Addr} {nn nc : Nat} {xs : List Nx}
theorem DX.keepN (h : DX wB w g1 g2 gv s0 V a c q d na nn nc xs) (u : w.grownBy w' none) : DX wB w' g1 g2 gv s0 V a c q d na nn nc xs := by
  obtain ⟨c1, k1, k2⟩ := h.b1
  obtain ⟨c2, k3, k4⟩ := h.b2
  exact ⟨⟨c1, k1.keep u (by simp), k2⟩, ⟨c2, k3, k4.keep u (by simp)⟩, h.bv.keep u (by simp), h.A.keep u, h.O.keep u, h.N.keep u, h.nq, h.l2, h.lv, grown_trans h.g u⟩
/-- its own numbers are written -/
theorem DX.setV (h : DX wB w g1 g2 gv s0 V a c q d na nn nc xs) (u : w.grownBy w' (some gv)) {V' : Gv} (hL : V'.L = V.L) {q' : Option Addr} {d' : Nat} (hO : OgP w wB.heap.size q' V'.G.length d' V'.G) (b : BxS w' gv 92 #[.int .i64 V'.id, .string V'.nm, .slice a V'.L.length c, .int .i64 V'.mo, .int .i64 V'.bu, .int .i64 V'.st, .bool V'.fi, .int .i64 V'.at', .slice q' V'.G.length d', .int .i64 V'.ti, .int .i64 V'.pa, .int .i64 V'.tr, .int .i64 V'.li]) : DX wB w' g1 g2 gv s0 V' a c q' d' na nn nc xs := by
  obtain ⟨c1, k1, k2⟩ := h.b1
  obtain ⟨c2, k3, k4⟩ := h.b2
  have hA := h.A
  rw [← hL] at hA
  exact ⟨⟨c1, k1.keep u (fun e => BxS.apart k1 h.bv (by decide) (Option.some.inj e)), k2⟩, ⟨c2, k3, k4.keep u (fun e => BxS.apart k4 h.bv (by decide) (Option.some.inj e))⟩, b, hA.kRR u (fun z e e2 => by have e := Option.some.inj e; subst e; exact own_ty hA.own h.bv (by decide) e2), hO.bx h.bv (by decide) u, h.N.bx h.bv (by decide) (by decide) (by decide) u, h.nq, h.l2, h.lv, grown_far h.g u (fun z e => by have e := Option.some.inj e; have := h.lv; omega)⟩
/-- the first pair is written -/
theorem DX.hd (h : DX wB w g1 g2 gv s0 V a c q d na nn nc xs) {gq : Nat} {cur : Array Value} (bq : BxS w gq 82 cur) (lq : wB.heap.size ≤ gq) (u : w.grownBy w' (some gq)) {V' : Gv} (hV : V' = { V with G := V'.G }) (hm : V'.G.length = V.G.length) (hO : OgP w' wB.heap.size q V'.G.length d V'.G) : DX wB w' g1 g2 gv s0 V' a c q d na nn nc xs := by
  obtain ⟨c1, k1, k2⟩ := h.b1
  obtain ⟨c2, k3, k4⟩ := h.b2
  have hL : V'.L = V.L := by rw [hV]
  have hA := h.A
  rw [← hL] at hA
  have bv' := h.bv.keep u (fun e => BxS.apart h.bv bq (by decide) (Option.some.inj e))
  refine ⟨⟨c1, k1.keep u (fun e => BxS.apart k1 bq (by decide) (Option.some.inj e)), k2⟩, ⟨c2, k3, k4.keep u (fun e => BxS.apart k4 bq (by decide) (Option.some.inj e))⟩, ?_, hA.kRR u (fun z e e2 => by have e := Option.some.inj e; subst e; exact own_ty hA.own bq (by decide) e2), hO, h.N.kR u (fun z e hz => ?_), h.nq, h.l2, h.lv, grown_far h.g u (fun z e => by have e := Option.some.inj e; omega)⟩
  · rw [← hm] at bv'
    rw [hV]
    exact bv'
  · have e := Option.some.inj e
    subst e
    rcases hz with e | ⟨x, hx, e | e⟩
    · exact own_ty h.N.own bq (by decide) e
    · exact own_ty (h.N.eA x hx).own bq (by decide) e
    · rw [h.nq x hx] at e; cases e
/-- a note more -/
theorem DX.push (h : DX wB w g1 g2 gv s0 V a c q d na nn nc xs) {x : Nx} (hx : x.q = none) (hxg : x.ga = []) (hxd : x.d = 0) (hxA : Ans w wB.heap.size x.a x.da.length x.c x.da) (hsep : ∀ z, (Value.slice x.a x.da.length x.c).ownBlock = some z → ¬ Nbl na nn nc xs z) {gx cx : Nat} (hor : (Value.slice na nn nc).ownBlock = some gx ∨ w.heap.size ≤ gx) (u : w.grownBy w' (Value.slice na nn nc).ownBlock) (hO : w'.ownsRow 0 27 10 (.slice (some ⟨gx, 0, none⟩) (nn + 1) cx) (nn + 1) (flN xs ++ x.cells)) : DX wB w' g1 g2 gv s0 V a c q d (some ⟨gx, 0, none⟩) (nn + 1) cx (xs ++ [x]) := by
  obtain ⟨c1, k1, k2⟩ := h.b1
  obtain ⟨c2, k3, k4⟩ := h.b2
  have hrow : ∀ z, (Value.slice na nn nc).ownBlock = some z → ∃ cs, BxS w z 27 cs := fun z e => own_bxS h.N.own e
  have hxO : OwGi w wB.heap.size x.q x.ga.length x.d x.ga := by rw [hx, hxg, hxd]; exact OwGi.nil _ _
  refine ⟨⟨c1, k1.keep u (fun e => by obtain ⟨cs, hb⟩ := hrow _ e.symm; exact BxS.apart k1 hb (by decide) rfl), k2⟩, ⟨c2, k3, k4.keep u (fun e => by obtain ⟨cs, hb⟩ := hrow _ e.symm; exact BxS.apart k4 hb (by decide) rfl)⟩, h.bv.keep u (fun e => by obtain ⟨cs, hb⟩ := hrow _ e.symm; exact BxS.apart h.bv hb (by decide) rfl), h.A.kRR u (fun z e e2 => by obtain ⟨cs, hb⟩ := hrow z e; exact own_ty h.A.own hb (by decide) e2), h.O.kR u (fun z e ⟨cs2, hb2⟩ => by obtain ⟨cs, hb⟩ := hrow z e; exact BxS.apart hb2 hb (by decide) rfl), h.N.push hxA hxO (fun z e => ?_) h.g.size hor u hO, (fun y hy => ?_), h.l2, h.lv, grown_far h.g u (fun z e => h.N.new z e)⟩
  · rcases e with e | e
    · exact hsep z e
    · rw [hx] at e; cases e
  · rcases List.mem_append.1 hy with hy | hy
    · exact h.nq y hy
    · rw [List.mem_singleton.1 hy]; exact hx
end
end

section
set_option maxHeartbeats 16000000 in
/-- a taker with memory of its own -/
theorem takerOf_any (id : Int) (kn : Bool) (nm : ByteArray) (si : Int) (en : Bool) (la su : Int) (q : Option Addr) (m d : Nat) (a : Option Addr) (n c : Nat) (st ti pa tr li : Int) (F : Nat → Int × Int) (L : List Nat) (w : World) (hL : Rd w a n c L) (hG : RdG w q m d F) (hn : n ≤ 140737488351232) (hm : m ≤ 8796093021952) :
    Calls Try.prog 40 #[.agg (tkA id kn nm si en la su (.slice q m d) (.slice a n c) st ti pa tr li)] w fun e w' => ∃ a' c' q' d', e = .returned (.agg (tkA id kn nm si en la su (.slice q' m d') (.slice a' n c') st ti pa tr li)) ∧ Ans w' w.heap.size a' n c' L ∧ OwGi w' w.heap.size q' m d' (tabG F m) ∧ w.grownBy w' none := by
  have b0 := BxS.new w 48 #[.int .i64 id, .bool kn, .string nm, .int .i64 si, .bool en, .int .i64 la, .int .i64 su, .slice q m d, .slice a n c, .int .i64 st, .int .i64 ti, .int .i64 pa, .int .i64 tr, .int .i64 li]
  have g0 := World.grownBy_alloc w (.cells #[.int .i64 id, .bool kn, .string nm, .int .i64 si, .bool en, .int .i64 la, .int .i64 su, .slice q m d, .slice a n c, .int .i64 st, .int .i64 ti, .int .i64 pa, .int .i64 tr, .int .i64 li] 48) none
  have i14 := Try.info_tk
  unfold tkA
  generalize hw0 : w.alloc (.cells #[.int .i64 id, .bool kn, .string nm, .int .i64 si, .bool en, .int .i64 la, .int .i64 su, .slice q m d, .slice a n c, .int .i64 st, .int .i64 ti, .int .i64 pa, .int .i64 tr, .int .i64 li] 48) = w0 at b0 g0
  have l0 := b0.lt
  have b2 := BxS.new w0 48 #[.int .i64 0, .bool false, .string ⟨#[]⟩, .int .i64 0, .bool false, .int .i64 0, .int .i64 0, .slice none 0 0, .slice none 0 0, .int .i64 0, .int .i64 0, .int .i64 0, .int .i64 0, .int .i64 0]
  have gz := World.grownBy_alloc w0 (.cells #[.int .i64 0, .bool false, .string ⟨#[]⟩, .int .i64 0, .bool false, .int .i64 0, .int .i64 0, .slice none 0 0, .slice none 0 0, .int .i64 0, .int .i64 0, .int .i64 0, .int .i64 0, .int .i64 0] 48) none
  generalize hw1 : w0.alloc (.cells #[.int .i64 0, .bool false, .string ⟨#[]⟩, .int .i64 0, .bool false, .int .i64 0, .int .i64 0, .slice none 0 0, .slice none 0 0, .int .i64 0, .int .i64 0, .int .i64 0, .int .i64 0, .int .i64 0] 48) = w1 at b2 gz
  have b1 := b0.keep gz (by simp)
  have G1 := grown_trans g0 gz
  have l1 := b2.lt
  have s0 : True := trivial
  go_enter Try.func40, Try.ntmps40
  refine wp_seq_k fun K1 hK1 => ?_
  have HK1 : Hid _ := hK1
  clear hK1
  go_wp2
  refine HK1.out _ _ ?_
  clear HK1
  clear hw0 hw1
  refine wp_seq_k fun K1 hK1 => ?_
  have HK1 : Hid _ := hK1
  clear hK1
  have x7 : w1.cell? ⟨w.heap.size, 7, none⟩ = some (.slice q m d) := b1.cell 7 (by show 7 < 14; decide)
  go_wp2_with (first
    | (at_builtin; have _t := s0; clear s0; refine wpList_joinG rfl _ _ rfl none 0 0 w1.heap.size [] rfl (OwGi.nil _ _) (Nat.le_refl _) q m d F rfl (hG.keep G1) (by omega) ?_; intro q5 d5 w2 hO5 y2; rw [Nat.zero_add, List.nil_append] at hO5; have y2 : w1.grownBy w2 none := y2; have b12 := b1.keep y2 (by simp); have b22 := b2.keep y2 (by simp); clear x7; have s1 : True := trivial)
    | (have _t := s1; clear s1; refine wpList_stC _ rfl _ _ _ rfl w.heap.size 7 48 _ #[.int .i64 id, .bool kn, .string nm, .int .i64 si, .bool en, .int .i64 la, .int .i64 su, .slice q5 m d5, .slice a n c, .int .i64 st, .int .i64 ti, .int .i64 pa, .int .i64 tr, .int .i64 li] (.slice q5 m d5) rfl rfl b12 (stc_slG _ _ _ _ _) (by show 7 < 14; decide) rfl ?_; intro w3 b13 u3))
  refine HK1.out _ _ ?_
  clear HK1
  have hO3 := hO5.bx b12 (by decide) u3
  have b23 := b22.keep u3 (fun e => by have e := Option.some.inj e; omega)
  have G2 := grown_trans G1 y2
  have G3 := grown_far G2 u3 (fun z e => by have e := Option.some.inj e; omega)
  have z1 := G1.size
  have z3 := G3.size
  have z23 := u3.size
  have z12 := y2.size
  clear u3 y2 b12 b22 hO5
  refine wp_seq_k fun K1 hK1 => ?_
  have HK1 : Hid _ := hK1
  clear hK1
  have x8 : w3.cell? ⟨w.heap.size, 8, none⟩ = some (.slice a n c) := b13.cell 8 (by show 8 < 14; decide)
  have s0 : True := trivial
  go_wp2_with (first
    | (at_builtin; have _t := s0; clear s0; refine wpList_joinZ rfl _ _ rfl none 0 0 w3.heap.size [] rfl (Ans.nil _ _) (Nat.le_refl _) a n c L rfl (hL.keep G3) (by omega) ?_; intro a5 c5 w4 hA5 y4; rw [Nat.zero_add, List.nil_append] at hA5; have y4 : w3.grownBy w4 none := y4; have b14 := b13.keep y4 (by simp); have b24 := b23.keep y4 (by simp); clear x8; have s1 : True := trivial)
    | (have _t := s1; clear s1; refine wpList_stC _ rfl _ _ _ rfl w.heap.size 8 48 _ #[.int .i64 id, .bool kn, .string nm, .int .i64 si, .bool en, .int .i64 la, .int .i64 su, .slice q5 m d5, .slice a5 n c5, .int .i64 st, .int .i64 ti, .int .i64 pa, .int .i64 tr, .int .i64 li] (.slice a5 n c5) rfl rfl b14 (stc_sl _ _ _ _ _) (by show 8 < 14; decide) rfl ?_; intro w5 b15 u5))
  refine HK1.out _ _ ?_
  clear HK1
  have hA6 := hA5.kept u5 (.inr (fun e => by have := hA5.new _ e; omega))
  have hO6 := (hO3.keep y4).bx b14 (by decide) u5
  have b25 := b24.keep u5 (fun e => by have e := Option.some.inj e; omega)
  have G5 := grown_far (grown_trans G3 y4) u5 (fun z e => by have e := Option.some.inj e; omega)
  have s0 : True := trivial
  go_wp2_with (first
    | (have _t := s0; clear s0; refine wpList_ldX _ rfl _ (.tmp 1) rfl w.heap.size _ rfl b15 Try.underlying48 i14 ?_; have s3 : True := trivial)
    | (have _t := s3; clear s3; refine wpList_stX _ rfl _ (.tmp 2) (.tmp 11) rfl w0.heap.size _ _ rfl rfl b25 i14 rfl (by simp [Value.oneCell']) ?_; intro w6 b26 u6))
  refine bodyPost_ret (results_cellN rfl _ _ _ ⟨w0.heap.size, 0, none⟩ _ rfl (BxS.load (t := 48) b26 Try.underlying48 Try.info_tk)) rfl ?_
  exact ⟨a5, c5, q5, d5, rfl, (hA6.kept u6 (.inr (fun e => by have := hA5.new _ e; omega))).wide (by omega), (hO6.bx b25 (by decide) u6).wide (by omega), grown_far G5 u6 (fun q e => by have e := Option.some.inj e; have := g0.size; omega)⟩
end

section
set_option maxHeartbeats 16000000 in
/-- a taker at work shares no memory with what was handed in -/
theorem tkAtWork_any (id : Int) (kn : Bool) (nm : ByteArray) (si : Int) (en : Bool) (la su : Int) (q : Option Addr) (m d : Nat) (a : Option Addr) (n c : Nat) (st ti pa tr li : Int) (F : Nat → Int × Int) (L : List Nat) (w : World) (hL : Rd w a n c L) (hG : RdG w q m d F) (hn : n ≤ 140737488351232) (hm : m ≤ 8796093021952) :
    Calls Try.prog 78 #[.agg (tkA id kn nm si en la su (.slice q m d) (.slice a n c) st ti pa tr li)] w fun e w' => ∃ gw a' c' q' d', e = .returned (.pointer (some ⟨gw, 0, none⟩)) ∧ BxS w' gw 112 #[.int .i64 id, .bool kn, .string nm, .int .i64 si, .bool en, .int .i64 la, .int .i64 su, .slice q' m d', .slice a' n c', .int .i64 st, .int .i64 ti, .int .i64 pa, .int .i64 tr, .int .i64 li, .slice none 0 0] ∧ Ans w' w.heap.size a' n c' L ∧ OwGi w' w.heap.size q' m d' (tabG F m) ∧ w.heap.size ≤ gw ∧ w.grownBy w' none := by
  have b0 := BxS.new w 48 #[.int .i64 id, .bool kn, .string nm, .int .i64 si, .bool en, .int .i64 la, .int .i64 su, .slice q m d, .slice a n c, .int .i64 st, .int .i64 ti, .int .i64 pa, .int .i64 tr, .int .i64 li]
  have g0 := World.grownBy_alloc w (.cells #[.int .i64 id, .bool kn, .string nm, .int .i64 si, .bool en, .int .i64 la, .int .i64 su, .slice q m d, .slice a n c, .int .i64 st, .int .i64 ti, .int .i64 pa, .int .i64 tr, .int .i64 li] 48) none
  have i14 := Try.info_tk
  unfold tkA
  generalize hw0 : w.alloc (.cells #[.int .i64 id, .bool kn, .string nm, .int .i64 si, .bool en, .int .i64 la, .int .i64 su, .slice q m d, .slice a n c, .int .i64 st, .int .i64 ti, .int .i64 pa, .int .i64 tr, .int .i64 li] 48) = w0 at b0 g0
  have l0 := b0.lt
  go_enter Try.func78, Try.ntmps78
  refine wp_seq_k fun K1 hK1 => ?_
  have HK1 : Hid _ := hK1
  clear hK1
  go_wp2
  refine HK1.out _ _ ?_
  clear HK1
  refine wp_seq_k fun K2 hK2 => ?_
  have HK2 : Hid _ := hK2
  clear hK2
  have Gd := grown_drew w0 none
  have SS : BxS w0.drew w.heap.size 48 #[.int .i64 id, .bool kn, .string nm, .int .i64 si, .bool en, .int .i64 la, .int .i64 su, .slice q m d, .slice a n c, .int .i64 st, .int .i64 ti, .int .i64 pa, .int .i64 tr, .int .i64 li] := b0.keep Gd (by simp)
  have G1 := grown_trans g0 Gd
  refine wp_regionL (fun wz => BxS wz w.heap.size 48 #[.int .i64 id, .bool kn, .string nm, .int .i64 si, .bool en, .int .i64 la, .int .i64 su, .slice q m d, .slice a n c, .int .i64 st, .int .i64 ti, .int .i64 pa, .int .i64 tr, .int .i64 li]) [7, 8, 9] #[false, false, false, false, false, false, false, false, false, false] rfl (by kernel_rfl) ?_
  refine wpAnyZ_take [7, 8, 9] 0 (.pointer (some ⟨w.heap.size, 7, none⟩)) rfl (by kernel_rfl) (fun _ _ _ h => h) SS rfl (by intro wz hz; go_simp) ?_
  try simp only [List.getElem_toArray, List.getElem_cons_succ, List.getElem_cons_zero, Act.put, List.setIfInBounds_toArray, List.set_cons_zero, List.set_cons_succ]
  refine wpAnyZ_take [7, 8, 9] 1 (.slice q m d) rfl (by kernel_rfl) (fun _ _ _ h => h) SS rfl (by intro wz hz; have z : wz.cell? ⟨w.heap.size, 7, none⟩ = some (.slice q m d) := hz.cell 7 (by show 7 < 14; decide); go_simp) ?_
  try simp only [List.getElem_toArray, List.getElem_cons_succ, List.getElem_cons_zero, Act.put, List.setIfInBounds_toArray, List.set_cons_zero, List.set_cons_succ]
  refine wpAnyZ_take [7, 8, 9] 3 (.pointer (some ⟨w.heap.size, 8, none⟩)) rfl (by kernel_rfl) (fun _ _ _ h => h) SS rfl (by intro wz hz; go_simp) ?_
  try simp only [List.getElem_toArray, List.getElem_cons_succ, List.getElem_cons_zero, Act.put, List.setIfInBounds_toArray, List.set_cons_zero, List.set_cons_succ]
  refine wpAnyZ_take [7, 8, 9] 4 (.slice a n c) rfl (by kernel_rfl) (fun _ _ _ h => h) SS rfl (by intro wz hz; have z : wz.cell? ⟨w.heap.size, 8, none⟩ = some (.slice a n c) := hz.cell 8 (by show 8 < 14; decide); go_simp) ?_
  try simp only [List.getElem_toArray, List.getElem_cons_succ, List.getElem_cons_zero, Act.put, List.setIfInBounds_toArray, List.set_cons_zero, List.set_cons_succ]
  have l1 := SS.lt
  generalize w0.drew = w1 at *
  refine wpAnyZ_oneB 2 rfl (by kernel_rfl) (fun KK hKK => ?_)
  go_simp
  go_at_call 93
  refine (gclone_any q m d F w1 (hG.keep G1) hm).mono ?_
  rintro e w2 ⟨q5, d5, rfl, hO5, y2⟩
  dsimp only
  have S2 := SS.keep y2 (by simp)
  have G2 := grown_trans G1 y2
  refine hKK _ _ (fun _ => S2) ?_
  try simp only [List.getElem_toArray, List.getElem_cons_succ, List.getElem_cons_zero, Act.put, List.setIfInBounds_toArray, List.set_cons_zero, List.set_cons_succ]
  refine wpAnyZ_take [7, 8, 9] 6 (.pointer (some ⟨w.heap.size, 7, none⟩)) rfl (by kernel_rfl) (fun _ _ _ h => h) S2 rfl (by intro wz hz; go_simp) ?_
  try simp only [List.getElem_toArray, List.getElem_cons_succ, List.getElem_cons_zero, Act.put, List.setIfInBounds_toArray, List.set_cons_zero, List.set_cons_succ]
  refine wpAnyZ_oneB 5 rfl (by kernel_rfl) (fun KK hKK => ?_)
  go_simp
  go_at_call 57
  refine (dclone_any a n c L w2 (hL.keep G2) (by omega)).mono ?_
  rintro e w3 ⟨a5, c5, rfl, hA5, y3⟩
  dsimp only
  have S3 := S2.keep y3 (by simp)
  have hO3 := hO5.keep y3
  have G3 := grown_trans G2 y3
  refine hKK _ _ (fun _ => S3) ?_
  try simp only [List.getElem_toArray, List.getElem_cons_succ, List.getElem_cons_zero, Act.put, List.setIfInBounds_toArray, List.set_cons_zero, List.set_cons_succ]
  refine wpAnyZ_oneB 7 rfl (by kernel_rfl) (fun KK hKK => ?_)
  refine step_stCd _ rfl _ _ _ rfl w.heap.size 7 48 _ #[.int .i64 id, .bool kn, .string nm, .int .i64 si, .bool en, .int .i64 la, .int .i64 su, .slice q5 m d5, .slice a n c, .int .i64 st, .int .i64 ti, .int .i64 pa, .int .i64 tr, .int .i64 li] (.slice q5 m d5) rfl rfl S3 (fun w' h1 h2 => stc_slG _ _ _ _ _ _ h1 h2) (by show 7 < 14; decide) rfl ?_
  intro w4 b4 u4
  refine hKK _ _ (fun h => absurd (by decide) h) ?_
  try simp only [List.getElem_toArray, List.getElem_cons_succ, List.getElem_cons_zero, Act.put, List.setIfInBounds_toArray, List.set_cons_zero, List.set_cons_succ]
  refine wpAnyZ_takeF 8 (.pointer (some ⟨w.heap.size, 8, none⟩)) rfl (by kernel_rfl) (fun _ _ _ h => h) rfl (by intro wz; go_simp) ?_
  try simp only [List.getElem_toArray, List.getElem_cons_succ, List.getElem_cons_zero, Act.put, List.setIfInBounds_toArray, List.set_cons_zero, List.set_cons_succ]
  refine wpAnyZ_oneB 9 rfl (by kernel_rfl) (fun KK hKK => ?_)
  refine step_stCd _ rfl _ _ _ rfl w.heap.size 8 48 _ #[.int .i64 id, .bool kn, .string nm, .int .i64 si, .bool en, .int .i64 la, .int .i64 su, .slice q5 m d5, .slice a5 n c5, .int .i64 st, .int .i64 ti, .int .i64 pa, .int .i64 tr, .int .i64 li] (.slice a5 n c5) rfl rfl b4 (fun w' h1 h2 => stc_sl _ _ _ _ _ _ h1 h2) (by show 8 < 14; decide) rfl ?_
  intro w5 b5 u5
  refine hKK _ _ (fun h => absurd (by decide) h) ?_
  try simp only [List.getElem_toArray, List.getElem_cons_succ, List.getElem_cons_zero, Act.put, List.setIfInBounds_toArray, List.set_cons_zero, List.set_cons_succ]
  refine wpAnyZ_doneB (by kernel_rfl) ?_ _
  have z1 := G1.size
  have z2 := G2.size
  have zy := y2.size
  have hA4 := (hA5.kept u4 (.inr (fun e => by have := hA5.new _ e; omega))).kept u5 (.inr (fun e => by have := hA5.new _ e; omega))
  have hO4 := (hO3.bx S3 (by decide) u4).bx b4 (by decide) u5
  have G5 := grown_far (grown_far G3 u4 (fun q e => by have e := Option.some.inj e; omega)) u5 (fun q e => by have e := Option.some.inj e; omega)
  refine HK2.out _ _ ?_
  clear HK2
  have bW := BxS.new w5 112 #[.int .i64 id, .bool kn, .string nm, .int .i64 si, .bool en, .int .i64 la, .int .i64 su, .slice q5 m d5, .slice a5 n c5, .int .i64 st, .int .i64 ti, .int .i64 pa, .int .i64 tr, .int .i64 li, .slice none 0 0]
  have gW := World.grownBy_alloc w5 (.cells #[.int .i64 id, .bool kn, .string nm, .int .i64 si, .bool en, .int .i64 la, .int .i64 su, .slice q5 m d5, .slice a5 n c5, .int .i64 st, .int .i64 ti, .int .i64 pa, .int .i64 tr, .int .i64 li, .slice none 0 0] 112) none
  generalize hw6 : w5.alloc (.cells #[.int .i64 id, .bool kn, .string nm, .int .i64 si, .bool en, .int .i64 la, .int .i64 su, .slice q5 m d5, .slice a5 n c5, .int .i64 st, .int .i64 ti, .int .i64 pa, .int .i64 tr, .int .i64 li, .slice none 0 0] 112) = w6 at bW gW
  have z5 := G5.size
  have s0 : True := trivial
  go_wp2_with (have _t := s0; clear s0; refine wpList_ldX _ rfl _ (.tmp 1) rfl w.heap.size _ rfl b5 Try.underlying48 i14 ?_)
  go_ret
  exact ⟨w5.heap.size, a5, c5, q5, d5, rfl, bW, (hA4.keep gW).wide (by omega), (hO4.keep gW).wide (by omega), by omega, grown_trans G5 gW⟩
end

section
/-- a taker as data -/
structure Tv where
  id : Int
  kn : Bool
  nm : ByteArray
  si : Int
  en : Bool
  la : Int
  su : Int
  st : Int
  ti : Int
  pa : Int
  tr : Int
  li : Int
  L : List Nat
  G : List (Int × Int)
def zTv : Tv := ⟨0, false, ⟨#[]⟩, 0, false, 0, 0, 0, 0, 0, 0, 0, [], []⟩
/-- an answer of a taker, what goes as data -/
def RK (w : World) (V : Tv) (T : List Nt) (E : Nat) (e : Ending) (w' : World) : Prop :=
  ∃ a c q d na nc xs, e = .returned (.tuple #[.agg (tkA V.id V.kn V.nm V.si V.en V.la V.su (.slice q V.G.length d) (.slice a V.L.length c) V.st V.ti V.pa V.tr V.li), .slice na T.length nc, .int .i64 (E : Nat)]) ∧ xs.map Nx.dt = T ∧ Ans w' w.heap.size a V.L.length c V.L ∧ OwGi w' w.heap.size q V.G.length d V.G ∧ OwN w' w.heap.size na T.length nc xs ∧ (∀ z, (Value.slice a V.L.length c).ownBlock = some z → ¬ Nbl na T.length nc xs z) ∧ (∀ z, (Value.slice q V.G.length d).ownBlock = some z → ¬ Nbl na T.length nc xs z) ∧ w.grownBy w' none
/-- a taker at work, as data -/
def KA (wB w : World) (gw : Nat) (V : Tv) (T : List Nt) : Prop :=
  ∃ a c q d na nc xs, xs.map Nx.dt = T ∧ TKW wB w gw V.id V.kn V.nm V.si V.en V.la V.su V.st V.ti V.pa V.tr V.li a V.L.length c V.L q V.G.length d V.G na xs.length nc xs
theorem KA.of {wB w : World} {gw : Nat} {V : Tv} {a : Option Addr} {n c : Nat} {q : Option Addr} {m d : Nat} {na : Option Addr} {nn nc : Nat} {xs : List Nx} {T : List Nt} (hT : xs.map Nx.dt = T) (h : TKW wB w gw V.id V.kn V.nm V.si V.en V.la V.su V.st V.ti V.pa V.tr V.li a n c V.L q m d V.G na nn nc xs) : KA wB w gw V T := by
  have e1 := h.A.len
  have e2 := h.O.len
  have e3 := h.N.len
  subst e1 e2 e3
  exact ⟨a, c, q, d, na, nc, xs, hT, h⟩
/-- what is missing -/
def misL (kn : Bool) (la : Int) (G : List (Int × Int)) : List (Int × Int) := ((if kn = true then [] else [((0 : Int), (0 : Int))]) ++ uqF (giF G) 0 la G.length).take 20
def ntGaps (id : Int) (M : List (Int × Int)) : Nt := ⟨4, id, ⟨#[]⟩, 0, 0, 0, [], M, 0, 0⟩
def ntDone (id : Int) (co : Int) : Nt := ⟨5, id, ⟨#[]⟩, 0, 0, 0, [], [], 0, co⟩
def ntSeen (id : Int) : Nt := ⟨6, id, ⟨#[]⟩, 0, 0, 0, [], [], 3, 0⟩
def sgL (id : Int) (M : List (Int × Int)) : List Nt := if M.length = 0 then [] else [ntGaps id M]
/-- what holds of a taker that may be -/
structure TvO (V : Tv) : Prop where
  ri : Rise (giF V.G) V.G.length
  gl : V.G.length ≤ 65536
  gm : ∀ j, j < V.G.length → (giF V.G j).2 ≤ 65536
  n9 : V.L.length ≤ 65536
  rc : (V.L.length : Int) = rcN (giF V.G) V.G.length
  si : 0 ≤ V.si ∧ V.si ≤ 65536
  la : 0 ≤ V.la ∧ V.la ≤ 65536
  ti : 0 ≤ V.ti ∧ V.ti ≤ V.pa - 1 ∧ V.pa ≤ 1000
  tr : 0 ≤ V.tr ∧ V.tr ≤ V.li ∧ V.li ≤ 1000000
  st : V.st = 0 ∨ V.st = 3 ∨ V.st = 4
  ov : V.st = 3 → haB (giF V.G) V.si V.G.length = true
theorem tmB_go {V : Tv} (h : (tmB V.id V.kn V.nm V.si V.en V.la V.su (giF V.G) V.G.length V.L V.st V.ti V.pa V.tr V.li) = true) : TvO V := by
  unfold tmB at h
  simp only [Bool.and_eq_true, decide_eq_true_eq] at h
  obtain ⟨h1, h2, h3, h4, h5, h6, h7⟩ := h
  have hr := rsB_rise _ h3
  have hd : dsB V.id V.pa V.li = true := by
    unfold dsE at h1
    by_cases e : dsB V.id V.pa V.li = true
    · exact e
    · rw [if_neg e] at h1; cases h1
  unfold dsB at hd
  unfold toB toC at h2
  unfold fiB at h4
  unfold kwB at hd h6 h7
  simp only [Bool.and_eq_true, decide_eq_true_eq] at hd h2 h4 h6 h7
  unfold kwB at h2
  simp only [Bool.and_eq_true, decide_eq_true_eq] at h2
  have hgl := rise_len (s := 65536) hr.1 hr.2
  have hrc : rcN (giF V.G) V.G.length ≤ 65536 := by
    unfold rcN
    by_cases e : V.G.length = 0
    · rw [if_pos e]; omega
    · rw [if_neg e]; exact hr.2 _ (by omega)
  have hst : (V.st = 0 ∨ V.st = 3 ∨ V.st = 4) ∧ (V.st = 3 → haB (giF V.G) V.si V.G.length = true) := by
    unfold tsB at h5
    by_cases e : V.st = 0 ∨ V.st = 4
    · exact ⟨by omega, fun e2 => by omega⟩
    · rw [if_neg e] at h5
      by_cases e2 : V.st = 3
      · rw [if_pos e2, Bool.and_eq_true] at h5
        exact ⟨by omega, fun _ => h5.2⟩
      · rw [if_neg e2] at h5; cases h5
  exact ⟨hr.1, hgl, hr.2, by omega, h4.1, by omega, by omega, by omega, by omega, hst.1, hst.2⟩
theorem misL_len (kn : Bool) (la : Int) (G : List (Int × Int)) : (misL kn la G).length ≤ 20 := by
  unfold misL
  rw [List.length_take]
  omega
end
end Go.Proofs.Ytnimehkfnpepfaa
