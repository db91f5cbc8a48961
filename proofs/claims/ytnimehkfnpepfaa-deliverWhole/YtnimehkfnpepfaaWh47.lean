import Derived.Test.YtnimehkfnpepfaaWh31
import Derived.Test.YtnimehkfnpepfaaWh26
import Derived.Test.YtnimehkfnpepfaaWh42
import Derived.Test.YtnimehkfnpepfaaWh46
namespace Go.Proofs.Ytnimehkfnpepfaa
open Go.RowKit
set_option maxRecDepth 100000
set_option linter.unusedVariables false
set_option linter.unusedSimpArgs false

section
/-- a crossing's cells -/
def crA (g : Gv) (a : Option Addr) (ac : Nat) (q : Option Addr) (qc : Nat) (t : Tv) (ta : Option Addr) (tc : Nat) (tq : Option Addr) (td : Nat) (D U : Value) : Array Value := #[.int .i64 g.id, .string g.nm, .slice a g.L.length ac, .int .i64 g.mo, .int .i64 g.bu, .int .i64 g.st, .bool g.fi, .int .i64 g.at', .slice q g.G.length qc, .int .i64 g.ti, .int .i64 g.pa, .int .i64 g.tr, .int .i64 g.li, .int .i64 t.id, .bool t.kn, .string t.nm, .int .i64 t.si, .bool t.en, .int .i64 t.la, .int .i64 t.su, .slice tq t.G.length td, .slice ta t.L.length tc, .int .i64 t.st, .int .i64 t.ti, .int .i64 t.pa, .int .i64 t.tr, .int .i64 t.li, D, U]
def gvC (g : Gv) (a : Option Addr) (ac : Nat) (q : Option Addr) (qc : Nat) : List Value := [.int .i64 g.id, .string g.nm, .slice a g.L.length ac, .int .i64 g.mo, .int .i64 g.bu, .int .i64 g.st, .bool g.fi, .int .i64 g.at', .slice q g.G.length qc, .int .i64 g.ti, .int .i64 g.pa, .int .i64 g.tr, .int .i64 g.li]
def tkC (t : Tv) (a : Option Addr) (ac : Nat) (q : Option Addr) (qc : Nat) : List Value := [.int .i64 t.id, .bool t.kn, .string t.nm, .int .i64 t.si, .bool t.en, .int .i64 t.la, .int .i64 t.su, .slice q t.G.length qc, .slice a t.L.length ac, .int .i64 t.st, .int .i64 t.ti, .int .i64 t.pa, .int .i64 t.tr, .int .i64 t.li]
theorem setA_g (g g2 : Gv) (a a2 : Option Addr) (ac ac2 : Nat) (q q2 : Option Addr) (qc qc2 : Nat) (t : Tv) (ta : Option Addr) (tc : Nat) (tq : Option Addr) (td : Nat) (D U : Value) : setA (crA g a ac q qc t ta tc tq td D U) 0 (gvC g2 a2 ac2 q2 qc2) = crA g2 a2 ac2 q2 qc2 t ta tc tq td D U := by
  simp [setA, gvC, crA]
theorem setA_t (g : Gv) (a : Option Addr) (ac : Nat) (q : Option Addr) (qc : Nat) (t t2 : Tv) (ta ta2 : Option Addr) (tc tc2 : Nat) (tq tq2 : Option Addr) (td td2 : Nat) (D U : Value) : setA (crA g a ac q qc t ta tc tq td D U) 13 (tkC t2 ta2 tc2 tq2 td2) = crA g a ac q qc t2 ta2 tc2 tq2 td2 D U := by
  simp [setA, tkC, crA]
/-- where all of it lies -/
structure Cx where
  a : Option Addr
  ac : Nat
  q : Option Addr
  qc : Nat
  ta : Option Addr
  tc : Nat
  tq : Option Addr
  td : Nat
  da : Option Addr
  dn : Nat
  dc : Nat
  dr : List Rw
  ua : Option Addr
  un : Nat
  uc : Nat
  ur : List Rw
/-- A CROSSING IN MEMORY -/
structure CM (wB w : World) (gc : Nat) (c : Cr) (X : Cx) : Prop where
  bx : BxS w gc 75 (crA c.g X.a X.ac X.q X.qc c.t X.ta X.tc X.tq X.td (.slice X.da X.dn X.dc) (.slice X.ua X.un X.uc))
  lo : wB.heap.size ≤ gc
  gr : wB.grownBy w none
  gA : Ans w wB.heap.size X.a c.g.L.length X.ac c.g.L
  gO : OwGi w wB.heap.size X.q c.g.G.length X.qc c.g.G
  tA : Ans w wB.heap.size X.ta c.t.L.length X.tc c.t.L
  tO : OwGi w wB.heap.size X.tq c.t.G.length X.td c.t.G
  dW : WyM w wB.heap.size X.da X.dn X.dc X.dr
  uW : WyM w wB.heap.size X.ua X.un X.uc X.ur
  dD : Hid (X.dr.map Rw.D = c.dn.map enT)
  uD : Hid (X.ur.map Rw.D = c.up.map enT)
  ne : ∀ z, (Value.slice X.da X.dn X.dc).ownBlock = some z → (Value.slice X.ua X.un X.uc).ownBlock ≠ some z
theorem CM.dl {wB w : World} {gc : Nat} {c : Cr} {X : Cx} (h : CM wB w gc c X) : X.dn = c.dn.length := by
  have h9 := congrArg List.length h.dD.out
  rw [List.length_map, List.length_map] at h9
  have := h.dW.len
  omega
theorem CM.ul {wB w : World} {gc : Nat} {c : Cr} {X : Cx} (h : CM wB w gc c X) : X.un = c.up.length := by
  have h9 := congrArg List.length h.uD.out
  rw [List.length_map, List.length_map] at h9
  have := h.uW.len
  omega
theorem CM.keep {wB w w' : World} {gc : Nat} {c : Cr} {X : Cx} (h : CM wB w gc c X) (hg : w.grownBy w' none) : CM wB w' gc c X :=
  ⟨h.bx.keep hg (by simp), h.lo, grown_trans h.gr hg, h.gA.keep hg, h.gO.keep hg, h.tA.keep hg, h.tO.keep hg, h.dW.keep hg, h.uW.keep hg, h.dD, h.uD, h.ne⟩
/-- the giver is another -/
theorem CM.putG {wB w w2 w3 : World} {gc : Nat} {c : Cr} {X : Cx} (h : CM wB w gc c X) (u : w.grownBy w2 none) {g : Gv} {a q : Option Addr} {ac qc : Nat} (hA : Ans w2 wB.heap.size a g.L.length ac g.L) (hO : OwGi w2 wB.heap.size q g.G.length qc g.G) (hb : BxS w3 gc 75 (crA g a ac q qc c.t X.ta X.tc X.tq X.td (.slice X.da X.dn X.dc) (.slice X.ua X.un X.uc))) (u3 : w2.grownBy w3 (some gc)) :
    CM wB w3 gc ⟨g, c.t, c.dn, c.up⟩ ⟨a, ac, q, qc, X.ta, X.tc, X.tq, X.td, X.da, X.dn, X.dc, X.dr, X.ua, X.un, X.uc, X.ur⟩ := by
  have h := h.keep u
  have b := h.bx
  have kA : ∀ {lo2 : Nat} {x : Option Addr} {m d : Nat} {Y : List Nat}, Ans w2 lo2 x m d Y → Ans w3 lo2 x m d Y := fun k => k.kRR u3 (fun z e => by cases e; exact own_ty k.own b (by decide))
  exact ⟨hb, h.lo, grown_far h.gr u3 (fun z e => by cases e; exact h.lo), kA hA, hO.bx b (by decide) u3, kA h.tA, h.tO.bx b (by decide) u3, h.dW.bx b (by decide) (by decide) u3, h.uW.bx b (by decide) (by decide) u3, h.dD, h.uD, h.ne⟩
/-- the taker is another -/
theorem CM.putT {wB w w2 w3 : World} {gc : Nat} {c : Cr} {X : Cx} (h : CM wB w gc c X) (u : w.grownBy w2 none) {t : Tv} {a q : Option Addr} {ac qc : Nat} (hA : Ans w2 wB.heap.size a t.L.length ac t.L) (hO : OwGi w2 wB.heap.size q t.G.length qc t.G) (hb : BxS w3 gc 75 (crA c.g X.a X.ac X.q X.qc t a ac q qc (.slice X.da X.dn X.dc) (.slice X.ua X.un X.uc))) (u3 : w2.grownBy w3 (some gc)) :
    CM wB w3 gc ⟨c.g, t, c.dn, c.up⟩ ⟨X.a, X.ac, X.q, X.qc, a, ac, q, qc, X.da, X.dn, X.dc, X.dr, X.ua, X.un, X.uc, X.ur⟩ := by
  have h := h.keep u
  have b := h.bx
  have kA : ∀ {lo2 : Nat} {x : Option Addr} {m d : Nat} {Y : List Nat}, Ans w2 lo2 x m d Y → Ans w3 lo2 x m d Y := fun k => k.kRR u3 (fun z e => by cases e; exact own_ty k.own b (by decide))
  exact ⟨hb, h.lo, grown_far h.gr u3 (fun z e => by cases e; exact h.lo), kA h.gA, h.gO.bx b (by decide) u3, kA hA, hO.bx b (by decide) u3, h.dW.bx b (by decide) (by decide) u3, h.uW.bx b (by decide) (by decide) u3, h.dD, h.uD, h.ne⟩
/-- the way down is another -/
theorem CM.putD {wB w w2 w3 : World} {gc : Nat} {c : Cr} {X : Cx} (h : CM wB w gc c X) (u : w.grownBy w2 (Value.slice X.da X.dn X.dc).ownBlock) {W : List Nt} {a : Option Addr} {n d : Nat} {rs : List Rw} (hW : WyM w2 wB.heap.size a n d rs) (hD : rs.map Rw.D = W.map enT) (hz : ∀ z, (Value.slice a n d).ownBlock = some z → (Value.slice X.da X.dn X.dc).ownBlock = some z ∨ w.heap.size ≤ z) (hb : BxS w3 gc 75 (crA c.g X.a X.ac X.q X.qc c.t X.ta X.tc X.tq X.td (.slice a n d) (.slice X.ua X.un X.uc))) (u3 : w2.grownBy w3 (some gc)) :
    CM wB w3 gc ⟨c.g, c.t, W, c.up⟩ ⟨X.a, X.ac, X.q, X.qc, X.ta, X.tc, X.tq, X.td, a, n, d, rs, X.ua, X.un, X.uc, X.ur⟩ := by
  have b2 : BxS w2 gc 75 _ := h.dW.box u h.bx (by decide)
  have kA : ∀ {lo2 : Nat} {x : Option Addr} {m d : Nat} {Y : List Nat}, Ans w lo2 x m d Y → Ans w3 lo2 x m d Y := fun k => (h.dW.ans u k).kRR u3 (fun z e => by cases e; exact own_ty (h.dW.ans u k).own b2 (by decide))
  have kO : ∀ {lo2 : Nat} {x : Option Addr} {m d : Nat} {Y : List (Int × Int)}, OwGi w lo2 x m d Y → OwGi w3 lo2 x m d Y := fun k => (h.dW.owg u k).bx b2 (by decide) u3
  have ho : WyM w2 wB.heap.size X.ua X.un X.uc X.ur := h.uW.by h.dW (fun z e e2 => h.ne z e e2) u
  have hs : wB.grownBy w2 none := grown_far h.gr u (fun z e => h.dW.new z e)
  have hne : ∀ z, (Value.slice a n d).ownBlock = some z → (Value.slice X.ua X.un X.uc).ownBlock ≠ some z := fun z e e2 => by
    rcases hz z e with h9 | h9
    · exact h.ne z h9 e2
    · have := h.uW.lt e2; omega
  exact ⟨hb, h.lo, grown_far hs u3 (fun z e => by cases e; exact h.lo), kA h.gA, kO h.gO, kA h.tA, kO h.tO, hW.bx b2 (by decide) (by decide) u3, ho.bx b2 (by decide) (by decide) u3, hD, h.uD, hne⟩
/-- the way up is another -/
theorem CM.putU {wB w w2 w3 : World} {gc : Nat} {c : Cr} {X : Cx} (h : CM wB w gc c X) (u : w.grownBy w2 (Value.slice X.ua X.un X.uc).ownBlock) {W : List Nt} {a : Option Addr} {n d : Nat} {rs : List Rw} (hW : WyM w2 wB.heap.size a n d rs) (hD : rs.map Rw.D = W.map enT) (hz : ∀ z, (Value.slice a n d).ownBlock = some z → (Value.slice X.ua X.un X.uc).ownBlock = some z ∨ w.heap.size ≤ z) (hb : BxS w3 gc 75 (crA c.g X.a X.ac X.q X.qc c.t X.ta X.tc X.tq X.td (.slice X.da X.dn X.dc) (.slice a n d))) (u3 : w2.grownBy w3 (some gc)) :
    CM wB w3 gc ⟨c.g, c.t, c.dn, W⟩ ⟨X.a, X.ac, X.q, X.qc, X.ta, X.tc, X.tq, X.td, X.da, X.dn, X.dc, X.dr, a, n, d, rs⟩ := by
  have b2 : BxS w2 gc 75 _ := h.uW.box u h.bx (by decide)
  have kA : ∀ {lo2 : Nat} {x : Option Addr} {m d : Nat} {Y : List Nat}, Ans w lo2 x m d Y → Ans w3 lo2 x m d Y := fun k => (h.uW.ans u k).kRR u3 (fun z e => by cases e; exact own_ty (h.uW.ans u k).own b2 (by decide))
  have kO : ∀ {lo2 : Nat} {x : Option Addr} {m d : Nat} {Y : List (Int × Int)}, OwGi w lo2 x m d Y → OwGi w3 lo2 x m d Y := fun k => (h.uW.owg u k).bx b2 (by decide) u3
  have ho : WyM w2 wB.heap.size X.da X.dn X.dc X.dr := h.dW.by h.uW (fun z e e2 => h.ne z e2 e) u
  have hs : wB.grownBy w2 none := grown_far h.gr u (fun z e => h.uW.new z e)
  have hne : ∀ z, (Value.slice a n d).ownBlock = some z → (Value.slice X.da X.dn X.dc).ownBlock ≠ some z := fun z e e2 => by
    rcases hz z e with h9 | h9
    · exact h.ne z e2 h9
    · have := h.dW.lt e2; omega
  exact ⟨hb, h.lo, grown_far hs u3 (fun z e => by cases e; exact h.lo), kA h.gA, kO h.gO, kA h.tA, kO h.tO, ho.bx b2 (by decide) (by decide) u3, hW.bx b2 (by decide) (by decide) u3, h.dD, hD, fun z e e2 => hne z e2 e⟩
def CMx (wB w : World) (gc : Nat) (c : Cr) : Prop := ∃ X, CM wB w gc c X
theorem ldM {w : World} {o : Oper} {a : Act} {t : TypeId} {p : Operand} {g off : Nat} {cs : List Value} {d : TypeDesc} (hop : o.op = Op.load t p) (hp : a.eval p = .pointer (some ⟨g, off, none⟩)) (hr : w.rangeAt g off cs) (hu : Try.prog.underlying t = some d) (hd : d.isRow = true) (hi : (Try.prog.info? t).map (·.size) = some cs.length) : (execOp a.eval o).run Try.prog w = .ok (.value (.agg cs.toArray)) w := by
  simp [execOp, hop, hp, run_loadAt_mid w g off t cs d hr hu hd hi, Result.andThen]
theorem giveQ_any {K : Kc} (hK : K.ok) (V : Gv) (hV : GS K V) (a q : Option Addr) (c d : Nat) (w : World) (hL : Rd w a V.L.length c V.L) (hG : RdG w q V.G.length d (giF V.G)) :
    Calls Try.prog 32 #[.agg (gvC V a c q d).toArray] w fun e w' => RT w (tiG V).1 (tiG V).2 0 e w' := by
  have h1 := hK.n
  have h2 := hV.L
  have h3 := hV.o.gl
  have h := give_any V a q c d w hL hG (by rw [h2]; omega) (by omega) (by have := hV.pa; have := hK.pa; omega)
  rw [gs_may hK hV] at h
  exact h
theorem waitQ_any {K : Kc} (hK : K.ok) (V : Tv) (hV : TS K V) (a q : Option Addr) (c d : Nat) (w : World) (hL : Rd w a V.L.length c V.L) (hG : RdG w q V.G.length d (giF V.G)) :
    Calls Try.prog 44 #[.agg (tkC V a c q d).toArray] w fun e w' => RK w (tiT V).1 (tiT V).2 0 e w' := by
  have h1 := hK.n
  have h2 := hV.le
  have h3 := hV.q.gl
  have h := wait2_any V a q c d w hL hG (by omega) (by omega)
  rw [ts_may hK hV] at h
  exact h
theorem wholeQ_any {K : Kc} (hK : K.ok) (V : Tv) (hV : TS K V) (a q : Option Addr) (c d : Nat) (w : World) (hL : Rd w a V.L.length c V.L) (hG : RdG w q V.G.length d (giF V.G)) :
    Calls Try.prog 43 #[.agg (tkC V a c q d).toArray] w fun e w' => ∃ a' c', e = .returned (.tuple #[.string (if V.st = 3 then K.nm else ⟨#[]⟩), .slice a' (if V.st = 3 then K.X else []).length c', .int .i64 (if V.st = 3 then 0 else 7)]) ∧ Ans w' w.heap.size a' (if V.st = 3 then K.X else []).length c' (if V.st = 3 then K.X else []) ∧ w.grownBy w' none := by
  have h1 := hK.n
  have h2 := hV.le
  have h3 := hV.q.gl
  have h := whole_any V a q c d w hL hG (by omega) (by omega)
  rw [ts_may hK hV, wh_ok hV] at h
  by_cases h9 : V.st = 3
  · rw [if_pos h9] at h
    simp only [if_pos h9]
    exact h
  · rw [if_neg h9] at h
    simp only [if_neg h9]
    exact h
theorem takQ_any {K : Kc} (hK : K.ok) (V : Tv) (hV : TS K V) (x : Nx) (hx : DnK K x.dt) (a q : Option Addr) (c d : Nat) (w : World) (hL : Rd w a V.L.length c V.L) (hG : RdG w q V.G.length d (giF V.G)) (hD : Rd w x.a x.da.length x.c x.da) (hF : RdG w x.q x.ga.length x.d (giF x.ga)) :
    Calls Try.prog 38 #[.agg (tkC V a c q d).toArray, .agg x.arr] w fun e w' => RK w (taN V x.dt).1 (taN V x.dt).2 0 e w' := by
  have h1 := hK.n
  have h2 := hV.le
  have h3 := hV.q.gl
  have h := take_any V a q c d x.kd x.id x.nm x.si x.su x.at' x.a x.da.length x.c x.q x.ga.length x.d x.o x.co (giF x.ga) x.da w hL hG (by omega) (by omega) hD hF
  have hn : ntB x.kd x.id x.nm.size x.si x.su x.at' x.da.length x.ga.length x.o x.co (alG (giF x.ga) 65536 x.ga.length) = true := dn_may hK hx
  have hw : wnE true x.id V.id (hasK [1, 2, 3, 6] x.kd 4) = 0 := by
    have hid : x.id = 7 ∧ (x.kd = 1 ∨ x.kd = 2 ∨ x.kd = 3 ∨ x.kd = 6) := by
      rcases hx with e | e | e | ⟨_, _, _, _, e⟩
      · exact ⟨congrArg Nt.id e, .inl (congrArg Nt.kd e)⟩
      · exact ⟨congrArg Nt.id e, .inr (.inr (.inl (congrArg Nt.kd e)))⟩
      · exact ⟨congrArg Nt.id e, .inr (.inr (.inr (congrArg Nt.kd e)))⟩
      · exact ⟨congrArg Nt.id e, .inr (.inl (congrArg Nt.kd e))⟩
    unfold wnE
    rw [if_neg (by simp), if_neg (by rw [hV.id]; omega), if_neg]
    rcases hid.2 with e | e | e | e <;> rw [e] <;> decide
  rw [ts_may hK hV, hn, hw] at h
  exact h
theorem repQ_any {K : Kc} (hK : K.ok) (V : Gv) (hV : GS K V) (x : Nx) (hx : UpK K x.dt) (a q : Option Addr) (c d : Nat) (w : World) (hL : Rd w a V.L.length c V.L) (hG : RdG w q V.G.length d (giF V.G)) (hF : RdG w x.q x.ga.length x.d (giF x.ga)) :
    Calls Try.prog 35 #[.agg (gvC V a c q d).toArray, .agg x.arr] w fun e w' => RT w (reN V x.dt).1 (reN V x.dt).2 0 e w' := by
  have h1 := hK.n
  have h2 := hV.L
  have h3 := hV.o.gl
  have h := replyT_any V a q c d x.kd x.id x.nm x.si x.su x.at' x.a x.da.length x.c x.q x.ga.length x.d x.o x.co (giF x.ga) w hL hG hF (by rw [h2]; omega) (by omega) (by have := hV.pa; have := hK.pa; omega)
  have hn : ntB x.kd x.id x.nm.size x.si x.su x.at' x.da.length x.ga.length x.o x.co (alG (giF x.ga) 65536 x.ga.length) = true := up_may hK hx
  have hid : x.id = V.id := by
    rw [hV.id]
    rcases hx with e | e | ⟨_, e, _⟩
    · exact congrArg Nt.id e
    · exact congrArg Nt.id e
    · exact congrArg Nt.id e
  have hz := (gs_re hV hx).2.2.2.2.2.2.1
  have hr : rpV true true V x.kd x.id x.o x.co (giF x.ga) x.ga.length = rpX V x.kd x.o x.co (giF x.ga) x.ga.length := by
    unfold rpV
    rw [if_neg (by simp), if_neg (by simp), if_neg (by rw [hid]; simp)]
  rw [gs_may hK hV, hn, hr] at h
  have hz : (rpX V x.kd x.o x.co (giF x.ga) x.ga.length).2.2 = 0 := hz
  rw [hz] at h
  exact h
end
end Go.Proofs.Ytnimehkfnpepfaa
