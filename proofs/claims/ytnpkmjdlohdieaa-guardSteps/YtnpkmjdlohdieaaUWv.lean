import Derived.Test.YtnpkmjdlohdieaaUDl
namespace Go.Proofs.Ytnpkmjdlohdieaa
open Go.RowKit
set_option maxRecDepth 100000
set_option linter.unusedVariables false
set_option linter.unusedSimpArgs false
/-- a guard, as a vigil at work holds it -/
structure Gd where
  ma : Option Addr
  n : Nat
  mc : Nat
  si : Int
  mo : Int
  wi : Int
  sa : ByteArray
def wvA (G : Gd) (A : Va) (D : Vi) (fa : Option Addr) (fn fc : Nat) : Array Value := #[.bool D.sf, .int .i64 D.wy, .slice A.ab A.nb A.cb, .slice A.ap A.np A.cp, .int .i64 D.qu, .slice A.at' A.nt A.ct, .slice G.ma G.n G.mc, .int .i64 G.si, .int .i64 G.mo, .int .i64 G.wi, .string G.sa, .slice fa fn fc]
theorem BxS.cell12 {w : World} {g : Nat} {t : TypeId} {a0 a1 a2 a3 a4 a5 a6 a7 a8 a9 a10 a11 : Value} (k : BxS w g t #[a0, a1, a2, a3, a4, a5, a6, a7, a8, a9, a10, a11]) : w.cell? ⟨g, 0, none⟩ = some a0 ∧ w.cell? ⟨g, 1, none⟩ = some a1 ∧ w.cell? ⟨g, 2, none⟩ = some a2 ∧ w.cell? ⟨g, 3, none⟩ = some a3 ∧ w.cell? ⟨g, 4, none⟩ = some a4 ∧ w.cell? ⟨g, 5, none⟩ = some a5 ∧ w.cell? ⟨g, 6, none⟩ = some a6 ∧ w.cell? ⟨g, 7, none⟩ = some a7 ∧ w.cell? ⟨g, 8, none⟩ = some a8 ∧ w.cell? ⟨g, 9, none⟩ = some a9 ∧ w.cell? ⟨g, 10, none⟩ = some a10 ∧ w.cell? ⟨g, 11, none⟩ = some a11 := by
  simp [World.cell?, show w.heap[g]? = _ from k]
theorem AnsX.ne_box {e t : TypeId} {w : World} {lo : Nat} {a : Option Addr} {n cap g : Nat} {X : List Value} {cs : Array Value} (h : AnsX e w lo a n cap X) (b : BxS w g t cs) (hne : e ≠ t) : (Value.slice a n cap).ownBlock ≠ some g := by
  intro h1
  rcases h.cases with ⟨rfl, rfl, rfl⟩ | ⟨g1, rfl, _⟩
  · simp [Value.ownBlock] at h1
  have e1 : g1 = g := Option.some.inj h1
  subst e1
  obtain ⟨c1, f1, t1⟩ := h.ty
  rw [show w.heap[g1]? = _ from b] at t1
  have := Option.some.inj t1
  injection this with _ ht _
  exact hne ht.symm
/-- a vigil at work, in block g; whatever lay there at w0 lies as it lay -/
structure WV (w0 w : World) (g : Nat) (G : Gd) (A : Va) (D : Vi) (fa : Option Addr) (fn fc : Nat) (Fr : List Int) : Prop where
  box : BxS w g 69 (wvA G A D fa fn fc)
  gl : w0.heap.size ≤ g
  v : OwVg w w0.heap.size A D
  f : AnsX 3 w w0.heap.size fa fn fc (zys Fr)
  nb : ∀ x, (Value.slice fa fn fc).ownBlock = some x → (Value.slice A.ab A.nb A.cb).ownBlock ≠ some x
  nt : ∀ x, (Value.slice fa fn fc).ownBlock = some x → (Value.slice A.at' A.nt A.ct).ownBlock ≠ some x
  L : Fz (fun i => w0.heap.size ≤ i) w0 w
theorem ne_of_some {o r : Option Nat} (h : ∀ x, o = some x → r ≠ some x) : o = none ∨ o ≠ r := by
  cases o with
  | none => exact .inl rfl
  | some y => exact .inr fun e => h y rfl e.symm
theorem WV.keep {w0 w w' : World} {g : Nat} {G : Gd} {A : Va} {D : Vi} {fa : Option Addr} {fn fc : Nat} {Fr : List Int} (h : WV w0 w g G A D fa fn fc Fr) (hg : w.grownBy w' none) : WV w0 w' g G A D fa fn fc Fr :=
  ⟨h.box.keep hg (by simp), h.gl, h.v.keep hg, h.f.keep hg, h.nb, h.nt, h.L.step hg (fun k e _ => by cases e)⟩
theorem WV.bl {w0 w : World} {g : Nat} {G : Gd} {A : Va} {D : Vi} {fa : Option Addr} {fn fc : Nat} {Fr : List Int} (h : WV w0 w g G A D fa fn fc Fr) : w0.heap.size ≤ w.heap.size := h.L.size
theorem RdM.lw {w0 w : World} {a : Option Addr} {n cap : Nat} {F : Nat → Mo} (h : RdM w0 a n cap F) (L : Fz (fun i => w0.heap.size ≤ i) w0 w) : RdM w a n cap F :=
  ⟨h.le, h.max, h.nil, fun h0 => by
    obtain ⟨b, off, e, hb, hc⟩ := h.at' h0
    refine ⟨b, off, e, Nat.lt_of_lt_of_le hb L.size, fun i hi j hj => ?_⟩
    rw [← hc i hi j hj]
    unfold World.cell?
    rw [L.block b hb (by omega)]⟩
theorem RdX.lw {w0 w : World} {a : Option Addr} {n cap : Nat} {X : List Value} (h : RdX w0 a n cap X) (L : Fz (fun i => w0.heap.size ≤ i) w0 w) : RdX w a n cap X := by
  refine ⟨h.len, h.le, h.max, h.nil, h.one, fun h0 => ?_⟩
  obtain ⟨b, off, rfl, hb, hc⟩ := h.at' h0
  refine ⟨b, off, rfl, Nat.lt_of_lt_of_le hb L.size, fun i u hu => ?_⟩
  exact (World.cell?_of_block (w := w0) (L.block b hb (by omega))).trans (hc i u hu)
def Va.t (A : Va) (a : Option Addr) (n c : Nat) : Va := ⟨A.ab, A.nb, A.cb, A.ap, A.np, A.cp, a, n, c⟩
def Vi.t (D : Vi) (tr : List Int) : Vi := ⟨D.sf, D.wy, D.bd, D.tp, D.qu, tr⟩
def Vi.p (D : Vi) (tp : List Bool) : Vi := ⟨D.sf, D.wy, D.bd, tp, D.qu, D.tr⟩
def Vi.b (D : Vi) (bd : List Int) : Vi := ⟨D.sf, D.wy, bd, D.tp, D.qu, D.tr⟩
theorem WV.newF {w0 w w2 w3 : World} {g : Nat} {G : Gd} {A : Va} {D : Vi} {fa : Option Addr} {fn fc : Nat} {Fr : List Int} (h : WV w0 w g G A D fa fn fc Fr) {gf m cf : Nat} {Fr' : List Int} (vf : AnsX 3 w2 w0.heap.size (some ⟨gf, 0, none⟩) m cf (zys Fr')) (u2 : w.grownBy w2 (Value.slice fa fn fc).ownBlock) (hx : (Value.slice fa fn fc).ownBlock = some gf ∨ w.heap.size ≤ gf) (bx : BxS w3 g 69 (wvA G A D (some ⟨gf, 0, none⟩) m cf)) (u3 : w2.grownBy w3 (some g)) : WV w0 w3 g G A D (some ⟨gf, 0, none⟩) m cf Fr' := by
  have b2 := h.box.keep u2 (fun e => h.f.ne_box h.box (by decide) e.symm)
  have k : ∀ x, (Value.slice (some ⟨gf, 0, none⟩) m cf).ownBlock = some x → (Value.slice fa fn fc).ownBlock = some x ∨ w.heap.size ≤ x := fun x e => by
    have e : gf = x := Option.some.inj e
    subst e; exact hx
  refine ⟨bx, h.gl, ⟨?_, ?_, ?_, h.v.ne⟩, vf.kept u3 (.inr (vf.ne_box b2 (by decide))), ?_, ?_, ?_⟩
  · have := h.v.b.kept u2 (ne_of_some (fun x e e2 => h.nb x e2 e))
    exact this.kept u3 (.inr (this.ne_box b2 (by decide)))
  · have := h.v.p.kept u2 (ne_of_some (fun x e e2 => ans_apart h.f h.v.p (by decide) x e2 e))
    exact this.kept u3 (.inr (this.ne_box b2 (by decide)))
  · have := h.v.t.kept u2 (ne_of_some (fun x e e2 => h.nt x e2 e))
    exact this.kept u3 (.inr (this.ne_box b2 (by decide)))
  · intro x e e2
    rcases k x e with e1 | e1
    · exact h.nb x e1 e2
    · have := h.v.b.lt x e2; omega
  · intro x e e2
    rcases k x e with e1 | e1
    · exact h.nt x e1 e2
    · have := h.v.t.lt x e2; omega
  · exact (h.L.step u2 (fun x e _ => h.f.new x e)).step u3 (fun x e _ => by have e : g = x := Option.some.inj e; subst e; exact h.gl)
theorem WV.newT {w0 w w2 w3 : World} {g : Nat} {G : Gd} {A : Va} {D : Vi} {fa : Option Addr} {fn fc : Nat} {Fr : List Int} (h : WV w0 w g G A D fa fn fc Fr) {a' : Option Addr} {n' c' : Nat} {tr : List Int} (vt : AnsX 3 w2 w0.heap.size a' n' c' (zys tr)) (u2 : w.grownBy w2 (Value.slice A.at' A.nt A.ct).ownBlock) (k : ∀ x, (Value.slice a' n' c').ownBlock = some x → (Value.slice A.at' A.nt A.ct).ownBlock = some x ∨ w.heap.size ≤ x) (bx : BxS w3 g 69 (wvA G (A.t a' n' c') (D.t tr) fa fn fc)) (u3 : w2.grownBy w3 (some g)) : WV w0 w3 g G (A.t a' n' c') (D.t tr) fa fn fc Fr := by
  have b2 := h.box.keep u2 (fun e => h.v.t.ne_box h.box (by decide) e.symm)
  refine ⟨bx, h.gl, ⟨?_, ?_, vt.kept u3 (.inr (vt.ne_box b2 (by decide))), ?_⟩, ?_, h.nb, ?_, ?_⟩
  · have := h.v.b.kept u2 (ne_of_some (fun x e e2 => h.v.ne x e e2))
    exact this.kept u3 (.inr (this.ne_box b2 (by decide)))
  · have := h.v.p.kept u2 (ne_of_some (fun x e e2 => ans_apart h.v.t h.v.p (by decide) x e2 e))
    exact this.kept u3 (.inr (this.ne_box b2 (by decide)))
  · intro x e e2
    rcases k x e2 with e1 | e1
    · exact h.v.ne x e e1
    · have := h.v.b.lt x e; omega
  · have := h.f.kept u2 (ne_of_some (fun x e e2 => h.nt x e e2))
    exact this.kept u3 (.inr (this.ne_box b2 (by decide)))
  · intro x e e2
    rcases k x e2 with e1 | e1
    · exact h.nt x e e1
    · have := h.f.lt x e; omega
  · exact (h.L.step u2 (fun x e _ => h.v.t.new x e)).step u3 (fun x e _ => by have e : g = x := Option.some.inj e; subst e; exact h.gl)
theorem WV.setP {w0 w : World} {g : Nat} {G : Gd} {A : Va} {D : Vi} {fa : Option Addr} {fn fc : Nat} {Fr : List Int} (h : WV w0 w g G A D fa fn fc Fr) {gp : Nat} (ep : A.ap = some ⟨gp, 0, none⟩) (i : Nat) (b : Bool) : WV w0 (w.setCell ⟨gp, i, none⟩ (.bool b)) g G A (D.p (D.tp.set i b)) fa fn fc Fr := by
  have u := grown_set w gp i (.bool b)
  have hp := h.v.p
  have hb : (Value.slice A.ap A.np A.cp).ownBlock = some gp := by rw [ep]; rfl
  refine ⟨h.box.keep u (fun e => h.v.p.ne_box h.box (by decide) (hb.trans e.symm)), h.gl, ⟨h.v.b.kept u (ne_of_some (fun x e e2 => ans_apart h.v.b h.v.p (by decide) x e (hb.trans e2))), ?_, h.v.t.kept u (ne_of_some (fun x e e2 => ans_apart h.v.t h.v.p (by decide) x e (hb.trans e2))), h.v.ne⟩, h.f.kept u (ne_of_some (fun x e e2 => ans_apart h.f h.v.p (by decide) x e (hb.trans e2))), h.nb, h.nt, h.L.step u (fun x e _ => h.v.p.new x (hb.trans e))⟩
  show AnsX _ _ _ A.ap A.np A.cp (hls (D.tp.set i b))
  rw [ep] at hp ⊢
  have := hp.set i (.bool b) rfl
  rw [show (hls D.tp).set i (.bool b) = hls (D.tp.set i b) by simp [hls, List.map_set]] at this
  exact this
theorem WV.setB {w0 w : World} {g : Nat} {G : Gd} {A : Va} {D : Vi} {fa : Option Addr} {fn fc : Nat} {Fr : List Int} (h : WV w0 w g G A D fa fn fc Fr) {gb : Nat} (eb : A.ab = some ⟨gb, 0, none⟩) (i : Nat) (z : Int) : WV w0 (w.setCell ⟨gb, i, none⟩ (.int .i64 z)) g G A (D.b (D.bd.set i z)) fa fn fc Fr := by
  have u := grown_set w gb i (.int .i64 z)
  have hp := h.v.b
  have hb : (Value.slice A.ab A.nb A.cb).ownBlock = some gb := by rw [eb]; rfl
  refine ⟨h.box.keep u (fun e => h.v.b.ne_box h.box (by decide) (hb.trans e.symm)), h.gl, ⟨?_, h.v.p.kept u (ne_of_some (fun x e e2 => ans_apart h.v.b h.v.p (by decide) x (hb.trans e2) e)), h.v.t.kept u (ne_of_some (fun x e e2 => h.v.ne x (hb.trans e2) e)), h.v.ne⟩, h.f.kept u (ne_of_some (fun x e e2 => h.nb x e (hb.trans e2))), h.nb, h.nt, h.L.step u (fun x e _ => h.v.b.new x (hb.trans e))⟩
  show AnsX _ _ _ A.ab A.nb A.cb (zys (D.bd.set i z))
  rw [eb] at hp ⊢
  have := hp.set i (.int .i64 z) rfl
  rw [zys_set] at this
  exact this
theorem WV.setT {w0 w : World} {g : Nat} {G : Gd} {A : Va} {D : Vi} {fa : Option Addr} {fn fc : Nat} {Fr : List Int} (h : WV w0 w g G A D fa fn fc Fr) {gt : Nat} (et : A.at' = some ⟨gt, 0, none⟩) (i : Nat) (z : Int) : WV w0 (w.setCell ⟨gt, i, none⟩ (.int .i64 z)) g G A (D.t (D.tr.set i z)) fa fn fc Fr := by
  have u := grown_set w gt i (.int .i64 z)
  have hp := h.v.t
  have hb : (Value.slice A.at' A.nt A.ct).ownBlock = some gt := by rw [et]; rfl
  refine ⟨h.box.keep u (fun e => h.v.t.ne_box h.box (by decide) (hb.trans e.symm)), h.gl, ⟨h.v.b.kept u (ne_of_some (fun x e e2 => h.v.ne x e (hb.trans e2))), h.v.p.kept u (ne_of_some (fun x e e2 => ans_apart h.v.t h.v.p (by decide) x (hb.trans e2) e)), ?_, h.v.ne⟩, h.f.kept u (ne_of_some (fun x e e2 => h.nt x e (hb.trans e2))), h.nb, h.nt, h.L.step u (fun x e _ => h.v.t.new x (hb.trans e))⟩
  show AnsX _ _ _ A.at' A.nt A.ct (zys (D.tr.set i z))
  rw [et] at hp ⊢
  have := hp.set i (.int .i64 z) rfl
  rw [zys_set] at this
  exact this
/-- numbers in the box itself -/
theorem WV.setS {w0 w w' : World} {g : Nat} {G : Gd} {A : Va} {D : Vi} {fa : Option Addr} {fn fc : Nat} {Fr : List Int} (h : WV w0 w g G A D fa fn fc Fr) (sf : Bool) (wy qu : Int) (bx : BxS w' g 69 (wvA G A ⟨sf, wy, D.bd, D.tp, qu, D.tr⟩ fa fn fc)) (u : w.grownBy w' (some g)) : WV w0 w' g G A ⟨sf, wy, D.bd, D.tp, qu, D.tr⟩ fa fn fc Fr :=
  ⟨bx, h.gl, ⟨h.v.b.kept u (.inr (h.v.b.ne_box h.box (by decide))), h.v.p.kept u (.inr (h.v.p.ne_box h.box (by decide))), h.v.t.kept u (.inr (h.v.t.ne_box h.box (by decide))), h.v.ne⟩, h.f.kept u (.inr (h.f.ne_box h.box (by decide))), h.nb, h.nt, h.L.step u (fun x e _ => by have e : g = x := Option.some.inj e; subst e; exact h.gl)⟩
/-- a trip: what there is behind it -/
def tpF (tr : List Int) : List Int := if 100 < tr.length + 1 then (tr ++ [0]).drop 1 else tr ++ [0]
def vfT (D : Vi) (i : Nat) : Vi := ⟨D.sf, D.wy, D.bd, D.tp.set i true, D.qu, tpF D.tr⟩
theorem stc_slI (g i : Nat) (p : Option Addr) (l c : Nat) (w : World) (hc : ∃ u, w.cell? ⟨g, i, none⟩ = some u) (hf : w.frozen? ⟨g, i, none⟩ = false) : (Instr.storeAt 26 (.pointer (some ⟨g, i, none⟩)) (.slice p l c)).run Try.prog w = .ok () (w.setCell ⟨g, i, none⟩ (.slice p l c)) := by
  obtain ⟨u, hc⟩ := hc
  simp [go_sem, hc, hf]
theorem hls_set (H : List Bool) (i : Nat) (b : Bool) : (hls H).set i (.bool b) = hls (H.set i b) := by simp [hls, List.map_set]
set_option maxHeartbeats 16000000 in
theorem trip_any (w0 : World) (g : Nat) (G : Gd) (A : Va) (D : Vi) (fa : Option Addr) (fn fc : Nat) (Fr : List Int) (i : Nat) (w : World) (h : WV w0 w g G A D fa fn fc Fr) (hi : i < D.tp.length) (htp : D.tp.length ≤ 32) (hfr : Fr.length ≤ 100) (htr : D.tr.length ≤ 100) :
    Calls Try.prog 58 #[.pointer (some ⟨g, 0, none⟩), .int .i64 (i : Int)] w fun e w' => e = .returned (.tuple #[]) ∧ ∃ A' fa' fn' fc', WV w0 w' g G A' (vfT D i) fa' fn' fc' (Fr ++ [(i : Int)]) := by
  have lp : D.tp.length = A.np := by rw [← hls_len]; exact h.v.p.len
  have lf : Fr.length = fn := by rw [← zys_length]; exact h.f.len
  have lt : D.tr.length = A.nt := by rw [← zys_length]; exact h.v.t.len
  obtain ⟨gp, ep, gpl, gph⟩ := h.v.p.some_of (by omega)
  have hmx := h.v.p.max
  have hmm : maxLen ≤ 9223372036854775807 := by decide
  have h1 := h.setP ep i true
  have bx := h.box
  have hp := h.v.p
  unfold wvA at bx
  rw [ep] at bx hp
  obtain ⟨c0, c1, c2, c3, c4, c5, c6, c7, c8, c9, c10, c11⟩ := bx.cell12
  have cp := hp.cell i _ (hls_at D.tp i hi)
  have fp := hp.free i
  have hil : i < A.np := by omega
  have hil' : (i : Int) < (A.np : Int) := by omega
  clear hp
  generalize hw1 : w.setCell ⟨gp, i, none⟩ (.bool true) = w1 at *
  have bx1 := h1.box
  unfold wvA at bx1
  rw [ep] at bx1
  dsimp only [Vi.p] at bx1
  obtain ⟨d0, d1, d2, d3, d4, d5, d6, d7, d8, d9, d10, d11⟩ := bx1.cell12
  have lw : w0.heap.size ≤ w1.heap.size := h1.L.size
  have hfn : fn + 1 ≤ 8000000000000 := by omega
  have hnt1 : A.nt + 1 ≤ 8000000000000 := by omega
  have hnn : A.nt ≤ 100 := by omega
  have HT : Hid (D.tr.length = A.nt) := lt
  have vf1 := h1.f
  have nfb := h1.f.ne_box h1.box (by decide)
  have s0 : True := trivial
  clear lf lt lp bx h
  go_enter Try.func58, Try.ntmps58
  go_wp2_with (first
    | (at_builtin; have _t := s0; clear s0; refine wpList_psX Try.elI w1 (.int .i64 (i : Int)) rfl rfl _ _ rfl fa fn fc w0.heap.size (zys Fr) rfl vf1 lw rfl hfn ?_; intro gf cf w2 vf2 u2 hx2; have bx2 := bx1.keep u2 (fun e => nfb e.symm); have s1 : True := trivial)
    | (have _t := s1; clear s1; refine wpList_stC _ rfl _ _ _ rfl g 11 69 _ #[.bool D.sf, .int .i64 D.wy, .slice (A.ab) (A.nb) (A.cb), .slice (some ⟨gp, 0, none⟩) (A.np) (A.cp), .int .i64 D.qu, .slice (A.at') (A.nt) (A.ct), .slice G.ma G.n G.mc, .int .i64 G.si, .int .i64 G.mo, .int .i64 G.wi, .string G.sa, .slice (some ⟨gf, 0, none⟩) (fn + 1) (cf)] (.slice (some ⟨gf, 0, none⟩) (fn + 1) cf) rfl rfl bx2 (stc_slI _ _ _ _ _) (by show 11 < 12; decide) rfl ?_; intro w3 bx3 u3; clear d0 d1 d2 d3 d4 d5 d6 d7 d8 d9 d10 d11; obtain ⟨d0, d1, d2, d3, d4, d5, d6, d7, d8, d9, d10, d11⟩ := bx3.cell12; have h3 := h1.newF (Fr' := Fr ++ [(i : Int)]) (by rw [show zys (Fr ++ [(i : Int)]) = zys Fr ++ [.int .i64 (i : Int)] by simp [zys]]; exact vf2) u2 hx2 (by unfold wvA; rw [ep]; exact bx3) u3; have vt3 := h3.v.t; have ntb := h3.v.t.ne_box h3.box (by decide); have lw3 : w0.heap.size ≤ w3.heap.size := h3.L.size; have s2 : True := trivial)
    | (at_builtin; have _t := s2; clear s2; refine wpList_psX Try.elI w3 (.int .i64 0) rfl rfl _ _ rfl A.at' A.nt A.ct w0.heap.size (zys D.tr) rfl vt3 lw3 rfl hnt1 ?_; intro gt ct' w4 vt4 u4 hx4; have bx4 := bx3.keep u4 (fun e => ntb e.symm); have s3 : True := trivial)
    | (have _t := s3; clear s3; refine wpList_stC _ rfl _ _ _ rfl g 5 69 _ #[.bool D.sf, .int .i64 D.wy, .slice (A.ab) (A.nb) (A.cb), .slice (some ⟨gp, 0, none⟩) (A.np) (A.cp), .int .i64 D.qu, .slice (some ⟨gt, 0, none⟩) (A.nt + 1) (ct'), .slice G.ma G.n G.mc, .int .i64 G.si, .int .i64 G.mo, .int .i64 G.wi, .string G.sa, .slice (some ⟨gf, 0, none⟩) (fn + 1) (cf)] (.slice (some ⟨gt, 0, none⟩) (A.nt + 1) ct') rfl rfl bx4 (stc_slI _ _ _ _ _) (by show 5 < 12; decide) rfl ?_; intro w5 bx5 u5; clear d0 d1 d2 d3 d4 d5 d6 d7 d8 d9 d10 d11; obtain ⟨d0, d1, d2, d3, d4, d5, d6, d7, d8, d9, d10, d11⟩ := bx5.cell12; have h5 := h3.newT (a' := some ⟨gt, 0, none⟩) (n' := A.nt + 1) (c' := ct') (tr := D.tr ++ [0]) (by rw [show zys (D.tr ++ [0]) = zys D.tr ++ [.int .i64 0] by simp [zys]]; exact vt4) u4 (fun x e => by have e : gt = x := Option.some.inj e; subst e; exact hx4) (by unfold wvA; dsimp only [Va.t, Vi.t, Vi.p]; rw [ep]; exact bx5) u5; have vt5 := h5.v.t; have ntb5 := h5.v.t.ne_box h5.box (by decide); have s4 : True := trivial)
    | (go_at_call 63; have _t := s4; clear s4; refine (delete01_any gt (A.nt + 1) ct' w0.heap.size (D.tr ++ [0]) _ vt5 (by omega) (by omega)).mono ?_; rintro e w6 ⟨rfl, vt6, u6⟩; have bx6 := bx5.keep u6 (fun e => ntb5 e.symm); have s5 : True := trivial)
    | (have _t := s5; clear s5; refine wpList_stC _ rfl _ _ _ rfl g 5 69 _ #[.bool D.sf, .int .i64 D.wy, .slice (A.ab) (A.nb) (A.cb), .slice (some ⟨gp, 0, none⟩) (A.np) (A.cp), .int .i64 D.qu, .slice (some ⟨gt, 0, none⟩) (A.nt + 1 - 1) (ct'), .slice G.ma G.n G.mc, .int .i64 G.si, .int .i64 G.mo, .int .i64 G.wi, .string G.sa, .slice (some ⟨gf, 0, none⟩) (fn + 1) (cf)] (.slice (some ⟨gt, 0, none⟩) (A.nt + 1 - 1) ct') rfl rfl bx6 (stc_slI _ _ _ _ _) (by show 5 < 12; decide) rfl ?_; intro w7 bx7 u7))
  · go_end0
    have h7 := h5.newT (a' := some ⟨gt, 0, none⟩) (n' := A.nt + 1 - 1) (c' := ct') (tr := (D.tr ++ [0]).drop 1) vt6 u6 (fun x e => .inl e) (by unfold wvA; dsimp only [Va.t, Vi.t, Vi.p]; rw [ep]; exact bx7) u7
    have e : vfT D i = Vi.t (Vi.t (Vi.p D (D.tp.set i true)) (D.tr ++ [0])) ((D.tr ++ [0]).drop 1) := by
      unfold vfT tpF Vi.t Vi.p
      rw [if_pos (by rw [HT.out]; omega)]
    rw [e]
    exact ⟨rfl, _, _, _, _, h7⟩
  · go_end0
    have e : vfT D i = Vi.t (Vi.p D (D.tp.set i true)) (D.tr ++ [0]) := by
      unfold vfT tpF Vi.t Vi.p
      rw [if_neg (by rw [HT.out]; omega)]
    rw [e]
    exact ⟨rfl, _, _, _, _, h5⟩
end Go.Proofs.Ytnpkmjdlohdieaa
