import Derived.Test.YtnpkmjdlohdieaaUPo
namespace Go.Proofs.Ytnpkmjdlohdieaa
open Go.RowKit
set_option maxRecDepth 100000
set_option linter.unusedVariables false
set_option linter.unusedSimpArgs false
theorem TrO.bl_ty {w : World} {lo : Nat} {a : Option Addr} {n cap : Nat} {S : List Int} (h : TrO w lo a n cap S) (y : Nat) (hy : TrO.bl a y) : lo ≤ y ∧ y < w.heap.size ∧ ∃ cs fr, w.heap[y]? = some (.cells cs 3 fr) := by
  obtain ⟨o, s, e⟩ := hy
  rcases h.at' with ⟨h1, _⟩ | ⟨g, o', cur, e', hl, hh, _⟩
  · rw [h1] at e; cases e
  · rw [e'] at e
    cases e
    exact ⟨hl, (Array.getElem?_eq_some_iff.1 hh).1, _, _, hh⟩
/-- the document's vigil in a tick: its box g, its lists, the trips and those that have tripped beside it -/
structure RV (w0 w : World) (g : Nat) (A : Va) (D : Vi) (ta : Option Addr) (tn tc : Nat) (Tr : List Int) (na : Option Addr) (nn nc : Nat) (Nw : List Int) : Prop where
  box : BxS w g 29 (vgA D A)
  gl : w0.heap.size ≤ g
  v : OwVg w w0.heap.size A D
  t : TrO w w0.heap.size ta tn tc Tr
  n : AnsX 3 w w0.heap.size na nn nc (zys Nw)
  L : Fz (fun i => w0.heap.size ≤ i) w0 w
  tb : ∀ y, TrO.bl ta y → (Value.slice A.ab A.nb A.cb).ownBlock ≠ some y ∧ (Value.slice A.at' A.nt A.ct).ownBlock ≠ some y ∧ (Value.slice na nn nc).ownBlock ≠ some y
  nb : ∀ y, (Value.slice na nn nc).ownBlock = some y → (Value.slice A.ab A.nb A.cb).ownBlock ≠ some y ∧ (Value.slice A.at' A.nt A.ct).ownBlock ≠ some y
theorem RV.keep {w0 w w' : World} {g : Nat} {A : Va} {D : Vi} {ta : Option Addr} {tn tc : Nat} {Tr : List Int} {na : Option Addr} {nn nc : Nat} {Nw : List Int} (h : RV w0 w g A D ta tn tc Tr na nn nc Nw) (hg : w.grownBy w' none) : RV w0 w' g A D ta tn tc Tr na nn nc Nw :=
  ⟨h.box.keep hg (by simp), h.gl, h.v.keep hg, h.t.kept hg (fun _ _ _ e => by cases e), h.n.keep hg, h.L.step hg (fun k e _ => by cases e), h.tb, h.nb⟩
/-- whatever block is neither the box nor one of those rows may be written -/
theorem RV.tne {w0 w : World} {g : Nat} {A : Va} {D : Vi} {ta : Option Addr} {tn tc : Nat} {Tr : List Int} {na : Option Addr} {nn nc : Nat} {Nw : List Int} (h : RV w0 w g A D ta tn tc Tr na nn nc Nw) (y : Nat) (hy : TrO.bl ta y) : y ≠ g ∧ (Value.slice A.ap A.np A.cp).ownBlock ≠ some y := by
  obtain ⟨_, hl, cs, fr, hh⟩ := h.t.bl_ty y hy
  refine ⟨fun e => ?_, fun e => ?_⟩
  · subst e
    rw [show w.heap[y]? = _ from h.box] at hh
    have := Option.some.inj hh
    injection this with _ ht _
    exact absurd ht (by decide)
  · rcases h.v.p.cases with ⟨e1, _⟩ | ⟨gp, e1, _⟩
    · rw [e1] at e; simp [Value.ownBlock] at e
    · have hp := h.v.p
      rw [e1] at e hp
      have e : gp = y := Option.some.inj e
      subst e
      obtain ⟨c1, f1, t1⟩ := hp.ty
      rw [t1] at hh
      have := Option.some.inj hh
      injection this with _ ht _
      exact absurd ht (by decide)
theorem RV.setB {w0 w : World} {g : Nat} {A : Va} {D : Vi} {ta : Option Addr} {tn tc : Nat} {Tr : List Int} {na : Option Addr} {nn nc : Nat} {Nw : List Int} (h : RV w0 w g A D ta tn tc Tr na nn nc Nw) {gb : Nat} (eb : A.ab = some ⟨gb, 0, none⟩) (i : Nat) (z : Int) : RV w0 (w.setCell ⟨gb, i, none⟩ (.int .i64 z)) g A (D.b (D.bd.set i z)) ta tn tc Tr na nn nc Nw := by
  have u := grown_set w gb i (.int .i64 z)
  have hp := h.v.b
  have hb : (Value.slice A.ab A.nb A.cb).ownBlock = some gb := by rw [eb]; rfl
  refine ⟨h.box.keep u (fun e => h.v.b.ne_box h.box (by decide) (hb.trans e.symm)), h.gl, ⟨?_, h.v.p.kept u (ne_of_some (fun x e e2 => ans_apart h.v.b h.v.p (by decide) x (hb.trans e2) e)), h.v.t.kept u (ne_of_some (fun x e e2 => h.v.ne x (hb.trans e2) e)), h.v.ne⟩, h.t.kept u (fun y o e e2 => (h.tb y ⟨o, none, e⟩).1 (hb.trans e2)), h.n.kept u (ne_of_some (fun x e e2 => (h.nb x e).1 (hb.trans e2))), h.L.step u (fun x e _ => h.v.b.new x (hb.trans e)), h.tb, h.nb⟩
  show AnsX _ _ _ A.ab A.nb A.cb (zys (D.bd.set i z))
  rw [eb] at hp ⊢
  have := hp.set i (.int .i64 z) rfl
  rw [zys_set] at this
  exact this
theorem RV.setP {w0 w : World} {g : Nat} {A : Va} {D : Vi} {ta : Option Addr} {tn tc : Nat} {Tr : List Int} {na : Option Addr} {nn nc : Nat} {Nw : List Int} (h : RV w0 w g A D ta tn tc Tr na nn nc Nw) {gp : Nat} (ep : A.ap = some ⟨gp, 0, none⟩) (i : Nat) (b : Bool) : RV w0 (w.setCell ⟨gp, i, none⟩ (.bool b)) g A (D.p (D.tp.set i b)) ta tn tc Tr na nn nc Nw := by
  have u := grown_set w gp i (.bool b)
  have hp := h.v.p
  have hb : (Value.slice A.ap A.np A.cp).ownBlock = some gp := by rw [ep]; rfl
  refine ⟨h.box.keep u (fun e => h.v.p.ne_box h.box (by decide) (hb.trans e.symm)), h.gl, ⟨h.v.b.kept u (ne_of_some (fun x e e2 => ans_apart h.v.b h.v.p (by decide) x e (hb.trans e2))), ?_, h.v.t.kept u (ne_of_some (fun x e e2 => ans_apart h.v.t h.v.p (by decide) x e (hb.trans e2))), h.v.ne⟩, h.t.kept u (fun y o e e2 => (h.tne y ⟨o, none, e⟩).2 (hb.trans e2)), h.n.kept u (ne_of_some (fun x e e2 => ans_apart h.n h.v.p (by decide) x e (hb.trans e2))), h.L.step u (fun x e _ => h.v.p.new x (hb.trans e)), h.tb, h.nb⟩
  show AnsX _ _ _ A.ap A.np A.cp (hls (D.tp.set i b))
  rw [ep] at hp ⊢
  have := hp.set i (.bool b) rfl
  rw [show (hls D.tp).set i (.bool b) = hls (D.tp.set i b) by simp [hls, List.map_set]] at this
  exact this
theorem RV.setS {w0 w w' : World} {g : Nat} {A : Va} {D : Vi} {ta : Option Addr} {tn tc : Nat} {Tr : List Int} {na : Option Addr} {nn nc : Nat} {Nw : List Int} (h : RV w0 w g A D ta tn tc Tr na nn nc Nw) (sf : Bool) (wy qu : Int) (bx : BxS w' g 29 (vgA ⟨sf, wy, D.bd, D.tp, qu, D.tr⟩ A)) (u : w.grownBy w' (some g)) : RV w0 w' g A ⟨sf, wy, D.bd, D.tp, qu, D.tr⟩ ta tn tc Tr na nn nc Nw :=
  ⟨bx, h.gl, ⟨h.v.b.kept u (.inr (h.v.b.ne_box h.box (by decide))), h.v.p.kept u (.inr (h.v.p.ne_box h.box (by decide))), h.v.t.kept u (.inr (h.v.t.ne_box h.box (by decide))), h.v.ne⟩, h.t.kept u (fun y o e e2 => (h.tne y ⟨o, none, e⟩).1 (Option.some.inj e2).symm), h.n.kept u (.inr (h.n.ne_box h.box (by decide))), h.L.step u (fun x e _ => by have e : g = x := Option.some.inj e; subst e; exact h.gl), h.tb, h.nb⟩
theorem RV.newN {w0 w w' : World} {g : Nat} {A : Va} {D : Vi} {ta : Option Addr} {tn tc : Nat} {Tr : List Int} {na : Option Addr} {nn nc : Nat} {Nw : List Int} (h : RV w0 w g A D ta tn tc Tr na nn nc Nw) {gn m c : Nat} {Nw' : List Int} (vn : AnsX 3 w' w0.heap.size (some ⟨gn, 0, none⟩) m c (zys Nw')) (u : w.grownBy w' (Value.slice na nn nc).ownBlock) (hx : (Value.slice na nn nc).ownBlock = some gn ∨ w.heap.size ≤ gn) : RV w0 w' g A D ta tn tc Tr (some ⟨gn, 0, none⟩) m c Nw' := by
  have k : ∀ y, (Value.slice (some ⟨gn, 0, none⟩) m c).ownBlock = some y → (Value.slice na nn nc).ownBlock = some y ∨ w.heap.size ≤ y := fun y e => by
    have e : gn = y := Option.some.inj e
    subst e; exact hx
  refine ⟨h.box.keep u (fun e => h.n.ne_box h.box (by decide) e.symm), h.gl, ⟨h.v.b.kept u (ne_of_some (fun x e e2 => (h.nb x e2).1 e)), h.v.p.kept u (ne_of_some (fun x e e2 => ans_apart h.n h.v.p (by decide) x e2 e)), h.v.t.kept u (ne_of_some (fun x e e2 => (h.nb x e2).2 e)), h.v.ne⟩, h.t.kept u (fun y o e e2 => (h.tb y ⟨o, none, e⟩).2.2 e2), vn, h.L.step u (fun x e _ => h.n.new x e), fun y hy => ⟨(h.tb y hy).1, (h.tb y hy).2.1, fun e => ?_⟩, fun y e => ?_⟩
  · rcases k y e with e1 | e1
    · exact (h.tb y hy).2.2 e1
    · have := (h.t.bl_ty y hy).2.1; omega
  · rcases k y e with e1 | e1
    · exact h.nb y e1
    · exact ⟨fun e2 => by have := h.v.b.lt y e2; omega, fun e2 => by have := h.v.t.lt y e2; omega⟩
theorem RV.newT {w0 w w' : World} {g : Nat} {A : Va} {D : Vi} {ta : Option Addr} {tn tc : Nat} {Tr : List Int} {na : Option Addr} {nn nc : Nat} {Nw : List Int} (h : RV w0 w g A D ta tn tc Tr na nn nc Nw) {a' : Option Addr} {n' c' : Nat} {Tr' : List Int} {r : Option Nat} (vt : TrO w' w0.heap.size a' n' c' Tr') (u : w.grownBy w' r) (hr : ∀ y, r = some y → TrO.bl ta y) (k : ∀ y, TrO.bl a' y → TrO.bl ta y ∨ w.heap.size ≤ y) : RV w0 w' g A D a' n' c' Tr' na nn nc Nw := by
  refine ⟨h.box.keep u (fun e => (h.tne g (hr g e.symm)).1 rfl), h.gl, ⟨h.v.b.kept u (ne_of_some (fun x e e2 => (h.tb x (hr x e2)).1 e)), h.v.p.kept u (ne_of_some (fun x e e2 => (h.tne x (hr x e2)).2 e)), h.v.t.kept u (ne_of_some (fun x e e2 => (h.tb x (hr x e2)).2.1 e)), h.v.ne⟩, vt, h.n.kept u (ne_of_some (fun x e e2 => (h.tb x (hr x e2)).2.2 e)), h.L.step u (fun x e _ => (h.t.bl_ty x (hr x e)).1), fun y hy => ?_, h.nb⟩
  rcases k y hy with e1 | e1
  · exact h.tb y e1
  · exact ⟨fun e2 => by have := h.v.b.lt y e2; omega, fun e2 => by have := h.v.t.lt y e2; omega, fun e2 => by have := h.n.lt y e2; omega⟩
/-- the first trip is left out -/
theorem TrO.tail {w : World} {lo : Nat} {g o n cap : Nat} {S : List Int} (h : TrO w lo (some ⟨g, o, none⟩) n cap S) (hn : 1 ≤ n) : TrO w lo (some ⟨g, o + 1, none⟩) (n - 1) (cap - 1) (S.drop 1) := by
  have hl := h.len
  have hm := h.max
  refine ⟨by rw [List.length_drop]; omega, ⟨by omega, by omega⟩, ?_⟩
  rcases h.at' with ⟨e, _⟩ | ⟨g', o', cur, e, hlo, hh, hs, hc⟩
  · cases e
  · cases e
    refine .inr ⟨g, o + 1, cur, rfl, hlo, hh, by omega, fun j u hu => ?_⟩
    rw [← zys_drop, List.getElem?_drop] at hu
    rw [Nat.add_assoc]
    exact hc (1 + j) u hu
end Go.Proofs.Ytnpkmjdlohdieaa
