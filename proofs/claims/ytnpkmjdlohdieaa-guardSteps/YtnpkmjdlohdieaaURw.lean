import Derived.Test.YtnpkmjdlohdieaaURv
import Derived.Test.YtnpkmjdlohdieaaUNa
namespace Go.Proofs.Ytnpkmjdlohdieaa
open Go.RowKit
set_option maxRecDepth 100000
set_option linter.unusedVariables false
set_option linter.unusedSimpArgs false
/-- the document's vigil behind the watch: its trips are its own now (not at a row's head, maybe); the names that are told -/
structure RW (w0 w : World) (g : Nat) (A : Va) (D : Vi) (na : Option Addr) (nn nc : Nat) (Nw : List Int) (sa : Option Addr) (sn sc : Nat) (L : List ByteArray) : Prop where
  box : BxS w g 29 (vgA D A)
  gl : w0.heap.size ≤ g
  b : AnsX 3 w w0.heap.size A.ab A.nb A.cb (zys D.bd)
  p : AnsX 4 w w0.heap.size A.ap A.np A.cp (hls D.tp)
  t : TrO w w0.heap.size A.at' A.nt A.ct D.tr
  n : AnsX 3 w w0.heap.size na nn nc (zys Nw)
  s : AnsX 9 w w0.heap.size sa sn sc (sts L)
  L : Fz (fun i => w0.heap.size ≤ i) w0 w
theorem RW.keep {w0 w w' : World} {g : Nat} {A : Va} {D : Vi} {na : Option Addr} {nn nc : Nat} {Nw : List Int} {sa : Option Addr} {sn sc : Nat} {L : List ByteArray} (h : RW w0 w g A D na nn nc Nw sa sn sc L) (hg : w.grownBy w' none) : RW w0 w' g A D na nn nc Nw sa sn sc L :=
  ⟨h.box.keep hg (by simp), h.gl, h.b.keep hg, h.p.keep hg, h.t.kept hg (fun _ _ _ e => by cases e), h.n.keep hg, h.s.keep hg, h.L.step hg (fun k e _ => by cases e)⟩
theorem RW.rd {w0 w : World} {g : Nat} {A : Va} {D : Vi} {na : Option Addr} {nn nc : Nat} {Nw : List Int} {sa : Option Addr} {sn sc : Nat} {L : List ByteArray} (h : RW w0 w g A D na nn nc Nw sa sn sc L) : RdVg w A D := ⟨h.b.rd, h.p.rd, h.t.rd⟩
theorem trO_ne {w : World} {lo : Nat} {a : Option Addr} {n c : Nat} {S : List Int} (h : TrO w lo a n c S) {g : Nat} {t : TypeId} {cs : Array Value} {fr : Nat × Nat} (hb : w.heap[g]? = some (.cells cs t fr)) (hne : 3 ≠ t) : ∀ y o, a = some ⟨y, o, none⟩ → some g ≠ some y := by
  intro y o e e2
  have e2 : g = y := Option.some.inj e2
  subst e2
  obtain ⟨_, _, c1, f1, h1⟩ := h.bl_ty g ⟨o, none, e⟩
  rw [hb] at h1
  have := Option.some.inj h1
  injection this with _ ht _
  exact hne ht.symm
/-- the trips are the vigil's -/
theorem RW.of {w0 w w' : World} {g : Nat} {A : Va} {D : Vi} {ta : Option Addr} {tn tc : Nat} {Tr : List Int} {na : Option Addr} {nn nc : Nat} {Nw : List Int} (h : RV w0 w g A D ta tn tc Tr na nn nc Nw) (bx : BxS w' g 29 (vgA (D.t Tr) (A.t ta tn tc))) (u : w.grownBy w' (some g)) : RW w0 w' g (A.t ta tn tc) (D.t Tr) na nn nc Nw none 0 0 [] :=
  ⟨bx, h.gl, h.v.b.kept u (.inr (h.v.b.ne_box h.box (by decide))), h.v.p.kept u (.inr (h.v.p.ne_box h.box (by decide))), h.t.kept u (trO_ne h.t h.box (by decide)), h.n.kept u (.inr (h.n.ne_box h.box (by decide))), AnsX.nil0 _ _ _, h.L.step u (fun x e _ => by have e : g = x := Option.some.inj e; subst e; exact h.gl)⟩
/-- its flags and numbers are written -/
theorem RW.setS {w0 w w' : World} {g : Nat} {A : Va} {D : Vi} {na : Option Addr} {nn nc : Nat} {Nw : List Int} {sa : Option Addr} {sn sc : Nat} {L : List ByteArray} (h : RW w0 w g A D na nn nc Nw sa sn sc L) (sf : Bool) (wy qu : Int) (bx : BxS w' g 29 (vgA ⟨sf, wy, D.bd, D.tp, qu, D.tr⟩ A)) (u : w.grownBy w' (some g)) : RW w0 w' g A ⟨sf, wy, D.bd, D.tp, qu, D.tr⟩ na nn nc Nw sa sn sc L :=
  ⟨bx, h.gl, h.b.kept u (.inr (h.b.ne_box h.box (by decide))), h.p.kept u (.inr (h.p.ne_box h.box (by decide))), h.t.kept u (trO_ne h.t h.box (by decide)), h.n.kept u (.inr (h.n.ne_box h.box (by decide))), h.s.kept u (.inr (h.s.ne_box h.box (by decide))), h.L.step u (fun x e _ => by have e : g = x := Option.some.inj e; subst e; exact h.gl)⟩
/-- its trips are forgotten -/
theorem RW.setN {w0 w w' : World} {g : Nat} {A : Va} {D : Vi} {na : Option Addr} {nn nc : Nat} {Nw : List Int} {sa : Option Addr} {sn sc : Nat} {L : List ByteArray} (h : RW w0 w g A D na nn nc Nw sa sn sc L) (bx : BxS w' g 29 (vgA (D.t []) (A.t none 0 0))) (u : w.grownBy w' (some g)) : RW w0 w' g (A.t none 0 0) (D.t []) na nn nc Nw sa sn sc L :=
  ⟨bx, h.gl, h.b.kept u (.inr (h.b.ne_box h.box (by decide))), h.p.kept u (.inr (h.p.ne_box h.box (by decide))), ⟨rfl, ⟨Nat.le_refl _, Nat.zero_le _⟩, .inl ⟨rfl, rfl, rfl⟩⟩, h.n.kept u (.inr (h.n.ne_box h.box (by decide))), h.s.kept u (.inr (h.s.ne_box h.box (by decide))), h.L.step u (fun x e _ => by have e : g = x := Option.some.inj e; subst e; exact h.gl)⟩
/-- a name is told -/
theorem RW.newS {w0 w w' : World} {g : Nat} {A : Va} {D : Vi} {na : Option Addr} {nn nc : Nat} {Nw : List Int} {sa : Option Addr} {sn sc : Nat} {L : List ByteArray} (h : RW w0 w g A D na nn nc Nw sa sn sc L) {gs m c : Nat} {L' : List ByteArray} (vs : AnsX 9 w' w0.heap.size (some ⟨gs, 0, none⟩) m c (sts L')) (u : w.grownBy w' (Value.slice sa sn sc).ownBlock) : RW w0 w' g A D na nn nc Nw (some ⟨gs, 0, none⟩) m c L' := by
  refine ⟨h.box.keep u (fun e => h.s.ne_box h.box (by decide) e.symm), h.gl, h.b.kept u (ne_of_some (fun x e e2 => ans_apart h.s h.b (by decide) x e2 e)), h.p.kept u (ne_of_some (fun x e e2 => ans_apart h.s h.p (by decide) x e2 e)), h.t.kept u (fun y o e e2 => ?_), h.n.kept u (ne_of_some (fun x e e2 => ans_apart h.s h.n (by decide) x e2 e)), vs, h.L.step u (fun x e _ => h.s.new x e)⟩
  rcases h.s.cases with ⟨e1, _⟩ | ⟨g1, e1, _⟩
  · rw [e1] at e2; simp [Value.ownBlock] at e2
  · have hs := h.s
    rw [e1] at hs e2
    have e2 : g1 = y := Option.some.inj e2
    subst e2
    obtain ⟨c1, f1, h1⟩ := hs.ty
    exact trO_ne h.t h1 (by decide) g1 o e rfl
end Go.Proofs.Ytnpkmjdlohdieaa
