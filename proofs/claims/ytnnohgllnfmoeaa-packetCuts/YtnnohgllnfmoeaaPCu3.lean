import Derived.Test.YtnnohgllnfmoeaaPCu2
import Derived.Test.YtnnohgllnfmoeaaPDec
namespace Go.Proofs.Ytnnohgllnfmoeaa
open Go.RowKit
set_option maxRecDepth 100000
set_option linter.unusedVariables false
set_option linter.unusedSimpArgs false

theorem BxS.cell1 {w : World} {g : Nat} {t : TypeId} {a : Value} (h : BxS w g t #[a]) : w.cell? ⟨g, 0, none⟩ = some a := h.cell 0 Nat.zero_lt_one
/-- blocks of different types are different -/
theorem BxS.apart {w : World} {g h : Nat} {t u : TypeId} {A B : Array Value} (x : BxS w g t A) (y : BxS w h u B) (hne : t ≠ u) : g ≠ h := by
  intro e
  subst e
  have : some (Obj.cells A t) = some (.cells B u) := (show w.heap[g]? = _ from x).symm.trans y
  injection this with this
  injection this with _ ht
  exact hne ht
theorem OwP.apart {w : World} {lo g n cap : Nat} {a : Option Addr} {ps : List Pk} {u : TypeId} {B : Array Value} (h : OwP w lo a n cap ps) (y : BxS w g u B) (hne : 33 ≠ u) : (Value.slice a n cap).ownBlock ≠ some g := by
  intro e
  rcases h.own.2 with ⟨h1, h2⟩ | ⟨q, c1, cur, h1, _, h3, _⟩
  · simp only [Value.slice.injEq] at h1
    obtain ⟨rfl, rfl, rfl⟩ := h1
    simp [Value.ownBlock] at e
  · simp only [Value.slice.injEq] at h1
    obtain ⟨rfl, _, _⟩ := h1
    have e' : q = g := Option.some.inj e
    subst e'
    exact BxS.apart (show BxS w q 33 cur from h3) y hne rfl
theorem Ans.apart {w : World} {lo g n cap : Nat} {a : Option Addr} {L : List Nat} {u : TypeId} {B : Array Value} (h : Ans w lo a n cap L) (y : BxS w g u B) (hne : 5 ≠ u) : (Value.slice a n cap).ownBlock ≠ some g := by
  intro e
  rcases h.own.2 with ⟨h1, h2⟩ | ⟨q, c1, cur, h1, _, h3, _⟩
  · simp only [Value.slice.injEq] at h1
    obtain ⟨rfl, rfl, rfl⟩ := h1
    simp [Value.ownBlock] at e
  · simp only [Value.slice.injEq] at h1
    obtain ⟨rfl, _, _⟩ := h1
    have e' : q = g := Option.some.inj e
    subst e'
    exact BxS.apart (show BxS w q 5 cur from h3) y hne rfl
/-- the five variables that 'put' works on -/
structure CuS (wb w : World) (go gp gu ga gc : Nat) (up : Bool) (ap : Int) (pc ct : Nat) (ao : Option Addr) (m co : Nat) (ps : List Pk) : Prop where
  out : BxS w go 24 #[.slice ao m co]
  pcs : BxS w gp 3 #[.int .i64 (pc : Int)]
  upb : BxS w gu 4 #[.bool up]
  apb : BxS w ga 3 #[.int .i64 ap]
  cnt : BxS w gc 3 #[.int .i64 (ct : Int)]
  own : OwP w wb.heap.size ao m co ps
  pne : gp ≠ gc
  ane : ga ≠ gc
  nout : wb.heap.size ≤ go
  ncnt : wb.heap.size ≤ gc
  data : ∀ i (h : i < ps.length), Ans w wb.heap.size ps[i].a ps[i].n ps[i].c ps[i].D
  apart : ∀ i j (hi : i < ps.length) (hj : j < ps.length), i < j → (Value.slice ps[i].a ps[i].n ps[i].c).ownBlock ≠ (Value.slice ps[j].a ps[j].n ps[j].c).ownBlock
  grown : wb.grownBy w none
end Go.Proofs.Ytnnohgllnfmoeaa
