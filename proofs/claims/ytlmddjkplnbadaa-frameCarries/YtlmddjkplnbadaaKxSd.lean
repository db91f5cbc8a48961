import Derived.Test.YtlmddjkplnbadaaKxOw
namespace Go.Proofs.Ytlmddjkplnbadaa
open Go.RowKit
set_option maxRecDepth 100000
set_option linter.unusedVariables false
set_option linter.unusedSimpArgs false

/-- rows that are not written lie as they lay -/
theorem Ans.fz {w w' : World} {p : Nat → Prop} {lo n c : Nat} {a : Option Addr} {L : List Nat} (h : Ans w lo a n c L) (hF : Fz p w w') (hn : ∀ x, (Value.slice a n c).ownBlock = some x → ¬ p x) : Ans w' lo a n c L := by
  refine ⟨⟨h.own.1, ?_⟩, h.byte, h.new⟩
  rcases h.own.2 with h1 | ⟨g, cap, cur, h1, h2, hh, h3⟩
  · exact .inl h1
  · exact .inr ⟨g, cap, cur, h1, h2, (hF.block g (Array.getElem?_eq_some_iff.1 hh).1 (hn g (by rw [h1]; rfl))).trans hh, h3⟩
theorem OwR.fz {w w' : World} {p : Nat → Prop} {lo n c : Nat} {a : Option Addr} {rs : List Rw} (h : OwR w lo a n c rs) (hF : Fz p w w') (hn : ∀ x, Ofr (.slice a n c) rs x → ¬ p x) : OwR w' lo a n c rs := by
  refine ⟨⟨h.own.1, ?_⟩, h.len, h.new, fun r hr => (h.each r hr).fz hF (fun x e => hn x (.inr ⟨r, hr, e⟩)), h.apart⟩
  rcases h.own.2 with h1 | ⟨g, cap, cur, h1, h2, hh, h3⟩
  · exact .inl h1
  · exact .inr ⟨g, cap, cur, h1, h2, (hF.block g (Array.getElem?_eq_some_iff.1 hh).1 (hn g (.inl (by rw [h1]; rfl)))).trans hh, h3⟩
theorem OwR.box {w : World} {lo n c g : Nat} {a : Option Addr} {rs : List Rw} {t : TypeId} {cs : Array Value} (h : OwR w lo a n c rs) (b : BxS w g t cs) (ht : 22 ≠ t) : (Value.slice a n c).ownBlock ≠ some g := by
  intro e
  rcases h.own.2 with ⟨h1, _⟩ | ⟨x, cap, cur, h1, _, hh, _⟩
  · rw [h1] at e; simp [Value.ownBlock] at e
  · rw [h1] at e
    have e1 : x = g := Option.some.inj e
    subst e1
    have e2 : some (Obj.cells cur 22) = some (.cells cs t) := hh.symm.trans b
    injection e2 with e3
    injection e3 with _ e4
    exact ht e4
theorem Ans.box {w : World} {lo n c g : Nat} {a : Option Addr} {L : List Nat} {t : TypeId} {cs : Array Value} (h : Ans w lo a n c L) (b : BxS w g t cs) (ht : 5 ≠ t) : (Value.slice a n c).ownBlock ≠ some g := by
  intro e
  rcases h.own.2 with ⟨h1, _⟩ | ⟨x, cap, cur, h1, _, hh, _⟩
  · rw [h1] at e; simp [Value.ownBlock] at e
  · rw [h1] at e
    have e1 : x = g := Option.some.inj e
    subst e1
    have e2 : some (Obj.cells cur 5) = some (.cells cs t) := hh.symm.trans b
    injection e2 with e3
    injection e3 with _ e4
    exact ht e4
theorem ofr_lo {w : World} {lo : Nat} {a : Option Addr} {n c : Nat} {rs : List Rw} (h : OwR w lo a n c rs) {x : Nat} (hx : Ofr (.slice a n c) rs x) : lo ≤ x := by
  rcases hx with h1 | ⟨r, hr, h1⟩
  · exact h.new x h1
  · exact (h.each r hr).new x h1
theorem ofr_hi {hi : Nat} {v : Value} {rs : List Rw} (h : Bef hi v rs) {x : Nat} (hx : Ofr v rs x) : x < hi := by
  rcases hx with h1 | ⟨r, hr, h1⟩
  · exact h.1 x h1
  · exact h.2 r hr x h1
theorem BxS.fz {w w' : World} {p : Nat → Prop} {g : Nat} {t : TypeId} {cs : Array Value} (h : BxS w g t cs) (hF : Fz p w w') (hn : ¬ p g) : BxS w' g t cs := (hF.block g h.lt hn).trans h
theorem ofr_box {w : World} {lo : Nat} {a : Option Addr} {n c g : Nat} {rs : List Rw} {t : TypeId} {cs : Array Value} (h : OwR w lo a n c rs) (b : BxS w g t cs) (h1 : 22 ≠ t) (h2 : 5 ≠ t) {x : Nat} (hx : Ofr (.slice a n c) rs x) : ¬ x = g := by
  intro e
  subst e
  rcases hx with h3 | ⟨r, hr, h3⟩
  · exact h.box b h1 h3
  · exact (h.each r hr).box b h2 h3
end Go.Proofs.Ytlmddjkplnbadaa
