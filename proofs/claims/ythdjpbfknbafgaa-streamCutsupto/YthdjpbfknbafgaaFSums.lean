import Derived.Test.YthdjpbfknbafgaaFTimes
namespace Go.Proofs.Ythdjpbfknbafgaa
open Go.RowKit
set_option maxRecDepth 100000
set_option linter.unusedVariables false
set_option linter.unusedSimpArgs false

theorem Roomy.rd {w : World} {g n : Nat} {L D : List Nat} (h : Roomy w g n L D) (hL : IsB L) (hl : L.length = n) (hn : n ≤ 140737488351232) : Rd w (some ⟨g, 0, none⟩) n (n + 5) L :=
  ⟨hl, by omega, by unfold maxLen; omega, (fun h => by cases h), hL, fun _ => ⟨g, 0, rfl, h.blk.lt, fun i hi => by rw [Nat.zero_add, ← h.own i hi]; exact h.blk.cell i (by rw [h.len]; omega)⟩⟩
theorem grown_far {a b c : World} {r : Option Nat} (h : a.grownBy b none) (k : b.grownBy c r) (hr : ∀ g, r = some g → a.heap.size ≤ g) : a.grownBy c none :=
  ⟨k.os.trans h.os, k.tape.trans h.tape, k.output.trans h.output, Nat.le_trans h.size k.size, fun i hi hn => (k.block i (Nat.lt_of_lt_of_le hi h.size) (fun e => by have := hr i e.symm; omega)).trans (h.block i hi hn)⟩
theorem Ans.later {wa wb : World} {lo lo' : Nat} {a b : Option Addr} {n m cap cap' : Nat} {L M : List Nat} (ha : Ans wa lo a n cap L) (hb : Ans wb lo' b m cap' M) (h : wa.heap.size ≤ lo') :
    ∀ g off, b = some ⟨g, off, none⟩ → some g ≠ (Value.slice a n cap).ownBlock := by
  intro g off e
  rcases hb.cases with ⟨rfl, _, _⟩ | ⟨gb, rfl, h1, _⟩
  · cases e
  · cases e
    rcases ha.cases with ⟨rfl, _, _⟩ | ⟨ga, rfl, _, h2⟩
    · simp [Value.ownBlock]
    · simp only [Value.ownBlock, ne_eq, Option.some.injEq]; omega
theorem Ans.earlier {wa wc : World} {lo lo' : Nat} {a c : Option Addr} {n m cap cap' : Nat} {L M : List Nat} (ha : Ans wa lo a n cap L) (hc : Ans wc lo' c m cap' M) (h : wc.heap.size ≤ lo) :
    ∀ g off, c = some ⟨g, off, none⟩ → some g ≠ (Value.slice a n cap).ownBlock := by
  intro g off e
  rcases hc.cases with ⟨rfl, _, _⟩ | ⟨gb, rfl, _, h1⟩
  · cases e
  · cases e
    rcases ha.cases with ⟨rfl, _, _⟩ | ⟨ga, rfl, h2, _⟩
    · simp [Value.ownBlock]
    · simp only [Value.ownBlock, ne_eq, Option.some.injEq]; omega
theorem Ans.far {wa : World} {lo : Nat} {a : Option Addr} {n cap : Nat} {L : List Nat} (ha : Ans wa lo a n cap L) (B : Nat) (h : B ≤ lo) : ∀ g, (Value.slice a n cap).ownBlock = some g → B ≤ g := fun g hg => Nat.le_trans h (ha.new g hg)
theorem Ans.keep {w w' : World} {lo : Nat} {a : Option Addr} {n cap : Nat} {L : List Nat} (h : Ans w lo a n cap L) (hg : w.grownBy w' none) : Ans w' lo a n cap L :=
  h.kept hg (by cases (Value.slice a n cap).ownBlock <;> simp)
theorem Rd.keep {w w' : World} {a : Option Addr} {n cap : Nat} {L : List Nat} (h : Rd w a n cap L) (hg : w.grownBy w' none) : Rd w' a n cap L := h.grown hg (fun _ _ _ => by simp)
theorem Roomy.keep {w w' : World} {g n : Nat} {L D : List Nat} (h : Roomy w g n L D) (hg : w.grownBy w' none) : Roomy w' g n L D := h.grown hg (by simp)

/-- what Times answers, whatever the lengths -/
def terr (n m : Nat) : Int := if n ≤ 512 ∧ m ≤ 512 then 0 else 1
def timR (P Q : List Nat) : List Nat := if P.length ≤ 512 ∧ Q.length ≤ 512 then trimL (timL P Q) else []
theorem trimL_le (L : List Nat) : (trimL L).length ≤ L.length := by unfold trimL; rw [List.length_take]; omega
theorem timR_le (P Q : List Nat) : (timR P Q).length ≤ 1024 := by
  unfold timR; split
  · have := trimL_le (timL P Q)
    have e : (timL P Q).length = P.length + Q.length := timN_length P Q _
    omega
  · simp
theorem sumL_le (P Q : List Nat) : (trimL (sumL P Q)).length ≤ max P.length Q.length := by
  have := trimL_le (sumL P Q)
  simpa [sumL] using this
theorem ans_nil (w : World) (lo : Nat) : Ans w lo none 0 0 [] := ⟨World.ownsRow_nil _ _ _ _, (fun x hx => by cases hx), fun g h => by simp [Value.ownBlock] at h⟩
end Go.Proofs.Ythdjpbfknbafgaa
