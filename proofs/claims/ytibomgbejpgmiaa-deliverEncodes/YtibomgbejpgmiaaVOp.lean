import Derived.Test.YtibomgbejpgmiaaPOp
namespace Go.Proofs.Ytibomgbejpgmiaa
open Go.ChangeShapes Go.WideShapes
set_option linter.unusedVariables false

theorem shown_str {w : World} {full : Bool} {n : Nat} {v : Value} (h : Sh.str.shown w full v n) : ∃ s : ByteArray, v = .string s ∧ n = s.size + 1 ∧ s.size ≤ maxLen ∧ (full = true → s.size ≤ reachBytes) := by
  obtain ⟨s, e, h1, h2, h3⟩ := h
  cases e
  exact ⟨s, rfl, h1, h2, h3⟩
end Go.Proofs.Ytibomgbejpgmiaa
