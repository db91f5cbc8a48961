import Derived.Test.YtaigcjhachkmmaaDoorYRt
import Derived.Test.YtaigcjhachkmmaaDoorYTg
import Derived.Test.YtaigcjhachkmmaaDoorYBl
namespace Go.Proofs.YtaigcjhachkmmaaDoor
open Go.RowKit
set_option maxRecDepth 100000
set_option linter.unusedVariables false
set_option linter.unusedSimpArgs false
theorem blE_zero' {n : Nat} {S : List Int} {z x : Int} (h : blE n S z x = 0) : n = 8 ∧ (∀ i, i < 8 → nthI S i = ((nthI S i).toNat : Int) ∧ (nthI S i).toNat < 4294967296) ∧ (0 ≤ z ∧ z ≤ 281474976710655) ∧ (0 ≤ x ∧ x ≤ 1000) := by
  unfold blE at h
  by_cases h0 : wdE n S = 0
  · rw [if_pos h0] at h
    by_cases h1 : kwB z 0 281474976710655 = true ∧ kwB x 0 1000 = true
    · unfold wdE at h0
      by_cases h8 : n = 8
      · rw [if_pos h8] at h0
        by_cases hw : wdB S = true
        · exact ⟨h8, fun i hi => by have := wdB_ok hw i hi; omega, kwB_ok h1.1, kwB_ok h1.2⟩
        · rw [if_neg hw] at h0; omega
      · rw [if_neg h8] at h0; omega
    · rw [if_neg h1] at h; omega
  · rw [if_neg h0] at h; exact absurd h h0
end Go.Proofs.YtaigcjhachkmmaaDoor
