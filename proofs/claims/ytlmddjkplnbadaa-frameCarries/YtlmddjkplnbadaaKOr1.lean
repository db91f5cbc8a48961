import Derived.Test.YtlmddjkplnbadaaKGt1
import Derived.Test.YtlmddjkplnbadaaKxNs
import Derived.Test.YtlmddjkplnbadaaPSam
namespace Go.Proofs.Ytlmddjkplnbadaa
open Go.RowKit
set_option maxRecDepth 100000
set_option linter.unusedVariables false
set_option linter.unusedSimpArgs false

/-- an order, cell by cell -/
def orA (cr : Int) (bp co : Bool) (sq : Int) (a : Option Addr) (n c : Nat) : Array Value := #[.int .i64 cr, .bool bp, .bool co, .int .i64 sq, .slice a n c]
/-- why an order may not be (0: it may) -/
def orE (cr : Int) (bp co : Bool) (sq : Int) (n : Nat) : Nat := if kwB cr 0 1023 && kwB sq 0 255 then (if co && !bp then 6 else (if kwB n 1 1017 then 0 else 1)) else 2
theorem orE_ok {cr : Int} {bp co : Bool} {sq : Int} {n : Nat} (h : orE cr bp co sq n = 0) : (0 ≤ cr ∧ cr ≤ 1023) ∧ (0 ≤ sq ∧ sq ≤ 255) ∧ (co && !bp) = false ∧ 1 ≤ n ∧ n ≤ 1017 := by
  unfold orE at h
  cases h1 : (kwB cr 0 1023 && kwB sq 0 255) with
  | false => rw [h1] at h; simp at h
  | true =>
    rw [h1, if_pos rfl] at h
    cases h2 : (co && !bp) with
    | true => rw [h2] at h; simp at h
    | false =>
      rw [h2, if_neg (by decide)] at h
      cases h3 : kwB n 1 1017 with
      | false => rw [h3] at h; simp at h
      | true =>
        have a := Bool.and_eq_true_iff.1 h1
        have b := kwB_ok h3
        exact ⟨kwB_ok a.1, kwB_ok a.2, rfl, by omega, by omega⟩
end Go.Proofs.Ytlmddjkplnbadaa
