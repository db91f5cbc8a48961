import Derived.Test.YtncpignmijgghaaNPt
import Derived.Test.YtncpignmijgghaaPRef
namespace Go.Proofs.Ytncpignmijgghaa
open Go.RowKit
set_option maxRecDepth 100000
set_option linter.unusedVariables false
set_option linter.unusedSimpArgs false

/-- a head, as a value -/
def heA (cr ch ma ow fi : Int) : Array Value := #[.int .i64 cr, .int .i64 ch, .int .i64 ma, .int .i64 ow, .int .i64 fi]
def wiB (n m : Int) : Bool := decide (0 ≤ n ∧ n ≤ m)
theorem wiB_t {n m : Int} (h : 0 ≤ n ∧ n ≤ m) : wiB n m = true := decide_eq_true h
theorem wiB_f {n m : Int} (h : ¬ (0 ≤ n ∧ n ≤ m)) : wiB n m = false := decide_eq_false h
def siB (n : Int) : Bool := decide (13 ≤ n ∧ n ≤ 2048)
def heB (cr ch ma ow fi : Int) : Bool := wiB cr 1023 && wiB ch 7 && wiB ma 255 && wiB ow 255 && wiB fi 2047
theorem BxS.cell5 {w : World} {g : Nat} {t : TypeId} {a b c d e : Value} (h : BxS w g t #[a, b, c, d, e]) : w.cell? ⟨g, 0, none⟩ = some a ∧ w.cell? ⟨g, 1, none⟩ = some b ∧ w.cell? ⟨g, 2, none⟩ = some c ∧ w.cell? ⟨g, 3, none⟩ = some d ∧ w.cell? ⟨g, 4, none⟩ = some e := by
  simp [World.cell?, show w.heap[g]? = _ from h]
end Go.Proofs.Ytncpignmijgghaa
