import Derived.Test.YtlmddjkplnbadaaKxNs
import Derived.Test.YtlmddjkplnbadaaPOp
namespace Go.Proofs.Ytlmddjkplnbadaa
open Go.RowKit
set_option maxRecDepth 100000
set_option linter.unusedVariables false
set_option linter.unusedSimpArgs false

/-- is a number from l to m? -/
def kwB (n l m : Int) : Bool := decide (l ≤ n ∧ n ≤ m)
theorem kwB_t {n l m : Int} (h : l ≤ n ∧ n ≤ m) : kwB n l m = true := decide_eq_true h
theorem kwB_f {n l m : Int} (h : ¬ (l ≤ n ∧ n ≤ m)) : kwB n l m = false := decide_eq_false h
theorem kwB_ok {n l m : Int} (h : kwB n l m = true) : l ≤ n ∧ n ≤ m := of_decide_eq_true h
theorem ofInt_mod (z : Int) : (BitVec.ofInt 64 z).toNat = (z % 18446744073709551616).toNat := by
  rw [BitVec.toNat_ofInt]; rfl
/-- a number's lowest eight bits, whatever it is -/
theorem and_255 (z : Int) : bits .and .i64 z 255 = z % 256 := by
  show IntKind.i64.wrap ((BitVec.ofInt 64 z &&& BitVec.ofInt 64 255).toNat : Int) = _
  rw [BitVec.toNat_and, ofInt_mod, ofInt_mod]
  have h : ((z % 18446744073709551616).toNat &&& ((255 : Int) % 18446744073709551616).toNat) = (z % 18446744073709551616).toNat % 256 := by
    show (z % 18446744073709551616).toNat &&& 255 = _
    exact Nat.and_two_pow_sub_one_eq_mod _ 8
  rw [h, wrap_i64_in _ (by omega) (by omega)]
  omega
/-- a gate, cell by cell -/
def gtA (cr nx ha : Int) (sh wa ag : Bool) (ct : Int) : Array Value := #[.int .i64 cr, .int .i64 nx, .int .i64 ha, .bool sh, .bool wa, .bool ag, .int .i64 ct]
theorem BxS.cell7 {w : World} {g : Nat} {t : TypeId} {a b c d e f h : Value} (k : BxS w g t #[a, b, c, d, e, f, h]) : w.cell? ⟨g, 0, none⟩ = some a ∧ w.cell? ⟨g, 1, none⟩ = some b ∧ w.cell? ⟨g, 2, none⟩ = some c ∧ w.cell? ⟨g, 3, none⟩ = some d ∧ w.cell? ⟨g, 4, none⟩ = some e ∧ w.cell? ⟨g, 5, none⟩ = some f ∧ w.cell? ⟨g, 6, none⟩ = some h := by
  simp [World.cell?, show w.heap[g]? = _ from k]
def gtB (cr nx ha ct : Int) : Bool := kwB cr 0 1023 && kwB ha 1 127 && kwB nx 0 255 && kwB ct 0 3
end Go.Proofs.Ytlmddjkplnbadaa
