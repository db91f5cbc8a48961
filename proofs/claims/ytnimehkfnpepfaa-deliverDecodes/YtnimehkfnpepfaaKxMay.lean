import Derived.Laws.BitsAllLaws
import Derived.Test.YtnimehkfnpepfaaFSums
import Derived.Test.YtnimehkfnpepfaaSRev
import Derived.Test.YtnimehkfnpepfaaFRow
namespace Go.Proofs.Ytnimehkfnpepfaa
open Go.RowKit
set_option maxRecDepth 100000
set_option linter.unusedVariables false
set_option linter.unusedSimpArgs false

/-- a packet, as a value -/
def pkV (up se : Bool) (ap pt ct : Int) (a : Option Addr) (n cap : Nat) : Value := .agg #[.bool up, .bool se, .int .i64 ap, .int .i64 pt, .int .i64 ct, .slice a n cap]
theorem wrapU (x : Int) : IntKind.u64.wrap x = x % 18446744073709551616 := by simp [IntKind.wrap, IntKind.bits, IntKind.signed]
/-- bits are put behind others -/
theorem put_val (k x h : Nat) (hk : k ≤ 16) (hx : x < 2 ^ k) (hh : h * 2 ^ k + x < 18446744073709551616) :
    bits .or .u64 (IntKind.u64.wrap ((h : Int) * 2 ^ k)) (IntKind.u64.wrap (x : Int)) = ((h * 2 ^ k + x : Nat) : Int) := by
  have e1 : (h : Int) * 2 ^ k = ((h * 2 ^ k : Nat) : Int) := by simp
  rw [e1, wrapU, wrapU]
  have e2 : ((h * 2 ^ k : Nat) : Int) % 18446744073709551616 = ((h * 2 ^ k : Nat) : Int) := by
    generalize h * 2 ^ k = m at hh
    omega
  have hp : 2 ^ k ≤ 2 ^ 16 := Nat.pow_le_pow_right (by decide) hk
  have e3 : (x : Int) % 18446744073709551616 = (x : Int) := by
    generalize 2 ^ k = m at hx hp
    omega
  rw [e2, e3, u64_or_nat _ _ (by omega) (by omega)]
  have h3 := Nat.shiftLeft_add_eq_or_of_lt hx h
  rw [Nat.shiftLeft_eq] at h3
  rw [← h3]
end Go.Proofs.Ytnimehkfnpepfaa
