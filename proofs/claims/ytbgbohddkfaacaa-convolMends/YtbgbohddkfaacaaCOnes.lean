import Derived.Test.YtbgbohddkfaacaaSRev
namespace Go.Proofs.Ytbgbohddkfaacaa
open Go.RowKit
set_option maxRecDepth 100000
set_option linter.unusedVariables false
set_option linter.unusedSimpArgs false

theorem two_ret {k1 k2 : IntKind} {a b c d : Int} (h : a = c) (h' : b = d) : Ending.returned (.tuple #[.int k1 a, .int k2 b]) = Ending.returned (.tuple #[.int k1 c, .int k2 d]) := by rw [h, h']
/-- how many bits of a register are set -/
def popN (x : Nat) : Nat := x % 2 + x / 2 % 2 + x / 4 % 2 + x / 8 % 2 + x / 16 % 2 + x / 32 % 2 + x / 64 % 2
theorem ones64_any (x : Nat) (hx : x < 128) (w : World) : Calls Try.prog 71 #[.int .u64 x] w fun e w' => e = .returned (.int .i64 (popN x : Nat)) ∧ w' = w := by
  go_enter Try.func71, Try.ntmps71
  go_wp2
  go_ret
  refine ⟨congrArg (fun z => Ending.returned (Value.int .i64 z)) ?_, rfl⟩
  clear w
  revert x
  decide +kernel
theorem ones_any (x : Nat) (hx : x < 128) (w : World) : Calls Try.prog 67 #[.int .u64 x] w fun e w' => e = .returned (.int .i64 (popN x : Nat)) ∧ w' = w := by
  go_enter Try.func67, Try.ntmps67
  go_wp2_with (go_at_call 71; refine (ones64_any x hx _).mono ?_; rintro e w' ⟨rfl, rfl⟩)
  go_ret
  exact ⟨rfl, rfl⟩
/-- both symbols of a register (P3.1) -/
def sy1 (r : Nat) : Nat := (r + r / 2 + r / 4 + r / 8 + r / 64) % 2
def sy2 (r : Nat) : Nat := (1 + r + r / 4 + r / 8 + r / 32 + r / 64) % 2
theorem sy1_lt (r : Nat) : sy1 r < 2 := Nat.mod_lt _ (by decide)
theorem sy2_lt (r : Nat) : sy2 r < 2 := Nat.mod_lt _ (by decide)
theorem symbols_any (r : Nat) (hr : r < 128) (w : World) : Calls Try.prog 51 #[.int .i64 r] w fun e w' => e = .returned (.tuple #[.int .u8 (sy1 r : Nat), .int .u8 (sy2 r : Nat)]) ∧ w' = w := by
  have e1 : bits .and .i64 (r : Int) 79 = ((r &&& 79 : Nat) : Int) := i64_and_nat r 79 (by omega) (by decide)
  have e2 : bits .and .i64 (r : Int) 109 = ((r &&& 109 : Nat) : Int) := i64_and_nat r 109 (by omega) (by decide)
  have l1 : r &&& 79 < 128 := Nat.lt_of_le_of_lt Nat.and_le_left hr
  have l2 : r &&& 109 < 128 := Nat.lt_of_le_of_lt Nat.and_le_left hr
  go_enter Try.func51, Try.ntmps51
  go_wp2_with (first | (go_at_call 67; refine (ones_any (r &&& 79) l1 _).mono ?_; rintro e w' ⟨rfl, rfl⟩) | (go_at_call 67; refine (ones_any (r &&& 109) l2 _).mono ?_; rintro e w' ⟨rfl, rfl⟩))
  go_ret2
  refine ⟨two_ret ?_ ?_, rfl⟩
  · clear e1 e2 l1 l2 w'
    revert r
    decide +kernel
  · clear e1 e2 l1 l2 w'
    revert r
    decide +kernel
theorem rsymbols_any (b : Nat) (hb : b < 2) (s : Nat) (hs : s < 64) (w : World) : Calls Try.prog 36 #[.int .i64 b, .int .i64 s] w fun e w' => e = .returned (.tuple #[.int .i64 (sy1 (2 * s + b) : Nat), .int .i64 (sy2 (2 * s + b) : Nat)]) ∧ w' = w := by
  go_enter Try.func36, Try.ntmps36
  go_wp2
  go_ret2
  refine ⟨two_ret ?_ ?_, rfl⟩
  · clear w
    revert s
    revert b
    decide +kernel
  · clear w
    revert s
    revert b
    decide +kernel
end Go.Proofs.Ytbgbohddkfaacaa
