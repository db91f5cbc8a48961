import Derived.Test.YtknaganjacghnaaPMay
namespace Go.Proofs.Ytknaganjacghnaa
open Go.RowKit
set_option maxRecDepth 100000
set_option linter.unusedVariables false
set_option linter.unusedSimpArgs false

set_option maxHeartbeats 4000000 in
theorem may_any (up se : Bool) (ap pt ct : Int) (a : Option Addr) (n cap : Nat) (w : World) : Calls Try.prog 87 #[pkV up se ap pt ct a n cap] w fun e w' => e = .returned (.int .i64 (mayE ap pt ct n : Nat)) ∧ w.grownBy w' none := by
  unfold pkV
  have gA := World.grownBy_alloc w (.cells #[.bool up, .bool se, .int .i64 ap, .int .i64 pt, .int .i64 ct, .slice a n cap] 64) none
  by_cases c0 : ap < 0
  · have e : mayE ap pt ct n = 2 := by unfold mayE; rw [if_neg (by omega)]
    rw [e]
    clear e
    have k0 : decide (ap < 0) = true := decide_eq_true c0
    go_enter Try.func87, Try.ntmps87
    go_wp2
    go_ret
    exact ⟨rfl, gA⟩
  have k0 : decide (ap < 0) = false := decide_eq_false c0
  by_cases c1 : 2047 < ap
  · have e : mayE ap pt ct n = 2 := by unfold mayE; rw [if_neg (by omega)]
    rw [e]
    clear e
    have k1 : decide (2047 < ap) = true := decide_eq_true c1
    go_enter Try.func87, Try.ntmps87
    go_wp2
    go_ret
    exact ⟨rfl, gA⟩
  have k1 : decide (2047 < ap) = false := decide_eq_false c1
  by_cases c2 : pt < 0
  · have e : mayE ap pt ct n = 2 := by unfold mayE; rw [if_neg (by omega)]
    rw [e]
    clear e
    have k2 : decide (pt < 0) = true := decide_eq_true c2
    go_enter Try.func87, Try.ntmps87
    go_wp2
    go_ret
    exact ⟨rfl, gA⟩
  have k2 : decide (pt < 0) = false := decide_eq_false c2
  by_cases c3 : 3 < pt
  · have e : mayE ap pt ct n = 2 := by unfold mayE; rw [if_neg (by omega)]
    rw [e]
    clear e
    have k3 : decide (3 < pt) = true := decide_eq_true c3
    go_enter Try.func87, Try.ntmps87
    go_wp2
    go_ret
    exact ⟨rfl, gA⟩
  have k3 : decide (3 < pt) = false := decide_eq_false c3
  by_cases c4 : ct < 0
  · have e : mayE ap pt ct n = 2 := by unfold mayE; rw [if_neg (by omega)]
    rw [e]
    clear e
    have k4 : decide (ct < 0) = true := decide_eq_true c4
    go_enter Try.func87, Try.ntmps87
    go_wp2
    go_ret
    exact ⟨rfl, gA⟩
  have k4 : decide (ct < 0) = false := decide_eq_false c4
  by_cases c5 : 16383 < ct
  · have e : mayE ap pt ct n = 2 := by unfold mayE; rw [if_neg (by omega)]
    rw [e]
    clear e
    have k5 : decide (16383 < ct) = true := decide_eq_true c5
    go_enter Try.func87, Try.ntmps87
    go_wp2
    go_ret
    exact ⟨rfl, gA⟩
  have k5 : decide (16383 < ct) = false := decide_eq_false c5
  by_cases n0 : n < 1
  · have e : mayE ap pt ct n = 1 := by unfold mayE; rw [if_pos (by omega), if_pos (by omega)]
    rw [e]
    clear e
    obtain rfl : n = 0 := by omega
    go_enter Try.func87, Try.ntmps87
    go_wp2
    go_ret
    exact ⟨rfl, gA⟩
  have l0 : decide ((n : Int) < 1) = false := decide_eq_false (by omega)
  by_cases n1 : 65536 < n
  · have e : mayE ap pt ct n = 1 := by unfold mayE; rw [if_pos (by omega), if_pos (by omega)]
    rw [e]
    clear e
    have l1 : decide ((65536 : Int) < (n : Int)) = true := decide_eq_true (by omega)
    go_enter Try.func87, Try.ntmps87
    go_wp2
    go_ret
    exact ⟨rfl, gA⟩
  have l1 : decide ((65536 : Int) < (n : Int)) = false := decide_eq_false (by omega)
  have e : mayE ap pt ct n = 0 := by unfold mayE; rw [if_pos (by omega), if_neg (by omega)]
  rw [e]
  clear e
  go_enter Try.func87, Try.ntmps87
  go_wp2
  go_ret
  exact ⟨rfl, gA⟩
end Go.Proofs.Ytknaganjacghnaa
