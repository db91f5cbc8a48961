import Derived.Test.YtnnohgllnfmoeaaPDec
import Derived.Deep.RegionHeld3
namespace Go.Proofs.Ytnnohgllnfmoeaa
open Go.RowKit
set_option maxRecDepth 100000
set_option linter.unusedVariables false
set_option linter.unusedSimpArgs false

theorem u8_and_n (a k : Nat) (ha : a < 256) (hk : k ≤ 8) : bits .and .u8 (a : Int) ((2 ^ k - 1 : Nat) : Int) = ((a % 2 ^ k : Nat) : Int) := by
  have h := u8_and_nat a (2 ^ k - 1) ha (by have : 2 ^ k ≤ 2 ^ 8 := Nat.pow_le_pow_right (by decide) hk; omega)
  rw [h, Nat.and_two_pow_sub_one_eq_mod]
/-- an answer's memory is younger than what was there -/
theorem sp_ne {w : World} {lo g : Nat} {a : Option Addr} {n cap : Nat} {L : List Nat} (h : Ans w lo a n cap L) (hg : g < lo) : some g ≠ (Value.slice a n cap).ownBlock := by
  intro e
  have := h.new g e.symm
  omega
theorem beq_one (q : Nat) : decide (q = 1) = ((q : Int) == 1) := by
  by_cases h : q = 1
  · subst h; rfl
  · rw [decide_eq_false h]
    have : ¬ ((q : Int) = 1) := by omega
    simp [this]
end Go.Proofs.Ytnnohgllnfmoeaa
