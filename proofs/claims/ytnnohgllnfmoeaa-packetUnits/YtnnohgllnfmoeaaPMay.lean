import Derived.Test.YtnnohgllnfmoeaaFSums
import Derived.Test.YtnnohgllnfmoeaaSRev
import Derived.Test.YtnnohgllnfmoeaaFRow
namespace Go.Proofs.Ytnnohgllnfmoeaa
open Go.RowKit
set_option maxRecDepth 100000
set_option linter.unusedVariables false
set_option linter.unusedSimpArgs false

/-- a packet, as a value -/
def pkV (up se : Bool) (ap pt ct : Int) (a : Option Addr) (n cap : Nat) : Value := .agg #[.bool up, .bool se, .int .i64 ap, .int .i64 pt, .int .i64 ct, .slice a n cap]
/-- why a packet may not be (0: it may) -/
def mayE (ap pt ct : Int) (n : Nat) : Nat := if (0 ≤ ap ∧ ap ≤ 2047) ∧ (0 ≤ pt ∧ pt ≤ 3) ∧ (0 ≤ ct ∧ ct ≤ 16383) then (if n = 0 ∨ 65536 < n then 1 else 0) else 2
theorem within_t (n m : Int) (h : 0 ≤ n ∧ n ≤ m) (w : World) : Calls Try.prog 15 #[.int .i64 n, .int .i64 m] w fun e w' => e = .returned (.bool true) ∧ w' = w := by
  have h1 := h.1
  have h2 := h.2
  go_enter Try.func15, Try.ntmps15
  go_wp2
  go_ret
  exact ⟨rfl, rfl⟩
theorem within_f (n m : Int) (h : ¬ (0 ≤ n ∧ n ≤ m)) (w : World) : Calls Try.prog 15 #[.int .i64 n, .int .i64 m] w fun e w' => e = .returned (.bool false) ∧ w' = w := by
  by_cases h1 : 0 ≤ n
  · have h2 : ¬ n ≤ m := fun h2 => h ⟨h1, h2⟩
    go_enter Try.func15, Try.ntmps15
    go_wp2
    go_ret
    exact ⟨rfl, rfl⟩
  · go_enter Try.func15, Try.ntmps15
    go_wp2
    go_ret
    exact ⟨rfl, rfl⟩
set_option maxHeartbeats 2000000 in
theorem wrong_any (up se : Bool) (ap pt ct : Int) (a : Option Addr) (n cap : Nat) (w : World) : Calls Try.prog 22 #[pkV up se ap pt ct a n cap] w fun e w' => e = .returned (.int .i64 (mayE ap pt ct n : Nat)) ∧ w.grownBy w' none := by
  unfold pkV
  have gA := World.grownBy_alloc w (.cells #[.bool up, .bool se, .int .i64 ap, .int .i64 pt, .int .i64 ct, .slice a n cap] 33) none
  by_cases HA : 0 ≤ ap ∧ ap ≤ 2047
  · by_cases HP : 0 ≤ pt ∧ pt ≤ 3
    · by_cases HC : 0 ≤ ct ∧ ct ≤ 16383
      · have t1 : True := trivial
        by_cases n0 : n = 0
        · have e : mayE ap pt ct n = 1 := by unfold mayE; rw [if_pos ⟨HA, HP, HC⟩, if_pos (.inl n0)]
          rw [e]
          clear e
          subst n0
          go_enter Try.func22, Try.ntmps22
          go_wp2_with (first | (go_at_call 15; have _t := t1; clear t1; refine (within_t _ _ HA _).mono ?_; rintro e wx ⟨rfl, hw⟩; have hw := hw.symm; subst hw; have t2 : True := trivial) | (go_at_call 15; have _t := t2; clear t2; refine (within_t _ _ HP _).mono ?_; rintro e wx ⟨rfl, hw⟩; have hw := hw.symm; subst hw; have t3 : True := trivial) | (go_at_call 15; have _t := t3; clear t3; refine (within_t _ _ HC _).mono ?_; rintro e wx ⟨rfl, hw⟩; have hw := hw.symm; subst hw; have t4 : True := trivial))
          go_ret
          exact ⟨rfl, gA⟩
        · have h0 : (((n : Int) == 0) : Bool) = false := by simp; omega
          by_cases n1 : 65536 < n
          · have e : mayE ap pt ct n = 1 := by unfold mayE; rw [if_pos ⟨HA, HP, HC⟩, if_pos (.inr n1)]
            rw [e]
            clear e
            have d1 : decide ((65536 : Int) < (n : Int)) = true := decide_eq_true (by omega)
            go_enter Try.func22, Try.ntmps22
            go_wp2_with (first | (go_at_call 15; have _t := t1; clear t1; refine (within_t _ _ HA _).mono ?_; rintro e wx ⟨rfl, hw⟩; have hw := hw.symm; subst hw; have t2 : True := trivial) | (go_at_call 15; have _t := t2; clear t2; refine (within_t _ _ HP _).mono ?_; rintro e wx ⟨rfl, hw⟩; have hw := hw.symm; subst hw; have t3 : True := trivial) | (go_at_call 15; have _t := t3; clear t3; refine (within_t _ _ HC _).mono ?_; rintro e wx ⟨rfl, hw⟩; have hw := hw.symm; subst hw; have t4 : True := trivial))
            go_ret
            exact ⟨rfl, gA⟩
          · have e : mayE ap pt ct n = 0 := by unfold mayE; rw [if_pos ⟨HA, HP, HC⟩, if_neg (by omega)]
            rw [e]
            clear e
            have d1 : decide ((65536 : Int) < (n : Int)) = false := decide_eq_false (by omega)
            go_enter Try.func22, Try.ntmps22
            go_wp2_with (first | (go_at_call 15; have _t := t1; clear t1; refine (within_t _ _ HA _).mono ?_; rintro e wx ⟨rfl, hw⟩; have hw := hw.symm; subst hw; have t2 : True := trivial) | (go_at_call 15; have _t := t2; clear t2; refine (within_t _ _ HP _).mono ?_; rintro e wx ⟨rfl, hw⟩; have hw := hw.symm; subst hw; have t3 : True := trivial) | (go_at_call 15; have _t := t3; clear t3; refine (within_t _ _ HC _).mono ?_; rintro e wx ⟨rfl, hw⟩; have hw := hw.symm; subst hw; have t4 : True := trivial))
            go_ret
            exact ⟨rfl, gA⟩
      · have e : mayE ap pt ct n = 2 := by unfold mayE; rw [if_neg (fun h => HC h.2.2)]
        rw [e]
        clear e
        have t1 : True := trivial
        go_enter Try.func22, Try.ntmps22
        go_wp2_with (first | (go_at_call 15; have _t := t1; clear t1; refine (within_t _ _ HA _).mono ?_; rintro e wx ⟨rfl, hw⟩; have hw := hw.symm; subst hw; have t2 : True := trivial) | (go_at_call 15; have _t := t2; clear t2; refine (within_t _ _ HP _).mono ?_; rintro e wx ⟨rfl, hw⟩; have hw := hw.symm; subst hw; have t3 : True := trivial) | (go_at_call 15; have _t := t3; clear t3; refine (within_f _ _ HC _).mono ?_; rintro e wx ⟨rfl, hw⟩; have hw := hw.symm; subst hw; have t4 : True := trivial))
        go_ret
        exact ⟨rfl, gA⟩
    · have e : mayE ap pt ct n = 2 := by unfold mayE; rw [if_neg (fun h => HP h.2.1)]
      rw [e]
      clear e
      have t1 : True := trivial
      go_enter Try.func22, Try.ntmps22
      go_wp2_with (first | (go_at_call 15; have _t := t1; clear t1; refine (within_t _ _ HA _).mono ?_; rintro e wx ⟨rfl, hw⟩; have hw := hw.symm; subst hw; have t2 : True := trivial) | (go_at_call 15; have _t := t2; clear t2; refine (within_f _ _ HP _).mono ?_; rintro e wx ⟨rfl, hw⟩; have hw := hw.symm; subst hw; have t3 : True := trivial))
      go_ret
      exact ⟨rfl, gA⟩
  · have e : mayE ap pt ct n = 2 := by unfold mayE; rw [if_neg (fun h => HA h.1)]
    rw [e]
    clear e
    have t1 : True := trivial
    go_enter Try.func22, Try.ntmps22
    go_wp2_with (first | (go_at_call 15; have _t := t1; clear t1; refine (within_f _ _ HA _).mono ?_; rintro e wx ⟨rfl, hw⟩; have hw := hw.symm; subst hw; have t2 : True := trivial))
    go_ret
    exact ⟨rfl, gA⟩
end Go.Proofs.Ytnnohgllnfmoeaa
