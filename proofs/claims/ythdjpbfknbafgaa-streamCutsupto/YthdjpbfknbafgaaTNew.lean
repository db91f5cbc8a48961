import Derived.Test.YthdjpbfknbafgaaTSyC
import Derived.Test.YthdjpbfknbafgaaTIs
namespace Go.Proofs.Ythdjpbfknbafgaa
open Go.RowKit Go.Shelf
set_option maxRecDepth 100000
set_option linter.unusedVariables false
set_option linter.unusedSimpArgs false

/-- Tell of a number -/
theorem tellE_any (x : Nat) (h1 : 1 ≤ x) (h2 : x ≤ 20) (w : World) : Calls Try.prog 16 #[.iface 29 (.int .i64 x)] w fun e w' => e = .returned (.int .i64 x) ∧ w' = w := by
  go_enter Try.func16, Try.ntmps16
  go_wp2
  go_loop [3] (fun u => ∃ k : Nat, 1 ≤ k ∧ k ≤ x ∧ u = .int .i64 k) (fun u => x + 1 - (intOf u).toNat)
  case atStart => exact ⟨1, by omega, by omega, rfl⟩
  case round =>
    obtain ⟨k, hk1, hk2, rfl⟩ := hrel
    have H := fun w' => is_errno (x : Int) (k : Int) w'
    have hk20 : (k : Int) ≤ 20 := by omega
    by_cases hx : k = x
    · subst hx
      have hd : decide ((k : Int) = (k : Int)) = true := by simp
      rw [hd] at H
      go_wp2_with (go_at_call 26; refine (H _).mono ?_; rintro e w1 ⟨rfl, hw⟩; have hw := hw.symm; subst hw)
      go_ret
      exact ⟨rfl, rfl⟩
    · have hd : decide ((x : Int) = (k : Int)) = false := by simp; omega
      rw [hd] at H
      go_wp2_with (go_at_call 26; refine (H _).mono ?_; rintro e w1 ⟨rfl, hw⟩; have hw := hw.symm; subst hw)
      go_round
      case rel => exact ⟨k + 1, by omega, by omega, by go_num⟩
      case measure => simp [intOf]; omega
/-- what a rule is refused with (0: it may be) -/
def ruE (L F H M : Int) : Nat := if L < 1 ∨ 2048 < L then 1 else if (0 ≤ F ∧ F ≤ 8) ∧ (0 ≤ H ∧ H ≤ 12) ∧ (0 ≤ M ∧ M ≤ 8) then 0 else 2
def ruZ (L F H M : Int) : Value := .agg #[.int .i64 L, .int .i64 F, .int .i64 H, .int .i64 M]
set_option maxHeartbeats 2000000 in
theorem new_bad (L F H M : Int) (w : World) (hb : ruE L F H M ≠ 0) :
    Calls Try.prog 15 #[ruZ L F H M] w fun e w' => e = .returned (.tuple #[.pointer none, .iface 29 (.int .i64 (ruE L F H M : Nat))]) ∧ w.grownBy w' none := by
  unfold ruZ
  have gA := World.grownBy_alloc w (.cells #[.int .i64 L, .int .i64 F, .int .i64 H, .int .i64 M] 23) none
  by_cases h1 : L < 1
  · have e : ruE L F H M = 1 := by unfold ruE; rw [if_pos (.inl h1)]
    rw [e]
    have h1' : decide (L < 1) = true := decide_eq_true h1
    clear hb e
    go_enter Try.func15, Try.ntmps15
    go_wp2
    go_ret2
    exact ⟨rfl, gA⟩
  · by_cases h2 : 2048 < L
    · have e : ruE L F H M = 1 := by unfold ruE; rw [if_pos (.inr h2)]
      rw [e]
      have h1' : decide (L < 1) = false := decide_eq_false h1
      have h2' : decide (2048 < L) = true := decide_eq_true h2
      clear hb e
      go_enter Try.func15, Try.ntmps15
      go_wp2
      go_ret2
      exact ⟨rfl, gA⟩
    · have hL : ¬ (L < 1 ∨ 2048 < L) := by omega
      have e : ruE L F H M = 2 := by
        unfold ruE at hb ⊢
        rw [if_neg hL] at hb ⊢
        split
        · rename_i hg; rw [if_pos hg] at hb; exact absurd rfl hb
        · rfl
      have hbad : ¬ ((0 ≤ F ∧ F ≤ 8) ∧ (0 ≤ H ∧ H ≤ 12) ∧ (0 ≤ M ∧ M ≤ 8)) := fun hg => by
        unfold ruE at e
        rw [if_neg hL, if_pos hg] at e
        cases e
      rw [e]
      have h1' : decide (L < 1) = false := decide_eq_false h1
      have h2' : decide (2048 < L) = false := decide_eq_false h2
      have WF := fun w => within_any F 8 w
      have WH := fun w => within_any H 12 w
      have WM := fun w => within_any M 8 w
      obtain ⟨bF, hF⟩ : ∃ b, b = (decide (0 ≤ F) && decide (F ≤ 8)) := ⟨_, rfl⟩
      obtain ⟨bH, hH⟩ : ∃ b, b = (decide (0 ≤ H) && decide (H ≤ 12)) := ⟨_, rfl⟩
      obtain ⟨bM, hM⟩ : ∃ b, b = (decide (0 ≤ M) && decide (M ≤ 8)) := ⟨_, rfl⟩
      rw [← hF] at WF
      rw [← hH] at WH
      rw [← hM] at WM
      have hall : (bF && bH && bM) = false := by
        rw [hF, hH, hM]
        simp only [Bool.and_eq_false_iff, decide_eq_false_iff_not]
        omega
      clear hF hH hM hbad hb e hL h1 h2
      have t1 : True := trivial
      cases bF
      · go_enter Try.func15, Try.ntmps15
        go_wp2_with (first
          | (go_at_call 24; have _t := t1; clear t1; refine (WF _).mono ?_; rintro e w1 ⟨rfl, hw⟩; have hw := hw.symm; subst hw; have t2 : True := trivial))
        go_ret2
        exact ⟨rfl, gA⟩
      · cases bH
        · go_enter Try.func15, Try.ntmps15
          go_wp2_with (first
            | (go_at_call 24; have _t := t1; clear t1; refine (WF _).mono ?_; rintro e w1 ⟨rfl, hw⟩; have hw := hw.symm; subst hw; have t2 : True := trivial)
            | (go_at_call 24; have _t := t2; clear t2; refine (WH _).mono ?_; rintro e w1 ⟨rfl, hw⟩; have hw := hw.symm; subst hw; have t3 : True := trivial))
          go_ret2
          exact ⟨rfl, gA⟩
        · cases bM
          · go_enter Try.func15, Try.ntmps15
            go_wp2_with (first
              | (go_at_call 24; have _t := t1; clear t1; refine (WF _).mono ?_; rintro e w1 ⟨rfl, hw⟩; have hw := hw.symm; subst hw; have t2 : True := trivial)
              | (go_at_call 24; have _t := t2; clear t2; refine (WH _).mono ?_; rintro e w1 ⟨rfl, hw⟩; have hw := hw.symm; subst hw; have t3 : True := trivial)
              | (go_at_call 24; have _t := t3; clear t3; refine (WM _).mono ?_; rintro e w1 ⟨rfl, hw⟩; have hw := hw.symm; subst hw; have t4 : True := trivial))
            go_ret2
            exact ⟨rfl, gA⟩
          · cases hall
end Go.Proofs.Ythdjpbfknbafgaa
