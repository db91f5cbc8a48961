import Derived.Test.YtnnoeeakkpaocaaKGt1
import Derived.Test.YtnnoeeakkpaocaaKxNs
import Derived.Test.YtnnoeeakkpaocaaPSam
namespace Go.Proofs.Ytnnoeeakkpaocaa
open Go.RowKit
set_option maxRecDepth 100000
set_option linter.unusedVariables false
set_option linter.unusedSimpArgs false

/-- an order, cell by cell -/
def orA (cr : Int) (bp co : Bool) (sq : Int) (a : Option Addr) (n c : Nat) : Array Value := #[.int .i64 cr, .bool bp, .bool co, .int .i64 sq, .slice a n c]
theorem Try.info_or : (Try.prog.info? 24).map (fun i => i.size) = some 5 := by kernel_rfl
/-- why an order may not be (0: it may) -/
def orE (cr : Int) (bp co : Bool) (sq : Int) (n : Nat) : Nat := if kwB cr 0 1023 && kwB sq 0 255 then (if co && !bp then 6 else (if kwB n 1 1017 then 0 else 1)) else 2
theorem orE_ok {cr : Int} {bp co : Bool} {sq : Int} {n : Nat} (h : orE cr bp co sq n = 0) : (0 ≤ cr ∧ cr ≤ 1023) ∧ (0 ≤ sq ∧ sq ≤ 255) ∧ (co && !bp) = false ∧ 1 ≤ n ∧ n ≤ 1017 := by
  unfold orE at h
  cases h1 : (kwB cr 0 1023 && kwB sq 0 255) with
  | false => rw [h1] at h; simp at h
  | true =>
    rw [h1, if_pos rfl] at h
    cases h2 : (co && !bp) with
    | true => rw [h2] at h; simp at h
    | false =>
      rw [h2, if_neg (by decide)] at h
      cases h3 : kwB n 1 1017 with
      | false => rw [h3] at h; simp at h
      | true =>
        have a := Bool.and_eq_true_iff.1 h1
        have b := kwB_ok h3
        exact ⟨kwB_ok a.1, kwB_ok a.2, rfl, by omega, by omega⟩
set_option maxHeartbeats 2000000 in
theorem wkind_any (cr : Int) (bp co : Bool) (sq : Int) (a : Option Addr) (n c : Nat) (w : World) : Calls Try.prog 57 #[.agg (orA cr bp co sq a n c)] w fun e w' => e = .returned (.bool (co && !bp)) ∧ w.grownBy w' none := by
  unfold orA
  have gA := World.grownBy_alloc w (.cells #[.int .i64 cr, .bool bp, .bool co, .int .i64 sq, .slice a n c] 24) none
  cases bp <;> cases co
  all_goals
    go_enter Try.func57, Try.ntmps57
    go_wp2
    go_ret
    exact ⟨rfl, gA⟩
theorem size_any (a : Option Addr) (n c : Nat) (w : World) : Calls Try.prog 69 #[.slice a n c] w fun e w' => e = .returned (.bool (kwB n 1 1017)) ∧ w' = w := by
  have h0 := fun wz => kwithin_any n 1 1017 wz
  generalize kwB n 1 1017 = b at h0 ⊢
  go_enter Try.func69, Try.ntmps69
  go_wp2_with (first
    | (go_at_call 62; refine (h0 _).mono ?_; rintro e wx ⟨rfl, hw⟩; have hw := hw.symm; subst hw))
  go_ret
  exact ⟨rfl, rfl⟩
set_option maxHeartbeats 8000000 in
theorem worder_any (cr : Int) (bp co : Bool) (sq : Int) (a : Option Addr) (n c : Nat) (w : World) : Calls Try.prog 49 #[.agg (orA cr bp co sq a n c)] w fun e w' => e = .returned (.int .i64 (orE cr bp co sq n : Nat)) ∧ w.grownBy w' none := by
  have h0 := fun wz => kwithin_any cr 0 1023 wz
  have h1 := fun wz => kwithin_any sq 0 255 wz
  have h2 := fun wz => wkind_any cr bp co sq a n c wz
  have h3 := fun wz => size_any a n c wz
  have b0 := BxS.new w 24 (orA cr bp co sq a n c)
  have g0 := World.grownBy_alloc w (.cells (orA cr bp co sq a n c) 24) none
  unfold orE
  unfold orA at h2 b0 g0 ⊢
  generalize hw0 : w.alloc (.cells #[.int .i64 cr, .bool bp, .bool co, .int .i64 sq, .slice a n c] 24) = w0 at b0 g0
  obtain ⟨c0, c1, c2, c3, c4⟩ := b0.cell5
  generalize kwB cr 0 1023 = x0 at h0 ⊢
  generalize kwB sq 0 255 = x1 at h1 ⊢
  generalize (co && !bp) = x2 at h2 ⊢
  generalize kwB n 1 1017 = x3 at h3 ⊢
  have t1 : True := trivial
  cases x0
  · go_enter Try.func49, Try.ntmps49
    go_wp2_with (first
      | (go_at_call 62; have _t := t1; clear t1; refine (h0 _).mono ?_; rintro e wx ⟨rfl, hw⟩; have hw := hw.symm; subst hw))
    go_ret
    exact ⟨rfl, g0⟩
  cases x1
  · go_enter Try.func49, Try.ntmps49
    go_wp2_with (first
      | (go_at_call 62; have _t := t1; clear t1; refine (h0 _).mono ?_; rintro e wx ⟨rfl, hw⟩; have hw := hw.symm; subst hw; have t2 : True := trivial)
      | (go_at_call 62; have _t := t2; clear t2; refine (h1 _).mono ?_; rintro e wx ⟨rfl, hw⟩; have hw := hw.symm; subst hw))
    go_ret
    exact ⟨rfl, g0⟩
  cases x2
  · cases x3
    all_goals
      go_enter Try.func49, Try.ntmps49
      go_wp2_with (first
        | (go_at_call 62; have _t := t1; clear t1; refine (h0 _).mono ?_; rintro e wx ⟨rfl, hw⟩; have hw := hw.symm; subst hw; have t2 : True := trivial)
        | (go_at_call 62; have _t := t2; clear t2; refine (h1 _).mono ?_; rintro e wx ⟨rfl, hw⟩; have hw := hw.symm; subst hw)
        | (go_at_call 57; refine (h2 _).mono ?_; rintro e w2 ⟨rfl, g2⟩; clear c0 c1 c2 c3 c4; obtain ⟨c0, c1, c2, c3, c4⟩ := (b0.keep g2 (by simp)).cell5)
        | (go_at_call 69; refine (h3 _).mono ?_; rintro e wx ⟨rfl, hw⟩; have hw := hw.symm; subst hw))
      go_ret
      exact ⟨rfl, grown_trans g0 g2⟩
  · go_enter Try.func49, Try.ntmps49
    go_wp2_with (first
      | (go_at_call 62; have _t := t1; clear t1; refine (h0 _).mono ?_; rintro e wx ⟨rfl, hw⟩; have hw := hw.symm; subst hw; have t2 : True := trivial)
      | (go_at_call 62; have _t := t2; clear t2; refine (h1 _).mono ?_; rintro e wx ⟨rfl, hw⟩; have hw := hw.symm; subst hw)
      | (go_at_call 57; refine (h2 _).mono ?_; rintro e w2 ⟨rfl, g2⟩))
    go_ret
    exact ⟨rfl, grown_trans g0 g2⟩
set_option maxHeartbeats 8000000 in
theorem rorder_any (cr : Int) (bp co : Bool) (sq : Int) (a : Option Addr) (n c : Nat) (w : World) : Calls Try.prog 46 #[.agg (orA cr bp co sq a n c)] w fun e w' => e = .returned (.int .i64 (orE cr bp co sq n : Nat)) ∧ w.grownBy w' none := by
  have b0 := BxS.new w 24 (orA cr bp co sq a n c)
  have g0 := World.grownBy_alloc w (.cells (orA cr bp co sq a n c) 24) none
  have bad : ¬ ((0 ≤ cr ∧ cr ≤ 1023) ∧ 0 ≤ sq ∧ sq ≤ 255) → orE cr bp co sq n = 2 := by
    intro h
    unfold orE
    rw [if_neg]
    intro h1
    have h2 := Bool.and_eq_true_iff.1 h1
    exact h ⟨kwB_ok h2.1, kwB_ok h2.2⟩
  unfold orA at b0 g0 ⊢
  generalize hw0 : w.alloc (.cells #[.int .i64 cr, .bool bp, .bool co, .int .i64 sq, .slice a n c] 24) = w0 at b0 g0
  obtain ⟨c0, c1, c2, c3, c4⟩ := b0.cell5
  by_cases k0 : 0 ≤ cr
  case neg =>
    rw [bad (by omega)]
    clear bad
    go_enter Try.func46, Try.ntmps46
    go_wp2
    go_ret
    exact ⟨rfl, g0⟩
  by_cases k1 : cr ≤ 1023
  case neg =>
    rw [bad (by omega)]
    clear bad
    go_enter Try.func46, Try.ntmps46
    go_wp2
    go_ret
    exact ⟨rfl, g0⟩
  by_cases k2 : 0 ≤ sq
  case neg =>
    rw [bad (by omega)]
    clear bad
    go_enter Try.func46, Try.ntmps46
    go_wp2
    go_ret
    exact ⟨rfl, g0⟩
  by_cases k3 : sq ≤ 255
  case neg =>
    rw [bad (by omega)]
    clear bad
    go_enter Try.func46, Try.ntmps46
    go_wp2
    go_ret
    exact ⟨rfl, g0⟩
  unfold orE
  rw [kwB_t ⟨k0, k1⟩, kwB_t ⟨k2, k3⟩, Bool.and_self, if_pos rfl]
  clear bad
  by_cases m0 : n < 1
  · obtain rfl : n = 0 := by omega
    rw [show kwB ((0 : Nat) : Int) 1 1017 = false from rfl]
    cases bp <;> cases co
    all_goals
      go_enter Try.func46, Try.ntmps46
      go_wp2
      go_ret
      exact ⟨rfl, g0⟩
  have l0 : decide ((n : Int) < 1) = false := decide_eq_false (by omega)
  by_cases m1 : 1017 < n
  · rw [kwB_f (n := n) (l := 1) (m := 1017) (by omega)]
    have l1 : decide ((1017 : Int) < (n : Int)) = true := decide_eq_true (by omega)
    cases bp <;> cases co
    all_goals
      go_enter Try.func46, Try.ntmps46
      go_wp2
      go_ret
      exact ⟨rfl, g0⟩
  have l1 : decide ((1017 : Int) < (n : Int)) = false := decide_eq_false (by omega)
  rw [kwB_t (n := n) (l := 1) (m := 1017) (by omega)]
  cases bp <;> cases co
  all_goals
    go_enter Try.func46, Try.ntmps46
    go_wp2
    go_ret
    exact ⟨rfl, g0⟩
end Go.Proofs.Ytnnoeeakkpaocaa
