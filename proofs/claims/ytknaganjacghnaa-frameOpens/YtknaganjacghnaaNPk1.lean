import Derived.Test.YtknaganjacghnaaNPt
import Derived.Test.YtknaganjacghnaaPRef
namespace Go.Proofs.Ytknaganjacghnaa
open Go.RowKit
set_option maxRecDepth 100000
set_option linter.unusedVariables false
set_option linter.unusedSimpArgs false

/-- a head, as a value -/
def heA (cr ch ma ow fi : Int) : Array Value := #[.int .i64 cr, .int .i64 ch, .int .i64 ma, .int .i64 ow, .int .i64 fi]
def wiB (n m : Int) : Bool := decide (0 ≤ n ∧ n ≤ m)
theorem wiB_t {n m : Int} (h : 0 ≤ n ∧ n ≤ m) : wiB n m = true := decide_eq_true h
theorem wiB_f {n m : Int} (h : ¬ (0 ≤ n ∧ n ≤ m)) : wiB n m = false := decide_eq_false h
theorem fwithin_any (n m : Int) (w : World) : Calls Try.prog 43 #[.int .i64 n, .int .i64 m] w fun e w' => e = .returned (.bool (wiB n m)) ∧ w' = w := by
  by_cases h : 0 ≤ n ∧ n ≤ m
  · rw [wiB_t h]
    have h1 := h.1
    have h2 := h.2
    go_enter Try.func43, Try.ntmps43
    go_wp2
    go_ret
    exact ⟨rfl, rfl⟩
  · rw [wiB_f h]
    by_cases h1 : 0 ≤ n
    · have h2 : ¬ n ≤ m := fun h2 => h ⟨h1, h2⟩
      go_enter Try.func43, Try.ntmps43
      go_wp2
      go_ret
      exact ⟨rfl, rfl⟩
    · go_enter Try.func43, Try.ntmps43
      go_wp2
      go_ret
      exact ⟨rfl, rfl⟩
def siB (n : Int) : Bool := decide (13 ≤ n ∧ n ≤ 2048)
theorem fsize_any (n : Int) (w : World) : Calls Try.prog 44 #[.int .i64 n] w fun e w' => e = .returned (.bool (siB n)) ∧ w' = w := by
  by_cases h : 13 ≤ n ∧ n ≤ 2048
  · rw [show siB n = true from decide_eq_true h]
    have h1 := h.1
    have h2 := h.2
    go_enter Try.func44, Try.ntmps44
    go_wp2
    go_ret
    exact ⟨rfl, rfl⟩
  · rw [show siB n = false from decide_eq_false h]
    by_cases h1 : 13 ≤ n
    · have h2 : ¬ n ≤ 2048 := fun h2 => h ⟨h1, h2⟩
      go_enter Try.func44, Try.ntmps44
      go_wp2
      go_ret
      exact ⟨rfl, rfl⟩
    · go_enter Try.func44, Try.ntmps44
      go_wp2
      go_ret
      exact ⟨rfl, rfl⟩
def heB (cr ch ma ow fi : Int) : Bool := wiB cr 1023 && wiB ch 7 && wiB ma 255 && wiB ow 255 && wiB fi 2047
theorem BxS.cell5 {w : World} {g : Nat} {t : TypeId} {a b c d e : Value} (h : BxS w g t #[a, b, c, d, e]) : w.cell? ⟨g, 0, none⟩ = some a ∧ w.cell? ⟨g, 1, none⟩ = some b ∧ w.cell? ⟨g, 2, none⟩ = some c ∧ w.cell? ⟨g, 3, none⟩ = some d ∧ w.cell? ⟨g, 4, none⟩ = some e := by
  simp [World.cell?, show w.heap[g]? = _ from h]
set_option maxHeartbeats 4000000 in
theorem headMay_any (cr ch ma ow fi : Int) (w : World) : Calls Try.prog 42 #[.agg (heA cr ch ma ow fi)] w fun e w' => e = .returned (.bool (heB cr ch ma ow fi)) ∧ w.grownBy w' none := by
  unfold heA heB
  have gA := World.grownBy_alloc w (.cells #[.int .i64 cr, .int .i64 ch, .int .i64 ma, .int .i64 ow, .int .i64 fi] 28) none
  have h0 := fun wz => fwithin_any cr 1023 wz
  have h1 := fun wz => fwithin_any ch 7 wz
  have h2 := fun wz => fwithin_any ma 255 wz
  have h3 := fun wz => fwithin_any ow 255 wz
  have h4 := fun wz => fwithin_any fi 2047 wz
  generalize wiB cr 1023 = b0 at h0 ⊢
  generalize wiB ch 7 = b1 at h1 ⊢
  generalize wiB ma 255 = b2 at h2 ⊢
  generalize wiB ow 255 = b3 at h3 ⊢
  generalize wiB fi 2047 = b4 at h4 ⊢
  have t1 : True := trivial
  cases b0 <;> cases b1 <;> cases b2 <;> cases b3 <;> cases b4
  all_goals
    go_enter Try.func42, Try.ntmps42
    go_wp2_with (first
      | (go_at_call 43; have _t := t1; clear t1; refine (h0 _).mono ?_; rintro e wx ⟨rfl, hw⟩; have hw := hw.symm; subst hw; have t2 : True := trivial)
      | (go_at_call 43; have _t := t2; clear t2; refine (h1 _).mono ?_; rintro e wx ⟨rfl, hw⟩; have hw := hw.symm; subst hw; have t3 : True := trivial)
      | (go_at_call 43; have _t := t3; clear t3; refine (h2 _).mono ?_; rintro e wx ⟨rfl, hw⟩; have hw := hw.symm; subst hw; have t4 : True := trivial)
      | (go_at_call 43; have _t := t4; clear t4; refine (h3 _).mono ?_; rintro e wx ⟨rfl, hw⟩; have hw := hw.symm; subst hw; have t5 : True := trivial)
      | (go_at_call 43; have _t := t5; clear t5; refine (h4 _).mono ?_; rintro e wx ⟨rfl, hw⟩; have hw := hw.symm; subst hw))
    go_ret
    exact ⟨rfl, gA⟩
end Go.Proofs.Ytknaganjacghnaa
