import Derived.Test.YthdjpbfknbafgaaTSyA
namespace Go.Proofs.Ythdjpbfknbafgaa
open Go.RowKit Go.Shelf
set_option maxRecDepth 100000
set_option linter.unusedVariables false
set_option linter.unusedSimpArgs false

theorem within_any (n m : Int) (w : World) : Calls Try.prog 24 #[.int .i64 n, .int .i64 m] w fun e w' => e = .returned (.bool (decide (0 ≤ n) && decide (n ≤ m))) ∧ w' = w := by
  by_cases h : 0 ≤ n
  · have h' : decide (0 ≤ n) = true := decide_eq_true h
    rw [h']
    go_enter Try.func24, Try.ntmps24
    go_wp2
    go_ret
    exact ⟨by simp, rfl⟩
  · have h' : decide (0 ≤ n) = false := decide_eq_false h
    rw [h']
    go_enter Try.func24, Try.ntmps24
    go_wp2
    go_ret
    exact ⟨by simp [h], rfl⟩
theorem locked_any (g : Nat) (r : Rx) (s : Mx) (dv : Value) (w : World) (h : SyM w g r s dv) : Calls Try.prog 18 #[.pointer (some ⟨g, 0, none⟩)] w fun e w' => e = .returned (.bool (s.mode != 0)) ∧ w' = w := by
  have c5 := h.blk.c 5 (.bool (s.mode != 0)) rfl
  go_enter Try.func18, Try.ntmps18
  go_wp2
  go_ret
  exact ⟨rfl, rfl⟩
/-- one who is made, and does nothing yet -/
def syQ (L F H M : Nat) (lk : Bool) (p : Nat) (tu : Bool) (mi : Nat) : Array Value :=
  #[.int .i64 L, .int .i64 F, .int .i64 H, .int .i64 M, .nilFunc, .bool lk, .int .i64 0, .int .u64 0, .int .i64 p, .bool tu, .int .i64 mi, .slice none 0 0]
theorem syQS (L F H M : Nat) (lk : Bool) (p : Nat) (tu : Bool) (mi : Nat) : (syQ L F H M lk p tu mi).size = 12 := rfl
theorem syQ8 (L F H M : Nat) (lk : Bool) (p : Nat) (tu : Bool) (mi : Nat) (n : Nat) : (syQ L F H M lk p tu mi).setIfInBounds 8 (.int .i64 n) = syQ L F H M lk n tu mi := rfl
theorem syQ5 (L F H M : Nat) (lk : Bool) (p : Nat) (tu : Bool) (mi : Nat) (b : Bool) : (syQ L F H M lk p tu mi).setIfInBounds 5 (.bool b) = syQ L F H M b p tu mi := rfl
theorem syQ9 (L F H M : Nat) (lk : Bool) (p : Nat) (tu : Bool) (mi : Nat) (b : Bool) : (syQ L F H M lk p tu mi).setIfInBounds 9 (.bool b) = syQ L F H M lk p b mi := rfl
theorem syQ10 (L F H M : Nat) (lk : Bool) (p : Nat) (tu : Bool) (mi : Nat) (n : Nat) : (syQ L F H M lk p tu mi).setIfInBounds 10 (.int .i64 n) = syQ L F H M lk p tu n := rfl
theorem syQ4 (L F H M : Nat) (lk : Bool) (p : Nat) (tu : Bool) (mi : Nat) (k : Nat) : (syQ L F H M lk p tu mi).setIfInBounds 4 (.func (.func k) #[] #[]) = syA L F H M k lk 0 0 p tu mi (.slice none 0 0) := rfl
set_option maxHeartbeats 1000000 in
theorem search_new (g L F H M : Nat) (w : World) (h : w.heap[g]? = some (.cells (syQ L F H M false 0 false 0) 65)) :
    Calls Try.prog 25 #[.pointer (some ⟨g, 0, none⟩), .int .i64 0] w fun e w' => e = .returned (.tuple #[]) ∧ SyB w' g L F H M 32 false 0 0 0 false 0 (.slice none 0 0) ∧ w.grownBy w' (some g) := by
  have t1 : True := trivial
  go_enter Try.func25, Try.ntmps25
  go_wp2_with (first
    | (have _t := t1; clear t1; refine wpList_stS _ rfl _ (.tmp 8) (.tmp 6) rfl g 8 _ _ _ rfl rfl h (st_int g 8 _) (by rw [syQS]; decide) (syQ8 (n := 0) ..) ?_; intro w1 h1 g1; clear h; have t2 : True := trivial)
    | (have _t := t2; clear t2; refine wpList_stS _ rfl _ (.tmp 10) (.const (.bool false)) rfl g 5 _ _ _ rfl rfl h1 (st_bool g 5 _) (by rw [syQS]; decide) (syQ5 ..) ?_; intro w2 h2 g2; clear h1; have t3 : True := trivial)
    | (have _t := t3; clear t3; refine wpList_stS _ rfl _ (.tmp 14) (.const (.bool false)) rfl g 9 _ _ _ rfl rfl h2 (st_bool g 9 _) (by rw [syQS]; decide) (syQ9 ..) ?_; intro w3 h3 g3; clear h2; have t4 : True := trivial)
    | (have _t := t4; clear t4; refine wpList_stS _ rfl _ (.tmp 16) (.const (.int .i64 0)) rfl g 10 _ _ _ rfl rfl h3 (st_int g 10 _) (by rw [syQS]; decide) (syQ10 (n := 0) ..) ?_; intro w4 h4 g4; clear h3; have t5 : True := trivial)
    | (have _t := t5; clear t5; refine wpList_stS _ rfl _ (.tmp 19) (.func 32) rfl g 4 _ _ _ rfl rfl h4 (st_fn g 4 _) (by rw [syQS]; decide) (syQ4 ..) ?_; intro w5 h5 g5; clear h4))
  go_end0
  exact ⟨rfl, h5, grown_trans g1 (grown_trans g2 (grown_trans g3 (grown_trans g4 g5)))⟩
def s0X : Mx := ⟨0, 0, 0, 0, false, 0, []⟩
def ruV (L F H M : Nat) : Value := .agg #[.int .i64 L, .int .i64 F, .int .i64 H, .int .i64 M]
set_option maxHeartbeats 2000000 in
theorem new_any (r : Rx) (w : World) (hL1 : 1 ≤ r.L) (hL : r.L ≤ 2048) (hF : r.F ≤ 8) (hH : r.H ≤ 12) (hM : r.M ≤ 8) :
    Calls Try.prog 15 #[ruV r.L r.F r.H r.M] w fun e w' => ∃ g, e = .returned (.tuple #[.pointer (some ⟨g, 0, none⟩), .nilIface]) ∧ w.heap.size ≤ g ∧ SyM w' g r s0X (.slice none 0 0) ∧ w.grownBy w' none := by
  obtain ⟨L, F, H, M⟩ := r
  simp only at hL1 hL hF hH hM
  unfold ruV
  have k1 : decide (0 ≤ (F : Int)) = true := decide_eq_true (by omega)
  have k2 : decide ((F : Int) ≤ 8) = true := decide_eq_true (by omega)
  have k3 : decide (0 ≤ (H : Int)) = true := decide_eq_true (by omega)
  have k4 : decide ((H : Int) ≤ 12) = true := decide_eq_true (by omega)
  have k5 : decide (0 ≤ (M : Int)) = true := decide_eq_true (by omega)
  have k6 : decide ((M : Int) ≤ 8) = true := decide_eq_true (by omega)
  have WF := fun w => within_any (F : Int) 8 w
  have WH := fun w => within_any (H : Int) 12 w
  have WM := fun w => within_any (M : Int) 8 w
  rw [k1, k2, Bool.and_self] at WF
  rw [k3, k4, Bool.and_self] at WH
  rw [k5, k6, Bool.and_self] at WM
  have t1 : True := trivial
  clear k1 k2 k3 k4 k5 k6
  have gA := World.grownBy_alloc w (.cells #[.int .i64 L, .int .i64 F, .int .i64 H, .int .i64 M] 23) none
  have gB := World.grownBy_alloc (w.alloc (.cells #[.int .i64 L, .int .i64 F, .int .i64 H, .int .i64 M] 23)) (.cells (syQ L F H M false 0 false 0) 65) none
  have hQ := heap_alloc_new (w.alloc (.cells #[.int .i64 L, .int .i64 F, .int .i64 H, .int .i64 M] 23)) (.cells (syQ L F H M false 0 false 0) 65)
  rw [World.size_alloc] at hQ
  go_enter Try.func15, Try.ntmps15
  go_wp2_with (first
    | (go_at_call 24; have _t := t1; clear t1; refine (WF _).mono ?_; rintro e w1 ⟨rfl, hw⟩; have hw := hw.symm; subst hw; have t2 : True := trivial)
    | (go_at_call 24; have _t := t2; clear t2; refine (WH _).mono ?_; rintro e w1 ⟨rfl, hw⟩; have hw := hw.symm; subst hw; have t3 : True := trivial)
    | (go_at_call 24; have _t := t3; clear t3; refine (WM _).mono ?_; rintro e w1 ⟨rfl, hw⟩; have hw := hw.symm; subst hw; have t4 : True := trivial)
    | (go_at_call 25; have _t := t4; clear t4; refine (search_new (w.heap.size + 1) L F H M _ hQ).mono ?_; rintro e w2 ⟨rfl, hB2, g2⟩))
  go_ret2
  exact ⟨w.heap.size + 1, rfl, by omega, ⟨hB2, fun _ => ⟨rfl, rfl⟩, fun h => absurd h (show ¬ (0 : Nat) = 1 by decide)⟩, grown_far (grown_trans gA gB) g2 (fun x e => by cases e; omega)⟩
end Go.Proofs.Ythdjpbfknbafgaa
