import Derived.Test.YtbgbohddkfaacaaCPat
namespace Go.Proofs.Ytbgbohddkfaacaa
open Go.RowKit
set_option maxRecDepth 100000
set_option linter.unusedVariables false
set_option linter.unusedSimpArgs false

/-- block g holds the pattern of a rate -/
def Box (w : World) (g r : Nat) : Prop := w.heap[g]? = some (.cells #[.string (pF r), .string (pS r)] 60)
theorem Box.lt {w : World} {g r : Nat} (h : Box w g r) : g < w.heap.size := (Array.getElem?_eq_some_iff.1 h).1
theorem Box.c0 {w : World} {g r : Nat} (h : Box w g r) : w.cell? ⟨g, 0, none⟩ = some (.string (pF r)) := by rw [cell_of_row w g 0 _ _ _ h]; rfl
theorem Box.c1 {w : World} {g r : Nat} (h : Box w g r) : w.cell? ⟨g, 1, none⟩ = some (.string (pS r)) := by rw [cell_of_row w g 1 _ _ _ h]; rfl
theorem Box.kept {w w' : World} {g r : Nat} {o : Option Nat} (h : Box w g r) (hg : w.grownBy w' o) (hne : some g ≠ o) : Box w' g r := by
  unfold Box; rw [hg.block g h.lt hne]; exact h
theorem Box.keep {w w' : World} {g r : Nat} (h : Box w g r) (hg : w.grownBy w' none) : Box w' g r := h.kept hg (by simp)
theorem box_new (w : World) (r : Nat) : Box (w.alloc (.cells #[.string (pF r), .string (pS r)] 60)) w.heap.size r := heap_alloc_new w _
theorem cnt_step (r k : Nat) (a b : Bool) (h1 : kb (pF r) k = a) (h2 : kb (pS r) k = b) : cntN r (k + 1) = cntN r k + kn a + kn b := by rw [← h1, ← h2]; rfl
set_option maxHeartbeats 1000000 in
theorem count_any (r n : Nat) (hn : n < 50000) (h1 : 1 ≤ r) (h2 : r ≤ 5) (w : World) : Calls Try.prog 42 #[patV r, .int .i64 n] w fun e w' => e = .returned (.int .i64 (cntN r n : Nat)) ∧ w.grownBy w' none := by
  unfold patV
  go_enter Try.func42, Try.ntmps42
  go_wp2
  have hb0 := box_new w r
  have hg0 := World.grownBy_alloc w (.cells #[.string (pF r), .string (pS r)] 60) none
  go_loopw [5, 10] (fun c i wr => ∃ k : Nat, k ≤ n ∧ i = .int .i64 k ∧ c = .int .i64 (cntN r k : Nat) ∧ w.grownBy wr none ∧ Box wr w.heap.size r) (fun _ i _ => n - (intOf i).toNat)
  case atStart => exact ⟨0, by omega, rfl, rfl, hg0, hb0⟩
  case round =>
    obtain ⟨k, hk, rfl, rfl, hgr, hB⟩ := hrel
    by_cases hlt : k < n
    · have c0 := hB.c0
      have c1 := hB.c1
      have hl := cntN_le r k
      have H := fun w' => keep_any r k (by omega) h1 h2 w'
      unfold patV at H
      obtain ⟨b1, e1⟩ : ∃ b, kb (pF r) k = b := ⟨_, rfl⟩
      obtain ⟨b2, e2⟩ : ∃ b, kb (pS r) k = b := ⟨_, rfl⟩
      rw [e1, e2] at H
      have HC : Hid (cntN r (k + 1) = cntN r k + kn b1 + kn b2) := cnt_step r k b1 b2 e1 e2
      clear e1 e2
      cases b1 <;> cases b2
      all_goals
        go_wp2_with (go_at_call 52; refine (H _).mono ?_; rintro e w1 ⟨rfl, g1⟩)
        go_roundw
        case rel =>
          refine ⟨k + 1, by omega, by go_num, ?_, grown_trans hgr g1, hB.keep g1⟩
          rw [HC.out]
          exact congrArg (Value.int .i64) (by simp only [kn, if_true, Bool.false_eq_true, if_false]; omega)
        case measure => simp [intOf]; omega
    · obtain rfl : k = n := by omega
      go_wp2
      go_ret
      exact ⟨rfl, hgr⟩
set_option maxHeartbeats 1000000 in
theorem rmany_any (r n : Nat) (hn : n < 50000) (h1 : 1 ≤ r) (h2 : r ≤ 5) (w : World) : Calls Try.prog 40 #[.int .i64 n, .int .i64 r] w fun e w' => e = .returned (.int .i64 (cntN r (n + 6) : Nat)) ∧ w' = w := by
  go_enter Try.func40, Try.ntmps40
  go_wp2
  go_loop [5, 6] (fun c i => ∃ k : Nat, k ≤ n + 6 ∧ i = .int .i64 k ∧ c = .int .i64 (cntN r k : Nat)) (fun _ i => n + 6 - (intOf i).toNat)
  case atStart => exact ⟨0, by omega, rfl, rfl⟩
  case round =>
    obtain ⟨k, hk, rfl, rfl⟩ := hrel
    by_cases hlt : k < n + 6
    · have hl := cntN_le r k
      have Hf := fun w' => rkept_any r k false (by omega) h1 h2 w'
      have Ht := fun w' => rkept_any r k true (by omega) h1 h2 w'
      obtain ⟨b1, e1⟩ : ∃ b, kb (pF r) k = b := ⟨_, rfl⟩
      obtain ⟨b2, e2⟩ : ∃ b, kb (pS r) k = b := ⟨_, rfl⟩
      rw [e1, e2] at Hf Ht
      simp only [if_true, Bool.false_eq_true, if_false] at Hf Ht
      have HC : Hid (cntN r (k + 1) = cntN r k + kn b1 + kn b2) := cnt_step r k b1 b2 e1 e2
      clear e1 e2
      cases b1 <;> cases b2
      all_goals
        have t1 : True := trivial
        go_wp2_with (first | (go_at_call 37; have _t := t1; clear t1; refine (Hf _).mono ?_; rintro e w1 ⟨rfl, rfl⟩) | (go_at_call 37; refine (Ht _).mono ?_; rintro e w1 ⟨rfl, rfl⟩))
        go_round
        case rel =>
          refine ⟨k + 1, by omega, by go_num, ?_⟩
          rw [HC.out]
          exact congrArg (Value.int .i64) (by simp only [kn, if_true, Bool.false_eq_true, if_false]; omega)
        case measure => simp [intOf]; omega
    · obtain rfl : k = n + 6 := by omega
      go_wp2
      go_ret
      exact ⟨rfl, rfl⟩
end Go.Proofs.Ytbgbohddkfaacaa
