import Derived.Test.YtlaiocefbhoccaaDoorYRt
import Derived.Test.YtlaiocefbhoccaaDoorYTg
import Derived.Test.YtlaiocefbhoccaaDoorYBl
namespace Go.Proofs.YtlaiocefbhoccaaDoor
open Go.RowKit
set_option maxRecDepth 100000
set_option linter.unusedVariables false
set_option linter.unusedSimpArgs false
theorem blE_zero' {n : Nat} {S : List Int} {z x : Int} (h : blE n S z x = 0) : n = 8 ∧ (∀ i, i < 8 → nthI S i = ((nthI S i).toNat : Int) ∧ (nthI S i).toNat < 4294967296) ∧ (0 ≤ z ∧ z ≤ 281474976710655) ∧ (0 ≤ x ∧ x ≤ 1000) := by
  unfold blE at h
  by_cases h0 : wdE n S = 0
  · rw [if_pos h0] at h
    by_cases h1 : kwB z 0 281474976710655 = true ∧ kwB x 0 1000 = true
    · unfold wdE at h0
      by_cases h8 : n = 8
      · rw [if_pos h8] at h0
        by_cases hw : wdB S = true
        · exact ⟨h8, fun i hi => by have := wdB_ok hw i hi; omega, kwB_ok h1.1, kwB_ok h1.2⟩
        · rw [if_neg hw] at h0; omega
      · rw [if_neg h8] at h0; omega
    · rw [if_neg h1] at h; omega
  · rw [if_neg h0] at h; exact absurd h h0
theorem tag_bad (a bo : Option Addr) (n cap m cb : Nat) (z : Int) (S : List Int) (w : World) (hp : RdI w a n cap S) (he : ¬ blE n S z 0 = 0) :
    Calls Tryd.prog 16 #[.slice a n cap, .int .i64 z, .slice bo m cb] w fun e w' => e = .returned (.tuple #[.slice none 0 0, .int .i64 (blE n S z 0)]) ∧ w' = w := by
  have hw := wrongBlock_any a n cap z 0 S w hp
  generalize blE n S z 0 = v at *
  go_enter Tryd.func16, Tryd.ntmps16
  go_wp2_with (go_at_call 30; refine hw.mono ?_; rintro e w' ⟨rfl, rfl⟩)
  go_ret2
  exact ⟨rfl, rfl⟩
theorem tag_long (a bo : Option Addr) (n cap m cb : Nat) (z : Int) (S : List Int) (B : List Nat) (w : World) (hp : RdI w a n cap S) (he : blE n S z 0 = 0) (hb : Rd w bo m cb B) (hm : 2000 < m) :
    Calls Tryd.prog 16 #[.slice a n cap, .int .i64 z, .slice bo m cb] w fun e w' => e = .returned (.tuple #[.slice none 0 0, .int .i64 1]) ∧ w' = w := by
  have hw := wrongBlock_any a n cap z 0 S w hp
  rw [he] at hw
  have h1 := hb.le; have h2 := hb.max
  unfold maxLen at h2
  have hmi : (m : Int) > 2000 := by omega
  clear he
  go_enter Tryd.func16, Tryd.ntmps16
  go_wp2_with (go_at_call 30; refine hw.mono ?_; rintro e w' ⟨rfl, rfl⟩)
  go_ret2
  exact ⟨rfl, rfl⟩
theorem tag_ok (a bo : Option Addr) (cap c m cb : Nat) (S : List Int) (W : Nat → Nat) (B : List Nat) (w : World) (hL : Lin w) (hp : RdI w a 8 cap S) (hW : ∀ i, i < 8 → nthI S i = (W i : Int) ∧ W i < 4294967296) (hc : c < 281474976710656) (he : blE 8 S c 0 = 0) (hb : Rd w bo m cb B) (hm : m ≤ 2000) :
    Calls Tryd.prog 16 #[.slice a 8 cap, .int .i64 c, .slice bo m cb] w fun e w' => ∃ a' c', e = .returned (.tuple #[.slice a' 8 c', .int .i64 0]) ∧ Ans w' w.heap.size a' 8 c' (tagL W c B) ∧ w.grownBy w' none := by
  have hw := wrongBlock_any a 8 cap c 0 S w hp
  rw [he] at hw
  have hT := tagOf_any a bo cap c m cb S W B w hL hp hW hc hb (by omega)
  have hmi : ¬ (m : Int) > 2000 := by omega
  clear he
  go_enter Tryd.func16, Tryd.ntmps16
  go_wp2_with (first
    | (go_at_call 30; refine hw.mono ?_; rintro e w' ⟨rfl, hw'⟩; have hw' := hw'.symm; subst hw')
    | (go_at_call 36; refine hT.mono ?_; rintro e w1 ⟨a', c', rfl, hA, g1⟩))
  go_ret2
  exact ⟨a', c', rfl, hA, g1⟩
end Go.Proofs.YtlaiocefbhoccaaDoor
