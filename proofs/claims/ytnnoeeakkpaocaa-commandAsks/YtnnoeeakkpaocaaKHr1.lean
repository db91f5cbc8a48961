import Derived.Test.YtnnoeeakkpaocaaKHm1
namespace Go.Proofs.Ytnnoeeakkpaocaa
open Go.RowKit
set_option maxRecDepth 100000
set_option linter.unusedVariables false
set_option linter.unusedSimpArgs false

set_option maxHeartbeats 4000000 in
/-- the document's 'ordered': are all of them of a size that may be? -/
theorem ordered_any (a : Option Addr) (n cap : Nat) (F : Nat → Rw) (w : World) (h : RdR w a n cap F) :
    Calls Try.prog 84 #[.slice a n cap] w fun e w' => e = .returned (.bool (alC F n)) ∧ w.grownBy w' none := by
  have hle := h.le
  have hmx := h.max
  unfold maxLen at hmx
  generalize hZ : alC F n = Z
  have HZ : Hid (alC F n = Z) := hZ
  clear hZ
  go_enter Try.func84, Try.ntmps84
  go_wp2
  go_loopw [3] (fun i wr => ∃ k : Nat, k ≤ n ∧ i = .int .i64 k ∧ Hid (alC F k = true) ∧ w.grownBy wr none) (fun i _ => n - (intOf i).toNat)
  case atStart => exact ⟨0, by omega, rfl, show alC F 0 = true from rfl, World.grownBy.refl _ _⟩
  case round =>
    obtain ⟨k, hk, rfl, HK, hgr⟩ := hrel
    by_cases hlt : k < n
    · have h2 := h.keep hgr
      obtain ⟨ba, oa, rfl, hba, ca⟩ := h2.at' (by omega)
      have d1 := ca k hlt
      have l1 : (k : Int) < (n : Int) := by omega
      have hr := (h2.data k hlt).le
      have hr2 := (h2.data k hlt).max
      unfold maxLen at hr2
      by_cases hv : 1 ≤ (F k).n ∧ (F k).n ≤ 1017
      · have HK1 : Hid (alC F (k + 1) = true) := show (alC F k && kwB (F k).n 1 1017) = true by rw [HK.out, kwB_t (by omega)]; rfl
        have m0 : decide (((F k).n : Int) < 1) = false := decide_eq_false (by omega)
        have m1 : decide ((1017 : Int) < ((F k).n : Int)) = false := decide_eq_false (by omega)
        clear ca h2
        go_wp2
        go_roundw
        case rel => exact ⟨k + 1, by omega, by go_num, HK1, hgr⟩
        case measure => simp [intOf]; omega
      · have hZ : Z = false := by rw [← HZ.out]; exact alC_no F k (kwB_f (by omega)) n hlt
        subst hZ
        by_cases hv0 : (F k).n < 1
        · have m0 : decide (((F k).n : Int) < 1) = true := decide_eq_true (by omega)
          clear ca h2
          go_wp2
          go_ret
          exact ⟨rfl, hgr⟩
        · have m0 : decide (((F k).n : Int) < 1) = false := decide_eq_false (by omega)
          have m1 : decide ((1017 : Int) < ((F k).n : Int)) = true := decide_eq_true (by omega)
          clear ca h2
          go_wp2
          go_ret
          exact ⟨rfl, hgr⟩
    · obtain rfl : k = n := by omega
      have hZ : Z = true := HZ.out.symm.trans HK.out
      subst hZ
      go_wp2
      go_ret
      exact ⟨rfl, hgr⟩
end Go.Proofs.Ytnnoeeakkpaocaa
