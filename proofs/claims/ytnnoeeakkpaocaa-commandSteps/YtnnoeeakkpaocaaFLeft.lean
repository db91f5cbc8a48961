import Derived.Test.YtnnoeeakkpaocaaFRoom
namespace Go.Proofs.Ytnnoeeakkpaocaa
open Go.RowKit
set_option maxRecDepth 100000
set_option linter.unusedVariables false
set_option linter.unusedSimpArgs false

theorem grown_drewN (w : World) (n : Nat) (r : Option Nat) : w.grownBy (w.drewN n) r := ⟨rfl, rfl, rfl, Nat.le_refl _, fun _ _ _ => rfl⟩
theorem Roomy.grown {w w' : World} {g n : Nat} {L D : List Nat} {r : Option Nat} (h : Roomy w g n L D) (hg : w.grownBy w' r) (hne : some g ≠ r) : Roomy w' g n L D :=
  ⟨h.blk.grown hg hne, h.len, h.byte, h.own, h.mark⟩

set_option maxHeartbeats 1000000 in
theorem left_any (g : Nat) (a : Option Addr) (n cap : Nat) (L D : List Nat) (w : World) (hr : Roomy w g n L D) (h : Rd w a n cap L) (hn : n ≤ 140737488351232) :
    Calls Try.prog 17 #[.slice (some ⟨g, 0, none⟩) n (n + 5), .slice a n cap] w fun e w' => e = .returned (.bool true) ∧ w.grownBy w' none := by
  go_enter Try.func17, Try.ntmps17
  go_wp2
  go_loopw [6] (fun i wr => ∃ k : Nat, k ≤ n + 5 ∧ i = .int .i64 k ∧ w.grownBy wr none) (fun i _ => n + 5 - (intOf i).toNat)
  case atStart => exact ⟨0, by omega, rfl, World.grownBy.refl _ _⟩
  case round =>
    obtain ⟨k, hk, rfl, hgr⟩ := hrel
    by_cases hlt : k < n + 5
    · have hr' := hr.grown hgr (by simp)
      have h' := h.grown hgr (fun _ _ _ => by simp)
      have hck := hr'.blk.cell k (by rw [hr'.len]; exact hlt)
      by_cases hkn : k < n
      · obtain ⟨b, off, rfl, hbw, hcc⟩ := h'.at' (by omega)
        have hlk := hcc k hkn
        have e1 : ((nth D k : Int) != (nth L k : Int)) = false := by rw [hr'.own k hkn]; simp
        have d1 : decide ((k : Int) < (n : Int)) = true := by simp; omega
        have d2 : decide ((n : Int) ≤ (k : Int)) = false := by simp; omega
        have d3 : decide (n ≤ k) = false := by simp; omega
        clear hcc hr' h' h hr
        go_wp2
        go_quiet (fail)
        go_wp2
        go_roundw
        case rel => exact ⟨k + 1, by omega, by go_num, grown_trans hgr (grown_drewN _ _ _)⟩
        case measure => simp [intOf]; omega
      · have e1 : ((nth D k : Int) != IntKind.u8.wrap (90 + (k : Int))) = false := by rw [hr'.mark k (by omega) hlt, mark_val k (by omega)]; simp
        have e2 : ((nth D k : Int) != (90 + (k : Int)) % 256) = false := by rw [hr'.mark k (by omega) hlt]; simp
        have d1 : decide ((k : Int) < (n : Int)) = false := by simp; omega
        have d2 : decide ((n : Int) ≤ (k : Int)) = true := by simp; omega
        have d3 : decide (n ≤ k) = true := by simp; omega
        clear hr' h' h hr
        go_wp2
        go_quiet (fail)
        go_wp2
        go_roundw
        case rel => exact ⟨k + 1, by omega, by go_num, grown_trans hgr (grown_drewN _ _ _)⟩
        case measure => simp [intOf]; omega
    · go_wp2
      go_ret
      exact ⟨rfl, hgr⟩
end Go.Proofs.Ytnnoeeakkpaocaa
