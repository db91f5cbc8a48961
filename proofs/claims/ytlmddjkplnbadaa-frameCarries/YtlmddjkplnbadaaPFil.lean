import Derived.Test.YtlmddjkplnbadaaKxNs
namespace Go.Proofs.Ytlmddjkplnbadaa
open Go.RowKit
set_option maxRecDepth 100000
set_option linter.unusedVariables false
set_option linter.unusedSimpArgs false

/-- what fills -/
def filE (n : Int) : Nat := if 7 ≤ n ∧ n ≤ 65542 then 0 else 1
def filL (n : Int) : List Nat := if 7 ≤ n ∧ n ≤ 65542 then encP false false 2047 3 0 (List.replicate (n - 6).toNat 0) else []
set_option maxHeartbeats 4000000 in
theorem fill_any (n : Int) (w : World) :
    Calls Try.prog 89 #[.int .i64 n] w fun e w' => ∃ a' n' c', e = .returned (.tuple #[.slice a' n' c', .int .i64 (filE n : Nat)]) ∧ Ans w' w.heap.size a' n' c' (filL n) ∧ w.grownBy w' none := by
  by_cases h1 : 7 ≤ n
  · by_cases h2 : n ≤ 65542
    · obtain ⟨m, rfl⟩ : ∃ m : Nat, n = (m : Int) + 6 := ⟨(n - 6).toNat, by omega⟩
      have HE : Hid (filE ((m : Int) + 6) = 0) := by show _ = _; unfold filE; rw [if_pos ⟨h1, h2⟩]
      have HF : Hid (filL ((m : Int) + 6) = encP false false 2047 3 0 (List.replicate m 0)) := by
        show _ = _
        unfold filL
        rw [if_pos ⟨h1, h2⟩, show ((m : Int) + 6 - 6).toNat = m by omega]
      have HM : Hid (mayE 2047 3 0 m = 0) := by
        show _ = _
        unfold mayE
        rw [if_pos (by omega), if_neg (by omega)]
      have d1 : decide ((m : Int) + 6 ≤ 6) = false := decide_eq_false (by omega)
      have d2 : decide ((65542 : Int) < (m : Int) + 6) = false := decide_eq_false (by omega)
      have d3 : (m : Int) + 6 - 6 = (m : Int) := by omega
      go_enter Try.func89, Try.ntmps89
      go_wp2_with (first
        | (at_make; refine wpList_mkB _ rfl _ _ rfl _ _ m rfl rfl (by omega) (by omega) (by omega) ?_; intro w1 hb1 hg1; have hR1 := hb1.rd (n := m) (isB_zeros _) (by simp) (by unfold maxLen; omega))
        | (go_at_call 40; refine (encode_any false false 2047 3 0 _ m m _ w1 hR1).mono ?_; rintro e w2 ⟨a2, n2, c2, rfl, hA2, g2⟩; rw [HM.out]))
      go_ret2
      refine ⟨_, _, _, by rw [HE.out]; rfl, ?_, grown_trans hg1 g2⟩
      rw [HF.out]
      exact hA2.wide hg1.size
    · have HE : Hid (filE n = 1) := by show _ = _; unfold filE; rw [if_neg (by omega)]
      have HF : Hid (filL n = []) := by show _ = _; unfold filL; rw [if_neg (by omega)]
      have d1 : decide (n ≤ 6) = false := decide_eq_false (by omega)
      have d2 : decide ((65542 : Int) < n) = true := decide_eq_true (by omega)
      go_enter Try.func89, Try.ntmps89
      go_wp2
      go_ret2
      exact ⟨_, _, _, by rw [HE.out]; rfl, by rw [HF.out]; exact ans_nil _ _, World.grownBy.refl _ _⟩
  · have HE : Hid (filE n = 1) := by show _ = _; unfold filE; rw [if_neg (by omega)]
    have HF : Hid (filL n = []) := by show _ = _; unfold filL; rw [if_neg (by omega)]
    have d1 : decide (n ≤ 6) = true := decide_eq_true (by omega)
    go_enter Try.func89, Try.ntmps89
    go_wp2
    go_ret2
    exact ⟨_, _, _, by rw [HE.out]; rfl, by rw [HF.out]; exact ans_nil _ _, World.grownBy.refl _ _⟩
end Go.Proofs.Ytlmddjkplnbadaa
