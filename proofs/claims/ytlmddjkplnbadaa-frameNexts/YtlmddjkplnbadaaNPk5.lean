import Derived.Test.YtlmddjkplnbadaaNPk4
import Derived.Test.YtlmddjkplnbadaaPSam
namespace Go.Proofs.Ytlmddjkplnbadaa
open Go.RowKit
set_option maxRecDepth 100000
set_option linter.unusedVariables false
set_option linter.unusedSimpArgs false

theorem paE_two {cr ch ma ow fi st : Int} {n : Nat} (h : ¬ ((0 ≤ cr ∧ cr ≤ 1023) ∧ (0 ≤ ch ∧ ch ≤ 7) ∧ (0 ≤ ma ∧ ma ≤ 255) ∧ (0 ≤ ow ∧ ow ≤ 255) ∧ (0 ≤ fi ∧ fi ≤ 2047) ∧ (0 ≤ st ∧ st ≤ 4294967295))) : paE cr ch ma ow fi st n = 2 := by
  unfold paE
  rw [if_neg]
  intro h1
  have h3 := Bool.and_eq_true_iff.1 h1
  have h5 := h3.1
  unfold heB at h5
  simp only [Bool.and_eq_true_iff] at h5
  obtain ⟨⟨⟨⟨a1, a2⟩, a3⟩, a4⟩, a5⟩ := h5
  exact h ⟨wiB_ok a1, wiB_ok a2, wiB_ok a3, wiB_ok a4, wiB_ok a5, wiB_ok h3.2⟩
theorem paE_one {cr ch ma ow fi st : Int} {n : Nat} (h : (0 ≤ cr ∧ cr ≤ 1023) ∧ (0 ≤ ch ∧ ch ≤ 7) ∧ (0 ≤ ma ∧ ma ≤ 255) ∧ (0 ≤ ow ∧ ow ≤ 255) ∧ (0 ≤ fi ∧ fi ≤ 2047) ∧ (0 ≤ st ∧ st ≤ 4294967295)) (hn : n = 0 ∨ 2036 < n) : paE cr ch ma ow fi st n = 1 := by
  obtain ⟨a1, a2, a3, a4, a5, a6⟩ := h
  unfold paE heB
  rw [wiB_t a1, wiB_t a2, wiB_t a3, wiB_t a4, wiB_t a5, wiB_t a6]
  show (if siB ((n : Int) + 12) = true then 0 else 1) = 1
  rw [if_neg]
  intro h2
  have h4 : 13 ≤ (n : Int) + 12 ∧ (n : Int) + 12 ≤ 2048 := of_decide_eq_true h2
  omega
set_option maxHeartbeats 16000000 in
theorem rpack_bad (cr ch ma ow fi st : Int) (a : Option Addr) (n cap : Nat) (w : World) (hcap : n ≤ 140737488351232) (hE : paE cr ch ma ow fi st n ≠ 0) :
    Calls Try.prog 16 #[.agg (heA cr ch ma ow fi), .slice a n cap, .int .i64 st] w fun e w' => e = .returned (.tuple #[.slice none 0 0, .int .i64 (paE cr ch ma ow fi st n : Nat)]) ∧ w.grownBy w' none := by
  have b0 := BxS.new w 28 (heA cr ch ma ow fi)
  have g0 := World.grownBy_alloc w (.cells (heA cr ch ma ow fi) 28) none
  unfold heA at b0 g0 ⊢
  generalize hw0 : w.alloc (.cells #[.int .i64 cr, .int .i64 ch, .int .i64 ma, .int .i64 ow, .int .i64 fi] 28) = w0 at b0 g0
  obtain ⟨c0, c1, c2, c3, c4⟩ := b0.cell5
  by_cases h : (0 ≤ cr ∧ cr ≤ 1023) ∧ (0 ≤ ch ∧ ch ≤ 7) ∧ (0 ≤ ma ∧ ma ≤ 255) ∧ (0 ≤ ow ∧ ow ≤ 255) ∧ (0 ≤ fi ∧ fi ≤ 2047) ∧ (0 ≤ st ∧ st ≤ 4294967295)
  · have hn : n = 0 ∨ 2036 < n := by
      by_cases hn : n = 0 ∨ 2036 < n
      · exact hn
      · exfalso
        apply hE
        obtain ⟨a1, a2, a3, a4, a5, a6⟩ := h
        unfold paE heB
        rw [wiB_t a1, wiB_t a2, wiB_t a3, wiB_t a4, wiB_t a5, wiB_t a6]
        show (if siB ((n : Int) + 12) = true then 0 else 1) = 0
        rw [if_pos]
        exact decide_eq_true (by omega)
    rw [paE_one h hn]
    obtain ⟨⟨r1, r1'⟩, ⟨r2, r2'⟩, ⟨r3, r3'⟩, ⟨r4, r4'⟩, ⟨r5, r5'⟩, ⟨r6, r6'⟩⟩ := h
    clear hE
    rcases hn with rfl | hn
    · clear hcap
      go_enter Try.func16, Try.ntmps16
      go_wp2
      go_ret2
      exact ⟨rfl, g0⟩
    · go_enter Try.func16, Try.ntmps16
      go_wp2
      go_ret2
      exact ⟨rfl, g0⟩
  · rw [paE_two h]
    clear hE
    go_enter Try.func16, Try.ntmps16
    go_wp2
    all_goals
      go_ret2
      exact ⟨rfl, g0⟩
theorem rpack_any (cr ch ma ow fi st : Int) (a : Option Addr) (n cap : Nat) (D : List Nat) (w : World) (hR : Rd w a n cap D) (hcap : n ≤ 140737488351232) :
    Calls Try.prog 16 #[.agg (heA cr ch ma ow fi), .slice a n cap, .int .i64 st] w fun e w' => ∃ a' n' c', e = .returned (.tuple #[.slice a' n' c', .int .i64 (paE cr ch ma ow fi st n : Nat)]) ∧ Ans w' w.heap.size a' n' c' (pakL cr ch ma ow fi st D) ∧ w.grownBy w' none := by
  by_cases hE : paE cr ch ma ow fi st n = 0
  · have HL : pakL cr ch ma ow fi st D = paL cr.toNat ch.toNat ma.toNat ow.toNat fi.toNat st.toNat D := by unfold pakL; rw [hR.len, if_pos hE]
    rw [HL, hE]
    obtain ⟨q1, q2, q3, r1, r2, r3, r4, r5, r6, n1, n2⟩ := paE_ok hE
    obtain ⟨cr, rfl⟩ := Int.eq_ofNat_of_zero_le r1.1
    obtain ⟨ch, rfl⟩ := Int.eq_ofNat_of_zero_le r2.1
    obtain ⟨ma, rfl⟩ := Int.eq_ofNat_of_zero_le r3.1
    obtain ⟨ow, rfl⟩ := Int.eq_ofNat_of_zero_le r4.1
    obtain ⟨fi, rfl⟩ := Int.eq_ofNat_of_zero_le r5.1
    obtain ⟨st, rfl⟩ := Int.eq_ofNat_of_zero_le r6.1
    exact rpack_ok cr ch ma ow fi st a n cap D w hR hE
  · rw [paE_len hR.len _ _ _ _ _ _ hE]
    refine (rpack_bad cr ch ma ow fi st a n cap w hcap hE).mono ?_
    rintro e w' ⟨rfl, hg⟩
    exact ⟨_, _, _, rfl, ans_nil _ _, hg⟩
end Go.Proofs.Ytlmddjkplnbadaa
