import Derived.Test.YtlmddjkplnbadaaNPk2
namespace Go.Proofs.Ytlmddjkplnbadaa
open Go.RowKit
set_option maxRecDepth 100000
set_option linter.unusedVariables false
set_option linter.unusedSimpArgs false

theorem paE_len {D : List Nat} {n : Nat} (hl : D.length = n) (cr ch ma ow fi st : Int) (hE : paE cr ch ma ow fi st n ≠ 0) : pakL cr ch ma ow fi st D = [] := by
  unfold pakL; rw [hl, if_neg hE]
set_option maxHeartbeats 4000000 in
theorem pack_any (cr ch ma ow fi st : Int) (a : Option Addr) (n cap : Nat) (D : List Nat) (w : World) (hR : Rd w a n cap D) (hcap : n ≤ 140737488351232) :
    Calls Try.prog 17 #[.agg (heA cr ch ma ow fi), .slice a n cap, .int .i64 st] w fun e w' => ∃ a' n' c', e = .returned (.tuple #[.slice a' n' c', .int .i64 (paE cr ch ma ow fi st n : Nat)]) ∧ Ans w' w.heap.size a' n' c' (pakL cr ch ma ow fi st D) ∧ w.grownBy w' none := by
  by_cases hE : paE cr ch ma ow fi st n = 0
  · have HL : pakL cr ch ma ow fi st D = paL cr.toNat ch.toNat ma.toNat ow.toNat fi.toNat st.toNat D := by unfold pakL; rw [hR.len, if_pos hE]
    rw [HL, hE]
    obtain ⟨q1, q2, q3, r1, r2, r3, r4, r5, r6, n1, n2⟩ := paE_ok hE
    obtain ⟨cr, rfl⟩ := Int.eq_ofNat_of_zero_le r1.1
    obtain ⟨ch, rfl⟩ := Int.eq_ofNat_of_zero_le r2.1
    obtain ⟨ma, rfl⟩ := Int.eq_ofNat_of_zero_le r3.1
    obtain ⟨ow, rfl⟩ := Int.eq_ofNat_of_zero_le r4.1
    obtain ⟨fi, rfl⟩ := Int.eq_ofNat_of_zero_le r5.1
    obtain ⟨st, rfl⟩ := Int.eq_ofNat_of_zero_le r6.1
    exact pack_ok cr ch ma ow fi st a n cap D w hR hE
  · rw [paE_len hR.len _ _ _ _ _ _ hE]
    have h0 := fun wz => headMay_any cr ch ma ow fi wz
    have h1 := fun wz => fwithin_any st 4294967295 wz
    have h2 := fun wz => fsize_any ((n : Int) + 12) wz
    have b0 := BxS.new w 28 (heA cr ch ma ow fi)
    have g0 := World.grownBy_alloc w (.cells (heA cr ch ma ow fi) 28) none
    unfold paE at hE ⊢
    generalize heB cr ch ma ow fi = x at h0 hE ⊢
    generalize wiB st 4294967295 = y at h1 hE ⊢
    generalize siB ((n : Int) + 12) = z at h2 hE ⊢
    unfold heA at h0 b0 g0 ⊢
    generalize hw0 : w.alloc (.cells #[.int .i64 cr, .int .i64 ch, .int .i64 ma, .int .i64 ow, .int .i64 fi] 28) = w0 at b0 g0
    obtain ⟨c0, c1, c2, c3, c4⟩ := b0.cell5
    have t1 : True := trivial
    cases x <;> cases y <;> cases z
    all_goals first | exact absurd rfl hE | skip
    all_goals
      clear hE
      go_enter Try.func17, Try.ntmps17
      go_wp2_with (first
        | (go_at_call 42; have _t := t1; clear t1; refine (h0 _).mono ?_; rintro e w1 ⟨rfl, g1⟩; have t2 : True := trivial)
        | (go_at_call 43; have _t := t2; clear t2; refine (h1 _).mono ?_; rintro e wx ⟨rfl, hw⟩; have hw := hw.symm; subst hw; have t3 : True := trivial)
        | (go_at_call 44; have _t := t3; clear t3; refine (h2 _).mono ?_; rintro e wx ⟨rfl, hw⟩; have hw := hw.symm; subst hw))
      go_ret2
      exact ⟨_, _, _, rfl, ans_nil _ _, grown_trans g0 g1⟩
end Go.Proofs.Ytlmddjkplnbadaa
