import Derived.Test.YtlmddjkplnbadaaKxNs
import Derived.Test.YtlmddjkplnbadaaPSam
namespace Go.Proofs.Ytlmddjkplnbadaa
open Go.RowKit
set_option maxRecDepth 100000
set_option linter.unusedVariables false
set_option linter.unusedSimpArgs false

/-- why there is no frame (0: there is one) -/
def paE (cr ch ma ow fi st : Int) (n : Nat) : Nat := if (heB cr ch ma ow fi && wiB st 4294967295) = true then (if siB ((n : Int) + 12) = true then 0 else 1) else 2
def paN (cr ch : Nat) : Nat := cr * 16 + ch * 2 + 1
/-- what stands ahead of the sum -/
def paA (cr ch ma ow fi st : Nat) (D : List Nat) : List Nat := (((((([] : List Nat) ++ beL 2 (paN cr ch)) ++ beL 1 ma) ++ beL 1 ow) ++ beL 2 (6144 + fi)) ++ D) ++ beL 4 st
def paL (cr ch ma ow fi st : Nat) (D : List Nat) : List Nat := paA cr ch ma ow fi st D ++ beL 2 (sumB (paA cr ch ma ow fi st D))
/-- what Pack answers -/
def pakL (cr ch ma ow fi st : Int) (D : List Nat) : List Nat := if paE cr ch ma ow fi st D.length = 0 then paL cr.toNat ch.toNat ma.toNat ow.toNat fi.toNat st.toNat D else []
theorem wiB_ok {n m : Int} (h : wiB n m = true) : 0 ≤ n ∧ n ≤ m := of_decide_eq_true h
theorem paE_ok {cr ch ma ow fi st : Int} {n : Nat} (h : paE cr ch ma ow fi st n = 0) :
    heB cr ch ma ow fi = true ∧ wiB st 4294967295 = true ∧ siB ((n : Int) + 12) = true ∧ (0 ≤ cr ∧ cr ≤ 1023) ∧ (0 ≤ ch ∧ ch ≤ 7) ∧ (0 ≤ ma ∧ ma ≤ 255) ∧ (0 ≤ ow ∧ ow ≤ 255) ∧ (0 ≤ fi ∧ fi ≤ 2047) ∧ (0 ≤ st ∧ st ≤ 4294967295) ∧ 1 ≤ n ∧ n ≤ 2036 := by
  unfold paE at h
  by_cases h1 : (heB cr ch ma ow fi && wiB st 4294967295) = true
  · rw [if_pos h1] at h
    by_cases h2 : siB ((n : Int) + 12) = true
    · have h3 := Bool.and_eq_true_iff.1 h1
      have h4 : 13 ≤ (n : Int) + 12 ∧ (n : Int) + 12 ≤ 2048 := of_decide_eq_true h2
      have h5 := h3.1
      unfold heB at h5
      simp only [Bool.and_eq_true_iff] at h5
      obtain ⟨⟨⟨⟨a1, a2⟩, a3⟩, a4⟩, a5⟩ := h5
      exact ⟨h3.1, h3.2, h2, wiB_ok a1, wiB_ok a2, wiB_ok a3, wiB_ok a4, wiB_ok a5, wiB_ok h3.2, by omega, by omega⟩
    · rw [if_neg h2] at h; omega
  · rw [if_neg h1] at h; omega
theorem fput_int (kz xz : Int) (k x g m co : Nat) (ao : Option Addr) (D : List Nat) (wb w : World) (ek : kz = k) (ex : xz = x) (hR : Row wb w g ao m co D) (hk1 : 1 ≤ k) (hk : k ≤ 4) (hx : x < 9223372036854775808) (hm : m ≤ 1000000) :
    Calls Try.prog 45 #[.int .i64 kz, .int .i64 xz, .pointer (some ⟨g, 0, none⟩)] w fun e w' => e = .returned (.tuple #[]) ∧ ∃ a' c', Row wb w' g a' (m + k) c' (D ++ beL k x) := by
  subst ek; subst ex; exact fput_any k x g m co ao D wb w hR hk1 hk hx hm
theorem name_val (cr ch : Nat) (h1 : cr ≤ 1023) (h2 : ch ≤ 7) : bits .or .i64 (bits .or .i64 ((cr : Int) * 16) ((ch : Int) * 2)) 1 = (paN cr ch : Int) := by
  have e1 : ((cr : Int) * 16) = ((cr * 2 ^ 4 : Nat) : Int) := by omega
  have e2 : ((ch : Int) * 2) = ((ch * 2 : Nat) : Int) := by omega
  have e3 : cr * 2 ^ 4 + ch * 2 = (cr * 8 + ch) * 2 ^ 1 := by omega
  rw [e1, e2, or_put _ _ 4 (by omega) (by omega) (by omega), e3]
  refine (or_put _ 1 1 (by omega) (by omega) (by omega)).trans ?_
  unfold paN; omega
theorem first_val (fi : Nat) (h : fi ≤ 2047) : bits .or .i64 6144 (fi : Int) = ((6144 + fi : Nat) : Int) := or_put 3 fi 11 (by omega) (by omega) (by omega)
theorem row_new {w1 w2 : World} {c : Nat} (hown : w2.ownsRow w1.heap.size 5 1 (.slice (some ⟨w1.heap.size, 0, none⟩) 0 c) 0 []) (g2 : w1.grownBy w2 none) :
    Row w1 (w2.alloc (.cells #[.slice (some ⟨w1.heap.size, 0, none⟩) 0 c] 22)) w2.heap.size (some ⟨w1.heap.size, 0, none⟩) 0 c [] := by
  have hA := own_nil w2 w1.heap.size _ _ hown (Nat.le_refl _)
  have gA := World.grownBy_alloc w2 (.cells #[.slice (some ⟨w1.heap.size, 0, none⟩) 0 c] 22) none
  have hlt : w1.heap.size < w2.heap.size := by
    rcases hA.cases with ⟨h, _, _⟩ | ⟨x, hx, _, h⟩
    · cases h
    · cases hx; exact h
  exact ⟨BxS.new w2 _ _, hA.keep gA, fun e => by have e' : w1.heap.size = w2.heap.size := Option.some.inj e; omega, g2.size, grown_trans g2 gA⟩
set_option maxHeartbeats 8000000 in
theorem pack_ok (cr ch ma ow fi st : Nat) (a : Option Addr) (n cap : Nat) (D : List Nat) (w : World) (hR : Rd w a n cap D) (hE : paE cr ch ma ow fi st n = 0) :
    Calls Try.prog 17 #[.agg (heA cr ch ma ow fi), .slice a n cap, .int .i64 st] w fun e w' => ∃ a' n' c', e = .returned (.tuple #[.slice a' n' c', .int .i64 0]) ∧ Ans w' w.heap.size a' n' c' (paL cr ch ma ow fi st D) ∧ w.grownBy w' none := by
  obtain ⟨q1, q2, q3, r1, r2, r3, r4, r5, r6, n1, n2⟩ := paE_ok hE
  clear hE
  have h0 := fun wz => headMay_any cr ch ma ow fi wz
  rw [q1] at h0
  have h1 := fun wz => fwithin_any st 4294967295 wz
  rw [q2] at h1
  have h2 := fun wz => fsize_any ((n : Int) + 12) wz
  rw [q3] at h2
  clear q1 q2 q3
  have nv := name_val cr ch (by omega) (by omega)
  have hpn : paN cr ch < 65536 := by unfold paN; omega
  have fv := first_val fi (by omega)
  have b0 := BxS.new w 28 (heA cr ch ma ow fi)
  have g0 := World.grownBy_alloc w (.cells (heA cr ch ma ow fi) 28) none
  unfold heA at h0 b0 g0 ⊢
  generalize hw0 : w.alloc (.cells #[.int .i64 (cr : Int), .int .i64 (ch : Int), .int .i64 (ma : Int), .int .i64 (ow : Int), .int .i64 (fi : Int)] 28) = w0 at b0 g0
  obtain ⟨c0, c1, c2, c3, c4⟩ := b0.cell5
  have t1 : True := trivial
  obtain ⟨i0, hi, hi0, hi1, hi2⟩ : ∃ i0, Try.prog.info? 5 = some i0 ∧ i0.zero = some (.int .u8 0) ∧ i0.size = 1 ∧ i0.bytes = 1 := by
    have h := Try.info_u8
    cases hh : Try.prog.info? 5 with
    | none => rw [hh] at h; simp at h
    | some i0 => rw [hh] at h; simp at h; exact ⟨i0, rfl, h.1, h.2.1, h.2.2⟩
  go_enter Try.func17, Try.ntmps17
  go_wp2_with (first
    | (go_at_call 42; have _t := t1; clear t1; refine (h0 _).mono ?_; rintro e w1 ⟨rfl, g1⟩; have b1 := b0.keep g1 (by simp); clear c0 c1 c2 c3 c4; obtain ⟨c0, c1, c2, c3, c4⟩ := b1.cell5; have hR1 := hR.keep (grown_trans g0 g1); have hsz1 : w.heap.size ≤ w1.heap.size := (grown_trans g0 g1).size; have t2 : True := trivial)
    | (go_at_call 43; have _t := t2; clear t2; refine (h1 _).mono ?_; rintro e wx ⟨rfl, hw⟩; have hw := hw.symm; subst hw; have t3 : True := trivial)
    | (go_at_call 44; have _t := t3; clear t3; refine (h2 _).mono ?_; rintro e wx ⟨rfl, hw⟩; have hw := hw.symm; subst hw; have t4 : True := trivial)
    | (at_make; have _t := t4; clear t4; refine wpList_make_own _ rfl _ _ 22 rfl w1.heap.size 5 i0 (.int .u8 0) 1 Try.underlying22 hi hi0 hi1 .i64 .i64 ((n : Int) + 12) (n + 12) rfl rfl (by omega) (by rw [hi2]; omega) (by unfold maxLen; omega) (Nat.le_refl _) ?_; intro w2 hown2 g2; have R3 := row_new hown2 g2; generalize hw3 : w2.alloc (.cells #[.slice (some ⟨w1.heap.size, 0, none⟩) 0 (n + 12)] 22) = w3 at R3; clear c0 c1 c2 c3 c4; obtain ⟨c0, c1, c2, c3, c4⟩ := (b1.keep R3.grown (by simp)).cell5; have t5 : True := trivial)
    | (go_at_call 45; have _t := t5; clear t5; refine (fput_int _ _ 2 (paN cr ch) _ (0) _ _ _ w1 _ rfl (by first | rfl | exact nv) R3 (by decide) (by decide) (by omega) (by omega)).mono ?_; rintro e w4 ⟨rfl, a4, k4, R4⟩; have R4 : Row w1 w4 w2.heap.size a4 2 k4 _ := R4; clear c0 c1 c2 c3 c4; obtain ⟨c0, c1, c2, c3, c4⟩ := (b1.keep R4.grown (by simp)).cell5; have t6 : True := trivial)
    | (go_at_call 45; have _t := t6; clear t6; refine (fput_int _ _ 1 (ma) _ 2 _ _ _ w1 _ rfl rfl R4 (by decide) (by decide) (by omega) (by omega)).mono ?_; rintro e w5 ⟨rfl, a5, k5, R5⟩; have R5 : Row w1 w5 w2.heap.size a5 3 k5 _ := R5; clear c0 c1 c2 c3 c4; obtain ⟨c0, c1, c2, c3, c4⟩ := (b1.keep R5.grown (by simp)).cell5; have t7 : True := trivial)
    | (go_at_call 45; have _t := t7; clear t7; refine (fput_int _ _ 1 (ow) _ 3 _ _ _ w1 _ rfl rfl R5 (by decide) (by decide) (by omega) (by omega)).mono ?_; rintro e w6 ⟨rfl, a6, k6, R6⟩; have R6 : Row w1 w6 w2.heap.size a6 4 k6 _ := R6; clear c0 c1 c2 c3 c4; obtain ⟨c0, c1, c2, c3, c4⟩ := (b1.keep R6.grown (by simp)).cell5; have t8 : True := trivial)
    | (go_at_call 45; have _t := t8; clear t8; refine (fput_int _ _ 2 (6144 + fi) _ 4 _ _ _ w1 _ rfl (by first | rfl | exact fv) R6 (by decide) (by decide) (by omega) (by omega)).mono ?_; rintro e w7 ⟨rfl, a7, k7, R7⟩; have R7 : Row w1 w7 w2.heap.size a7 6 k7 _ := R7; clear c0 c1 c2 c3 c4; obtain ⟨c0, c1, c2, c3, c4⟩ := (b1.keep R7.grown (by simp)).cell5; have x7 := R7.box.cell 0 Nat.zero_lt_one; have y7 := R7.box.free 0; have t9 : True := trivial)
    | (at_builtin; have _t := t9; clear t9; refine wpList_join w7 w7 rfl (.tmp 51) (.tmp 52) rfl a7 6 k7 w1.heap.size (Value.slice a7 6 k7).ownBlock _ rfl R7.ans (World.grownBy.refl _ _) (fun q h => .inl h) R7.grown.size a n cap D rfl (hR1.keep R7.grown) n1 (by omega) ?_; intro gx cx w8 hA8 hG8 hM8; have b8 := R7.box.keep hG8 (Ne.symm R7.far); have x8 := b8.cell 0 Nat.zero_lt_one; have y8 := b8.free 0; have R9 := R7.push hA8 hG8 hM8; generalize hw9 : w8.setCell ⟨w2.heap.size, 0, none⟩ (.slice (some ⟨gx, 0, none⟩) (6 + n) cx) = w9 at R9; clear c0 c1 c2 c3 c4; have t10 : True := trivial)
    | (go_at_call 45; have _t := t10; clear t10; refine (fput_int _ _ 4 st _ (6 + n) _ _ _ w1 _ rfl rfl R9 (by decide) (by decide) (by omega) (by omega)).mono ?_; rintro e w10 ⟨rfl, a10, k10, R10⟩; have x10 := R10.box.cell 0 Nat.zero_lt_one; have y10 := R10.box.free 0; have hRd := R10.ans.rd; have t11 : True := trivial)
    | (go_at_call 13; have _t := t11; clear t11; refine (fsum_any _ _ _ _ _ hRd).mono ?_; rintro e wx ⟨rfl, hw⟩; have hw := hw.symm; subst hw; have t12 : True := trivial)
    | (go_at_call 45; have _t := t12; clear t12; refine (fput_int _ _ 2 _ _ (6 + n + 4) _ _ _ w1 _ rfl rfl R10 (by decide) (by decide) (Nat.lt_trans (crN_lt _ _) (by decide)) (by omega)).mono ?_; rintro e w11 ⟨rfl, a11, k11, R11⟩; have x11 := R11.box.cell 0 Nat.zero_lt_one; have y11 := R11.box.free 0))
  go_ret2
  exact ⟨_, _, _, rfl, R11.ans.wide hsz1, grown_trans (grown_trans g0 g1) R11.grown⟩

theorem paE_len {D : List Nat} {n : Nat} (hl : D.length = n) (cr ch ma ow fi st : Int) (hE : paE cr ch ma ow fi st n ≠ 0) : pakL cr ch ma ow fi st D = [] := by
  unfold pakL; rw [hl, if_neg hE]
set_option maxHeartbeats 4000000 in
theorem pack_any (cr ch ma ow fi st : Int) (a : Option Addr) (n cap : Nat) (D : List Nat) (w : World) (hR : Rd w a n cap D) (hcap : n ≤ 140737488351232) :
    Calls Try.prog 17 #[.agg (heA cr ch ma ow fi), .slice a n cap, .int .i64 st] w fun e w' => ∃ a' n' c', e = .returned (.tuple #[.slice a' n' c', .int .i64 (paE cr ch ma ow fi st n : Nat)]) ∧ Ans w' w.heap.size a' n' c' (pakL cr ch ma ow fi st D) ∧ w.grownBy w' none := by
  by_cases hE : paE cr ch ma ow fi st n = 0
  · have HL : pakL cr ch ma ow fi st D = paL cr.toNat ch.toNat ma.toNat ow.toNat fi.toNat st.toNat D := by unfold pakL; rw [hR.len, if_pos hE]
    rw [HL, hE]
    obtain ⟨q1, q2, q3, r1, r2, r3, r4, r5, r6, n1, n2⟩ := paE_ok hE
    obtain ⟨cr, rfl⟩ := Int.eq_ofNat_of_zero_le r1.1
    obtain ⟨ch, rfl⟩ := Int.eq_ofNat_of_zero_le r2.1
    obtain ⟨ma, rfl⟩ := Int.eq_ofNat_of_zero_le r3.1
    obtain ⟨ow, rfl⟩ := Int.eq_ofNat_of_zero_le r4.1
    obtain ⟨fi, rfl⟩ := Int.eq_ofNat_of_zero_le r5.1
    obtain ⟨st, rfl⟩ := Int.eq_ofNat_of_zero_le r6.1
    exact pack_ok cr ch ma ow fi st a n cap D w hR hE
  · rw [paE_len hR.len _ _ _ _ _ _ hE]
    have h0 := fun wz => headMay_any cr ch ma ow fi wz
    have h1 := fun wz => fwithin_any st 4294967295 wz
    have h2 := fun wz => fsize_any ((n : Int) + 12) wz
    have b0 := BxS.new w 28 (heA cr ch ma ow fi)
    have g0 := World.grownBy_alloc w (.cells (heA cr ch ma ow fi) 28) none
    unfold paE at hE ⊢
    generalize heB cr ch ma ow fi = x at h0 hE ⊢
    generalize wiB st 4294967295 = y at h1 hE ⊢
    generalize siB ((n : Int) + 12) = z at h2 hE ⊢
    unfold heA at h0 b0 g0 ⊢
    generalize hw0 : w.alloc (.cells #[.int .i64 cr, .int .i64 ch, .int .i64 ma, .int .i64 ow, .int .i64 fi] 28) = w0 at b0 g0
    obtain ⟨c0, c1, c2, c3, c4⟩ := b0.cell5
    have t1 : True := trivial
    cases x <;> cases y <;> cases z
    all_goals first | exact absurd rfl hE | skip
    all_goals
      clear hE
      go_enter Try.func17, Try.ntmps17
      go_wp2_with (first
        | (go_at_call 42; have _t := t1; clear t1; refine (h0 _).mono ?_; rintro e w1 ⟨rfl, g1⟩; have t2 : True := trivial)
        | (go_at_call 43; have _t := t2; clear t2; refine (h1 _).mono ?_; rintro e wx ⟨rfl, hw⟩; have hw := hw.symm; subst hw; have t3 : True := trivial)
        | (go_at_call 44; have _t := t3; clear t3; refine (h2 _).mono ?_; rintro e wx ⟨rfl, hw⟩; have hw := hw.symm; subst hw))
      go_ret2
      exact ⟨_, _, _, rfl, ans_nil _ _, grown_trans g0 g1⟩

end Go.Proofs.Ytlmddjkplnbadaa
