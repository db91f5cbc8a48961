import Derived.Test.YtchbppidepapiaaMRf
namespace Go.Proofs.Ytchbppidepapiaa
open Go.RowKit
set_option maxRecDepth 100000
set_option linter.unusedVariables false
set_option linter.unusedSimpArgs false

theorem md_no {z : Int} (h : ¬ (0 ≤ z ∧ z ≤ 549755813887)) : mdV z = 0 ∧ mdB z = false ∧ mdE z = 2 := by
  unfold mdV mdB mdE
  rw [inN_f h]
  exact ⟨rfl, rfl, rfl⟩
theorem md_ok {z : Int} (h : 0 ≤ z ∧ z ≤ 549755813887) : mdV z = gaW (riW z.toNat) 39 ∧ mdB z = (wrW z.toNat == 1) ∧ mdE z = riE z.toNat := by
  unfold mdV mdB mdE
  rw [inN_t h]
  exact ⟨if_pos rfl, Bool.true_and _, if_pos rfl⟩
theorem gaW_zero : gaW 0 39 = 0 := by
  have h : ∀ k, gaW 0 k = 0 := by
    intro k
    induction k with
    | zero => rfl
    | succ k ih =>
      unfold gaW
      rw [ih, Nat.zero_div]
      split
      · simp
      · rfl
  exact h 39
theorem odW_int (c : Nat) : (((pcN 39 c : Nat) : Int) % 2 == 1) = odW c := by
  unfold odW
  generalize pcN 39 c = p
  by_cases h : p % 2 = 1
  · rw [show ((p : Int) % 2) = 1 by omega, h]; rfl
  · rw [show ((p : Int) % 2) = 0 by omega, show p % 2 = 0 by omega]; rfl
theorem rmend_any (z : Int) (w : World) : Calls Try.prog 9 #[.int .i64 z] w fun e w' => e = .returned (.tuple #[.int .i64 (mdV z : Nat), .bool (mdB z), .int .i64 (mdE z : Nat)]) ∧ w' = w := by
  by_cases h : 0 ≤ z ∧ z ≤ 549755813887
  · obtain ⟨e1, e2, e3⟩ := md_ok h
    rw [e1, e2, e3]
    obtain ⟨c, rfl⟩ : ∃ n : Nat, z = n := ⟨z.toNat, by omega⟩
    rw [Int.toNat_natCast]
    have hc : c < 549755813888 := by omega
    have h39 : ((c : Int) / 549755813888) = 0 := by omega
    clear h e1 e2 e3
    have H1 := fun w => rones_any c hc w
    have ho := odW_int c
    have hx := xsW_lt c 39 (by omega)
    have hy := pcN_le 39 c
    generalize pcN 39 c = y at H1 ho hy
    cases hb : odW c
    · rw [hb] at ho
      by_cases h0 : xsW c 39 = 0
      · obtain ⟨e1, e2, e3⟩ := ri_0 hb h0
        rw [e1, e2, e3]
        rw [h0] at H1
        clear hx hb h0 e1 e2 e3
        go_enter Try.func9, Try.ntmps9
        go_wp2_with (go_at_call 18; refine (H1 _).mono ?_; rintro e w' ⟨rfl, rfl⟩)
        go_loop [8, 9, 10] (fun nv bv i => ∃ k t s : Nat, k ≤ 39 ∧ i = .int .i64 k ∧ bv = .int .i64 t ∧ nv = .int .i64 s ∧ t ≤ 32 ∧ Hid (t = cntW k) ∧ Hid (s = gaW c k)) (fun _ _ i => 39 - (intOf i).toNat)
        case atStart => exact ⟨1, 0, 0, by omega, rfl, rfl, rfl, by omega, rfl, rfl⟩
        case round =>
          obtain ⟨k, t, s, hk, rfl, rfl, rfl, htl, ht, hs⟩ := hrel
          by_cases hlt : k < 39
          · have HW := isW_num k hlt
            have hs63 : s < 2 ^ 63 := by rw [hs.out]; exact lt63 (gaW_lt c k) (by rw [← ht.out]; omega)
            have hb := bit_at c k t (by omega) (by omega)
            have ho := i64_or_nat s ((c / 2 ^ k % 2) <<< t) hs63 (lt63 (shl_lt (c / 2 ^ k) t 40 (by omega)) (by decide))
            have HY := ga_yes c k
            have HN := ga_no c k
            have hl1 := cntW_le (k + 1) (by omega)
            rw [← ht.out, ← hs.out] at HY HN
            generalize (c / 2 ^ k % 2) <<< t = q at hb ho HY
            generalize s ||| q = s' at ho HY
            cases hw : isW k
            · rw [hw] at HW
              have HN : Hid _ := HN hw
              clear hb ho HY hl1 hw
              go_wp2
              go_round
              case rel => exact ⟨k + 1, t, s, by omega, by go_num, rfl, rfl, htl, HN.out.1.symm, HN.out.2.symm⟩
              case measure => simp [intOf]; omega
            · rw [hw] at HW
              have hl2 : t + 1 ≤ 32 := by rw [← (HY hw).1]; exact hl1
              have HY : Hid _ := HY hw
              clear HN hl1 hw
              go_wp2
              go_round
              case rel => exact ⟨k + 1, t + 1, s', by omega, by go_num, by go_num, rfl, hl2, HY.out.1.symm, HY.out.2.symm⟩
              case measure => simp [intOf]; omega
          · obtain rfl : k = 39 := by omega
            go_wp2
            go_ret3
            exact ⟨by rw [← hs.out]; rfl, rfl⟩
      · obtain ⟨e1, e2, e3⟩ := ri_2 hb h0
        rw [e1, e2, e3, gaW_zero]
        clear e1 e2 e3 hb
        generalize xsW c 39 = s at H1 hx h0
        have hz : ((s : Int) == 0) = false := by simp; omega
        go_enter Try.func9, Try.ntmps9
        go_wp2_with (go_at_call 18; refine (H1 _).mono ?_; rintro e w' ⟨rfl, rfl⟩)
        go_ret3
        exact ⟨rfl, rfl⟩
    · rw [hb] at ho
      by_cases h0 : xsW c 39 < 39
      · have hrl := riW_lt c hc
        obtain ⟨e1, e2, e3⟩ := ri_1 hb h0
        rw [e1] at hrl
        rw [e1, e2, e3]
        clear e1 e2 e3 hb
        generalize xsW c 39 = s at H1 hx h0 hrl ⊢
        have e1 := shl_one s h0
        have e2 : 1 <<< s < 2 ^ 63 := by
          rw [Nat.shiftLeft_eq, Nat.one_mul]
          exact Nat.pow_lt_pow_right (by decide) (by omega)
        have e3 := i64_xor_nat c (1 <<< s) (by omega) e2
        rw [← e1] at e3
        generalize c ^^^ 1 <<< s = r at e3 hrl ⊢
        clear e1 e2
        go_enter Try.func9, Try.ntmps9
        go_wp2_with (go_at_call 18; refine (H1 _).mono ?_; rintro e w' ⟨rfl, rfl⟩)
        go_loop [8, 9, 10] (fun nv bv i => ∃ k t s : Nat, k ≤ 39 ∧ i = .int .i64 k ∧ bv = .int .i64 t ∧ nv = .int .i64 s ∧ t ≤ 32 ∧ Hid (t = cntW k) ∧ Hid (s = gaW r k)) (fun _ _ i => 39 - (intOf i).toNat)
        case atStart => exact ⟨1, 0, 0, by omega, rfl, rfl, rfl, by omega, rfl, rfl⟩
        case round =>
          obtain ⟨k, t, s, hk, rfl, rfl, rfl, htl, ht, hs⟩ := hrel
          by_cases hlt : k < 39
          · have HW := isW_num k hlt
            have hs63 : s < 2 ^ 63 := by rw [hs.out]; exact lt63 (gaW_lt r k) (by rw [← ht.out]; omega)
            have hb := bit_at r k t (by omega) (by omega)
            have ho := i64_or_nat s ((r / 2 ^ k % 2) <<< t) hs63 (lt63 (shl_lt (r / 2 ^ k) t 40 (by omega)) (by decide))
            have HY := ga_yes r k
            have HN := ga_no r k
            have hl1 := cntW_le (k + 1) (by omega)
            rw [← ht.out, ← hs.out] at HY HN
            generalize (r / 2 ^ k % 2) <<< t = q at hb ho HY
            generalize s ||| q = s' at ho HY
            cases hw : isW k
            · rw [hw] at HW
              have HN : Hid _ := HN hw
              clear hb ho HY hl1 hw
              go_wp2
              go_round
              case rel => exact ⟨k + 1, t, s, by omega, by go_num, rfl, rfl, htl, HN.out.1.symm, HN.out.2.symm⟩
              case measure => simp [intOf]; omega
            · rw [hw] at HW
              have hl2 : t + 1 ≤ 32 := by rw [← (HY hw).1]; exact hl1
              have HY : Hid _ := HY hw
              clear HN hl1 hw
              go_wp2
              go_round
              case rel => exact ⟨k + 1, t + 1, s', by omega, by go_num, by go_num, rfl, hl2, HY.out.1.symm, HY.out.2.symm⟩
              case measure => simp [intOf]; omega
          · obtain rfl : k = 39 := by omega
            go_wp2
            go_ret3
            exact ⟨by rw [← hs.out]; rfl, rfl⟩
      · obtain ⟨e1, e2, e3⟩ := ri_3 hb h0
        rw [e1, e2, e3, gaW_zero]
        clear e1 e2 e3 hb
        generalize xsW c 39 = s at H1 hx h0
        have hz : ¬ ((s : Int) < 39) := by omega
        go_enter Try.func9, Try.ntmps9
        go_wp2_with (go_at_call 18; refine (H1 _).mono ?_; rintro e w' ⟨rfl, rfl⟩)
        go_ret3
        exact ⟨rfl, rfl⟩
  · obtain ⟨e1, e2, e3⟩ := md_no h
    rw [e1, e2, e3]
    by_cases h1 : z < 0
    · go_enter Try.func9, Try.ntmps9
      go_wp2
      go_ret3
      exact ⟨rfl, rfl⟩
    · have h2 : (z / 549755813888 == 0) = false := by simp; omega
      go_enter Try.func9, Try.ntmps9
      go_wp2
      go_ret3
      exact ⟨rfl, rfl⟩
end Go.Proofs.Ytchbppidepapiaa
