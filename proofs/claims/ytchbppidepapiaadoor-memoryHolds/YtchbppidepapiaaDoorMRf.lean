import Derived.Test.YtchbppidepapiaaDoorMCd2
namespace Go.Proofs.YtchbppidepapiaaDoor
open Go.RowKit
set_option maxRecDepth 100000
set_option linter.unusedVariables false
set_option linter.unusedSimpArgs false

theorem pc_yes (c k : Nat) (h : c.testBit k = true) : pcN (k + 1) c = pcN k c + 1 := by
  rw [pcN_succ]
  rw [Nat.testBit_eq_decide_div_mod_eq] at h
  have := of_decide_eq_true h
  omega
theorem pc_no (c k : Nat) (h : c.testBit k = false) : pcN (k + 1) c = pcN k c := by
  rw [pcN_succ]
  rw [Nat.testBit_eq_decide_div_mod_eq] at h
  have := of_decide_eq_false h
  omega
theorem rones_any (c : Nat) (hc : c < 549755813888) (w : World) : Calls Tryd.prog 19 #[.int .i64 c] w fun e w' => e = .returned (.tuple #[.int .i64 (pcN 39 c : Nat), .int .i64 (xsW c 39 : Nat)]) ∧ w' = w := by
  go_enter Tryd.func19, Tryd.ntmps19
  go_wp2
  go_loop [4, 5, 6] (fun nv sv i => ∃ k n s : Nat, k ≤ 39 ∧ i = .int .i64 k ∧ nv = .int .i64 n ∧ sv = .int .i64 s ∧ Hid (n = pcN k c) ∧ Hid (s = xsW c k)) (fun _ _ i => 39 - (intOf i).toNat)
  case atStart => exact ⟨0, 0, 0, by omega, rfl, rfl, rfl, rfl, rfl⟩
  case round =>
    obtain ⟨k, n, s, hk, rfl, rfl, rfl, hn, hs⟩ := hrel
    by_cases hlt : k < 39
    · have hs64 : s < 64 := by rw [hs.out]; exact xsW_lt _ _ (by omega)
      have hn64 : n < 64 := by rw [hn.out]; exact Nat.lt_of_le_of_lt (pcN_le k c) (by omega)
      have ho := i64_xor_nat s k (by omega) (by omega)
      have hz := bit_i64 c k (by omega)
      have HY := xs_yes c k
      have HN := xs_no c k
      have PY := pc_yes c k
      have PN := pc_no c k
      rw [← hs.out] at HY HN
      rw [← hn.out] at PY PN
      generalize s ^^^ k = s' at ho HY
      cases hw : c.testBit k
      · have HN : Hid _ := HN hw
        have PN : Hid _ := PN hw
        rw [hw] at hz
        clear ho HY hw PY
        go_wp2
        go_round
        case rel => exact ⟨k + 1, n, s, by omega, by go_num, rfl, rfl, PN.out.symm, HN.out.symm⟩
        case measure => simp [intOf]; omega
      · have HY : Hid _ := HY hw
        have PY : Hid _ := PY hw
        rw [hw] at hz
        clear HN hw PN
        go_wp2
        go_round
        case rel => exact ⟨k + 1, n + 1, s', by omega, by go_num, by go_num, rfl, PY.out.symm, HY.out.symm⟩
        case measure => simp [intOf]; omega
    · obtain rfl : k = 39 := by omega
      go_wp2
      go_ret2
      exact ⟨by rw [← hs.out, ← hn.out]; rfl, rfl⟩
theorem cdE_no {z : Int} (h : ¬ (0 ≤ z ∧ z ≤ 4294967295)) : cdV z = 0 ∧ cdE z = 2 := by
  unfold cdV cdE
  rw [inN_f h]
  exact ⟨rfl, rfl⟩
theorem cdE_ok {z : Int} (h : 0 ≤ z ∧ z ≤ 4294967295) : cdV z = coN z.toNat ∧ cdE z = 0 := by
  unfold cdV cdE
  rw [inN_t h]
  exact ⟨rfl, rfl⟩
theorem isW_num (p : Nat) (hp : p < 39) : (bits .and .i64 (p : Int) ((p : Int) - 1) != 0) = isW p := ofWord_num p hp
theorem odW_nat (c : Nat) : (odW c).toNat = pcN 39 c % 2 := by
  unfold odW
  by_cases h : pcN 39 c % 2 = 1
  · rw [h]; rfl
  · rw [show pcN 39 c % 2 = 0 by omega]; rfl
theorem rcode_any (z : Int) (w : World) : Calls Tryd.prog 10 #[.int .i64 z] w fun e w' => e = .returned (.tuple #[.int .i64 (cdV z : Nat), .int .i64 (cdE z : Nat)]) ∧ w' = w := by
  by_cases h : 0 ≤ z ∧ z ≤ 4294967295
  · obtain ⟨e1, e2⟩ := cdE_ok h
    rw [e1, e2]
    obtain ⟨n, rfl⟩ : ∃ n : Nat, z = n := ⟨z.toNat, by omega⟩
    rw [Int.toNat_natCast]
    have hn : n ≤ 4294967295 := by omega
    clear h e1 e2
    go_enter Tryd.func10, Tryd.ntmps10
    go_wp2
    go_loop [0, 4, 5] (fun mv c i => ∃ k m s : Nat, k ≤ 39 ∧ i = .int .i64 k ∧ mv = .int .i64 m ∧ c = .int .i64 s ∧ Hid (m = n / 2 ^ cntW k) ∧ Hid (s = spW n k)) (fun _ _ i => 39 - (intOf i).toNat)
    case atStart => exact ⟨1, n, 0, by omega, rfl, rfl, rfl, by show _ = _; simp [show cntW 1 = 0 from rfl], rfl⟩
    case round =>
      obtain ⟨k, m, s, hk, rfl, rfl, rfl, hm, hs⟩ := hrel
      by_cases hlt : k < 39
      · have HW := isW_num k hlt
        have hp : m < 2 ^ 63 := by rw [hm.out]; exact pow_div_lt _ _ (by omega)
        have hs63 : s < 2 ^ 63 := by rw [hs.out]; exact lt63 (spW_lt n k) (by omega)
        have hb := bit_to m k hp (by omega)
        have ho := i64_or_nat s ((m % 2) <<< k) hs63 (lt63 (shl_lt m k 40 (by omega)) (by decide))
        have hd : ((m : Int) / 2) = ((m / 2 : Nat) : Int) := by omega
        have HY := sp_yes n k
        have HN := sp_no n k
        rw [← hm.out, ← hs.out] at HY HN
        generalize (m % 2) <<< k = q at hb ho HY
        generalize m / 2 = m' at hd HY
        generalize s ||| q = s' at ho HY
        cases hw : isW k
        · rw [hw] at HW
          have HN : Hid _ := HN hw
          clear hb ho HY hd hw
          go_wp2
          go_round
          case rel => exact ⟨k + 1, m, s, by omega, by go_num, rfl, rfl, HN.out.1.symm, HN.out.2.symm⟩
          case measure => simp [intOf]; omega
        · rw [hw] at HW
          have HY : Hid _ := HY hw
          clear HN hw
          go_wp2
          go_round
          case rel => exact ⟨k + 1, m', s', by omega, by go_num, rfl, rfl, HY.out.1.symm, HY.out.2.symm⟩
          case measure => simp [intOf]; omega
      · obtain rfl : k = 39 := by omega
        have HE : Hid (coN n = ckW s (xsW s 39) 6 ||| (odW (ckW s (xsW s 39) 6)).toNat) := by
          show _ = _
          rw [hs.out]; rfl
        have hsl : s < 549755813888 := by rw [hs.out]; exact spW_lt n 39
        have H1 := fun w => rones_any s hsl w
        have hx := xsW_lt s 39 (by omega)
        generalize xsW s 39 = x at H1 HE hx
        generalize pcN 39 s = y at H1
        clear hs hm
        go_wp2_with (go_at_call 19; refine (H1 _).mono ?_; rintro e w' ⟨rfl, rfl⟩)
        go_loop [4, 8] (fun cv pv => ∃ i d : Nat, i ≤ 6 ∧ pv = .int .i64 (i : Int) ∧ cv = .int .i64 d ∧ Hid (d = ckW s x i)) (fun _ pv => 6 - (intOf pv).toNat)
        case atStart => exact ⟨0, s, by omega, rfl, rfl, rfl⟩
        case round =>
          obtain ⟨i, d, hi, rfl, rfl, hd⟩ := hrel
          have hdl : d < 549755813888 := by rw [hd.out]; exact ckW_lt _ _ _ hsl hi
          by_cases hlt : i < 6
          · have hb := bit_i64 x i (by omega)
            have HY := ck_yes s x i
            have HN := ck_no s x i
            rw [← hd.out] at HY HN
            have ho := i64_or_nat d (1 <<< 2 ^ i) (by omega) (by
              have : ∀ i, i < 6 → 1 <<< 2 ^ i < 2 ^ 63 := by decide +kernel
              exact this i hlt)
            generalize d ||| 1 <<< 2 ^ i = d' at ho HY
            cases hw : x.testBit i
            · have HN : Hid _ := HN hw
              rw [hw] at hb
              clear HY ho hw
              go_wp2
              go_round
              case rel => exact ⟨i + 1, d, by omega, by go_num, rfl, HN.out.symm⟩
              case measure => simp [intOf]; omega
            · have HY : Hid _ := HY hw
              rw [hw] at hb
              clear HN hw
              have e : i = 0 ∨ i = 1 ∨ i = 2 ∨ i = 3 ∨ i = 4 ∨ i = 5 := by omega
              rcases e with rfl | rfl | rfl | rfl | rfl | rfl
              all_goals
                simp only [Nat.reducePow, Nat.reduceShiftLeft] at ho
                try simp at hb
                go_wp2
                go_round
                case rel => exact ⟨_, d', by omega, by go_num, val_int ho, HY.out.symm⟩
                case measure => simp [intOf]
          · obtain rfl : i = 6 := by omega
            rw [← hd.out, odW_nat] at HE
            have H2 := fun w => rones_any d hdl w
            have e1 : bits .and .i64 ((pcN 39 d : Nat) : Int) 1 = ((pcN 39 d % 2 : Nat) : Int) := by
              have := i64_and_nat (pcN 39 d) 1 (Nat.lt_of_le_of_lt (pcN_le _ _) (by decide)) (by decide)
              rw [Nat.and_one_is_mod] at this
              exact this
            have e2 := i64_or_nat d (pcN 39 d % 2) (by omega) (by omega)
            have HE : Hid _ := HE
            generalize pcN 39 d % 2 = t at e1 e2 HE
            generalize pcN 39 d = y at H2 e1
            generalize xsW d 39 = x at H2
            generalize d ||| t = r at e2 HE
            clear hd H1
            go_wp2_with (go_at_call 19; refine (H2 _).mono ?_; rintro e w' ⟨rfl, rfl⟩)
            go_ret2
            exact ⟨by rw [HE.out]; rfl, rfl⟩
  · obtain ⟨e1, e2⟩ := cdE_no h
    rw [e1, e2]
    by_cases h1 : z < 0
    · go_enter Tryd.func10, Tryd.ntmps10
      go_wp2
      go_ret2
      exact ⟨rfl, rfl⟩
    · have h2 : z > 4294967295 := by omega
      go_enter Tryd.func10, Tryd.ntmps10
      go_wp2
      go_ret2
      exact ⟨rfl, rfl⟩
end Go.Proofs.YtchbppidepapiaaDoor
