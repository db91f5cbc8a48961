import Derived.Test.YtaigcjhachkmmaaDoorFSums
import Derived.Lib.Mul64
import Derived.Laws.Bits64b
import Derived.Laws.BitsAllLaws
import Derived.Deep.DeepCutAuto
namespace Go.Proofs.YtaigcjhachkmmaaDoor
open Go.RowKit
set_option maxRecDepth 100000
set_option linter.unusedVariables false
set_option linter.unusedSimpArgs false
namespace M64
theorem maskN (a : Nat) (ha : a < 18446744073709551616) : bits .and .u64 (a : Int) 4294967295 = ((a % 4294967296 : Nat) : Int) := by
  have h := u64_and_nat a 4294967295 ha (by omega)
  have e : a &&& 4294967295 = a % 4294967296 := Nat.and_two_pow_sub_one_eq_mod a 32
  rw [e] at h
  exact h
theorem divN (a : Nat) : (a : Int) / 4294967296 = ((a / 4294967296 : Nat) : Int) := by omega
theorem mulN (a b : Nat) : (a : Int) * (b : Int) = ((a * b : Nat) : Int) := (Int.natCast_mul a b).symm
theorem addN (a b : Nat) : (a : Int) + (b : Int) = ((a + b : Nat) : Int) := (Int.natCast_add a b).symm
theorem wrapN (a : Nat) (ha : a < 18446744073709551616) : IntKind.u64.wrap (a : Int) = (a : Int) := by rw [IntKind.wrap_u64]; omega
theorem wrapM (a : Nat) : IntKind.u64.wrap (a : Int) = ((a % 18446744073709551616 : Nat) : Int) := by rw [IntKind.wrap_u64]; omega
end M64
set_option maxHeartbeats 1000000 in
theorem mul64_any (x y : Nat) (hx : x < 18446744073709551616) (hy : y < 18446744073709551616) (w : World) :
    Calls Tryd.prog 59 #[.int .u64 x, .int .u64 y] w fun e w' => e = .returned (.tuple #[.int .u64 ((x * y / 18446744073709551616 : Nat) : Int), .int .u64 ((x * y % 18446744073709551616 : Nat) : Int)]) ∧ w' = w := by
  obtain ⟨bd, bt, bw, hhi⟩ := Lib.mul64_hi x y hx hy
  have ba := Lib.half_mul_le (a := x / 4294967296) (b := y / 4294967296) (by omega) (by omega)
  have bb := Lib.half_mul_le (a := x / 4294967296) (b := y % 4294967296) (by omega) (by omega)
  have bc := Lib.half_mul_le (a := x % 4294967296) (b := y / 4294967296) (by omega) (by omega)
  have ba' : x / 4294967296 * (y / 4294967296) < 18446744073709551616 := by omega
  have bb' : x / 4294967296 * (y % 4294967296) < 18446744073709551616 := by omega
  have bc' : x % 4294967296 * (y / 4294967296) < 18446744073709551616 := by omega
  have bh1 : x / 4294967296 * (y / 4294967296) + (x / 4294967296 * (y % 4294967296) + x % 4294967296 * (y % 4294967296) / 4294967296) / 4294967296 < 18446744073709551616 := by omega
  have bh : x / 4294967296 * (y / 4294967296) + (x / 4294967296 * (y % 4294967296) + x % 4294967296 * (y % 4294967296) / 4294967296) / 4294967296 + ((x / 4294967296 * (y % 4294967296) + x % 4294967296 * (y % 4294967296) / 4294967296) % 4294967296 + x % 4294967296 * (y / 4294967296)) / 4294967296 < 18446744073709551616 := by omega
  go_enter Tryd.func59, Tryd.ntmps59
  go_wp2
  simp only [M64.maskN x hx, M64.maskN y hy, M64.divN, M64.mulN, M64.addN, M64.wrapN _ bd, M64.wrapN _ bb', M64.wrapN _ bt, M64.maskN _ bt, M64.wrapN _ bc', M64.wrapN _ bw, M64.wrapN _ ba', M64.wrapN _ bh1, M64.wrapN _ bh, M64.wrapM (x * y)]
  rw [hhi]
  go_ret2
  exact ⟨rfl, rfl⟩
theorem len64_p (w : World) : Calls Tryd.prog 67 #[.int .u64 2305843009213693951] w fun e w' => e = .returned (.int .i64 61) ∧ w' = w := by
  go_enter Tryd.func67, Tryd.ntmps67
  go_wp2
  go_ret
  refine ⟨?_, rfl⟩
  kernel_rfl
theorem lz64_p (w : World) : Calls Tryd.prog 66 #[.int .u64 2305843009213693951] w fun e w' => e = .returned (.int .i64 3) ∧ w' = w := by
  go_enter Tryd.func66, Tryd.ntmps66
  go_wp2_with (go_at_call 67; refine (len64_p _).mono ?_; rintro e w' ⟨rfl, rfl⟩)
  go_ret
  exact ⟨rfl, rfl⟩
/-! the quotient, digit by digit; y is 2^64 - 8 -/
theorem dig_start (u v : Nat) (hu : u < 18446744073709551608) (hv : v < 4294967296) : (u * 4294967296 + v) / 18446744073709551608 ≤ u / 4294967295 ∧ u / 4294967295 ≤ 4294967296 := by omega
theorem dig_less (u v q r : Nat) (hv : v < 4294967296) (hu : u < 18446744073709551608) (h : q * 4294967295 + r = u) (hc : 4294967296 ≤ q ∨ 4294967296 * r + v < q * 4294967288) : (u * 4294967296 + v) / 18446744073709551608 ≤ q - 1 ∧ 1 ≤ q := by omega
theorem dig_end (u v q r : Nat) (hv : v < 4294967296) (h : q * 4294967295 + r = u) (hq : (u * 4294967296 + v) / 18446744073709551608 ≤ q) (hc : q * 4294967288 ≤ 4294967296 * r + v) : (u * 4294967296 + v) / 18446744073709551608 = q := by omega
theorem dig_next {Y u q r : Nat} (h : (q + 1) * Y + r = u) : q * Y + (r + Y) = u := by rw [← h, Nat.succ_mul]; omega
theorem dig_room {v q r : Nat} (hq : q ≤ 4294967296) (h : 4294967296 ≤ r) : q * 4294967288 ≤ 4294967296 * r + v := by omega
theorem dig_rem {u v q : Nat} (hq : q = (u * 4294967296 + v) / 18446744073709551608) :
    IntKind.u64.wrap (IntKind.u64.wrap (IntKind.u64.wrap ((u : Int) * 4294967296) + (v : Int)) - IntKind.u64.wrap ((q : Int) * 18446744073709551608)) = (((u * 4294967296 + v) % 18446744073709551608 : Nat) : Int) := by
  simp only [IntKind.wrap_u64]
  omega
theorem dig_first {u q r : Nat} (bu : u < 18446744073709551608) (hq : q = u / 4294967295) (hr : r = u % 4294967295) : (u : Int) / 4294967295 = (q : Int) ∧ (u : Int) - (q : Int) * 4294967295 = (r : Int) ∧ q ≤ 4294967296 ∧ r < 4294967295 ∧ q * 4294967295 + r = u := by
  refine ⟨by omega, by omega, by omega, by omega, by omega⟩
theorem dig_fin {hi lo u t1 t0 u1 R : Nat} (hu : u = hi * 8 + lo / 2305843009213693952) (ht : t1 * 4294967296 + t0 = lo * 8 % 18446744073709551616) (hu1 : u1 = (u * 4294967296 + t1) % 18446744073709551608) (hR : R = (u1 * 4294967296 + t0) % 18446744073709551608) : R / 8 = (hi * 18446744073709551616 + lo) % 2305843009213693951 := by
  have e0 : lo / 2305843009213693952 * 18446744073709551616 + lo * 8 % 18446744073709551616 = lo * 8 := by
    have h1 : lo * 8 / 18446744073709551616 = lo / 2305843009213693952 := Nat.mul_div_mul_right lo 2305843009213693952 (by decide : 0 < 8)
    rw [← h1]; exact Nat.div_add_mod' _ _
  have e : (u * 4294967296 + t1) * 4294967296 + t0 = 8 * (hi * 18446744073709551616 + lo) := by
    rw [Nat.add_mul, Nat.mul_assoc, Nat.add_assoc, ht, hu, Nat.add_mul, Nat.add_assoc, show (4294967296 * 4294967296 : Nat) = 18446744073709551616 from rfl, e0, Nat.mul_add, Nat.mul_comm lo 8, Nat.mul_comm hi 8, Nat.mul_assoc]
  have e2 : R = 8 * (hi * 18446744073709551616 + lo) % 18446744073709551608 := by
    rw [hR, hu1, ← e, Nat.add_mod, Nat.mul_mod, Nat.mod_mod, ← Nat.mul_mod, ← Nat.add_mod]
  rw [e2]
  generalize hi * 18446744073709551616 + lo = T
  rw [show (18446744073709551608 : Nat) = 8 * 2305843009213693951 from rfl, Nat.mul_mod_mul_left]
  exact Nat.mul_div_cancel_left _ (by decide)
theorem dig_int {R hi lo : Nat} (h : R / 8 = (hi * 18446744073709551616 + lo) % 2305843009213693951) : (R : Int) / 8 = ((hi : Int) * 18446744073709551616 + (lo : Int)) % 2305843009213693951 := by
  have := congrArg (fun n : Nat => (n : Int)) h
  simpa using this
set_option maxHeartbeats 8000000 in
theorem div64_any (hi lo : Nat) (hh : hi < 2305843009213693951) (hl : lo < 18446744073709551616) (w : World) :
    Calls Tryd.prog 64 #[.int .u64 hi, .int .u64 lo, .int .u64 2305843009213693951] w fun e w' => (∃ v, e = .returned (.tuple #[v, .int .u64 (((hi * 18446744073709551616 + lo) % 2305843009213693951 : Nat) : Int)])) ∧ ∃ m, w' = w.drewN m := by
  have hP : ¬ (2305843009213693951 : Int) ≤ (hi : Int) := by omega
  by_cases h0 : hi = 0
  · subst h0
    go_enter Tryd.func64, Tryd.ntmps64
    go_wp2
    go_quiet (fail)
    go_wp2
    go_ret2
    refine ⟨⟨.int .u64 ((lo : Int) / 2305843009213693951), ?_⟩, nq, rfl⟩
    rw [Nat.zero_mul, Nat.zero_add]
    rfl
  · have h0' : ¬ (hi : Int) = 0 := by omega
    obtain ⟨u, hu⟩ : ∃ u, u = hi * 8 + lo / 2305843009213693952 := ⟨_, rfl⟩
    obtain ⟨t, ht⟩ : ∃ t, t = lo * 8 % 18446744073709551616 := ⟨_, rfl⟩
    obtain ⟨t1, ht1⟩ : ∃ t1, t1 = t / 4294967296 := ⟨_, rfl⟩
    obtain ⟨t0, ht0⟩ : ∃ t0, t0 = t % 4294967296 := ⟨_, rfl⟩
    have e1 : bits .or .u64 ((hi : Int) * 8) ((lo : Int) / 2305843009213693952) = (u : Int) := by
      have := u64_or_nat (hi * 8) (lo / 2305843009213693952) (by omega) (by omega)
      rw [show ((hi * 8 : Nat) : Int) = (hi : Int) * 8 by omega, show ((lo / 2305843009213693952 : Nat) : Int) = (lo : Int) / 2305843009213693952 by omega] at this
      rw [this, hu]
      have h3 := Nat.two_pow_add_eq_or_of_lt (i := 3) (b := lo / 2305843009213693952) (by omega) hi
      rw [show 2 ^ 3 * hi = hi * 8 by omega] at h3
      rw [h3]
    have e2 : (lo : Int) * 8 % 18446744073709551616 = (t : Int) := by omega
    have e3 : IntKind.u64.wrap ((lo : Int) * 8) = (t : Int) := by rw [IntKind.wrap_u64]; omega
    have e4 : bits .and .u64 18446744073709551608 4294967295 = 4294967288 := M64.maskN 18446744073709551608 (by omega)
    have e5 : bits .and .u64 (t : Int) 4294967295 = (t0 : Int) := by rw [ht0]; exact M64.maskN t (by omega)
    have e6 : (t : Int) / 4294967296 = (t1 : Int) := by omega
    obtain ⟨q, hq⟩ : ∃ q, q = u / 4294967295 := ⟨_, rfl⟩
    obtain ⟨r, hr⟩ : ∃ r, r = u % 4294967295 := ⟨_, rfl⟩
    have e7 : (u : Int) / 4294967295 = (q : Int) := by omega
    have e8 : (u : Int) - (q : Int) * 4294967295 = (r : Int) := by omega
    have bu : u < 18446744073709551608 := by omega
    have bq : q ≤ 4294967296 := by omega
    have br : r < 4294967295 := by omega
    have bt1 : t1 < 4294967296 := by omega
    have bt0 : t0 < 4294967296 := by omega
    have qr : q * 4294967295 + r = u := by omega
    have HU : Hid (u = hi * 8 + lo / 2305843009213693952) := hu
    have hT0 : t1 * 4294967296 + t0 = lo * 8 % 18446744073709551616 := by rw [ht1, ht0, Nat.div_add_mod']; exact ht
    have HT : Hid (t1 * 4294967296 + t0 = lo * 8 % 18446744073709551616) := hT0
    clear hT0
    have HQ : Hid (q * 4294967295 + r = u) := qr
    have HQ2 : Hid ((u * 4294967296 + t1) / 18446744073709551608 ≤ q) := Nat.le_trans (dig_start u t1 bu bt1).1 (by omega)
    clear hu ht ht1 ht0 hq hr qr
    go_enter Tryd.func64, Tryd.ntmps64
    go_upto_region 16 with (go_at_call 66; refine (lz64_p _).mono ?_; rintro e w' ⟨rfl, hw⟩; have hw := hw.symm; subst hw)
    go_cut [16] (fun s16 wx => s16 = .int .u64 (r : Nat) ∧ wx = w)
    case first =>
      go_wp2_with fail
      go_meet
      exact ⟨rfl, rfl⟩
    case rest =>
      obtain ⟨rfl, hwc⟩ := hcut
      have hwc := hwc.symm
      subst hwc
      rename_i hKK
      refine hKK _ _ ?_
      refine wp_seq_k fun KK hKK2 => ?_
      go_cut [15, 16] (fun s15 s16 wx => s15 = .int .u64 ((u * 4294967296 + t1) / 18446744073709551608 : Nat) ∧ wx = w)
      case first =>
        go_wp2_with fail
        go_loopw [15, 16] (fun a b wr => ∃ q r : Nat, a = .int .u64 (q : Nat) ∧ b = .int .u64 (r : Nat) ∧ wr = w ∧ Hid (q * 4294967295 + r = u) ∧ Hid ((u * 4294967296 + t1) / 18446744073709551608 ≤ q) ∧ q ≤ 4294967296 ∧ r < 4294967296) (fun a _ _ => (intOf a).toNat)
        case atStart => exact ⟨q, r, rfl, rfl, rfl, HQ, HQ2, bq, Nat.lt_trans br (by decide)⟩
        case round =>
          obtain ⟨q, r, rfl, rfl, hwr, H1, H2, b1, b2⟩ := hrel
          have hwr := hwr.symm
          subst hwr
          by_cases hc1 : 4294967296 ≤ q
          · obtain ⟨hd, hq1⟩ := dig_less u t1 q r bt1 bu H1.out (.inl hc1)
            obtain ⟨q', hq'⟩ : ∃ q', q = q' + 1 := ⟨q - 1, (Nat.sub_add_cancel hq1).symm⟩
            have H3 : Hid (q' * 4294967295 + (r + 4294967295) = u) := dig_next (by rw [← hq']; exact H1.out)
            have H4 : Hid ((u * 4294967296 + t1) / 18446744073709551608 ≤ q') := by rw [hq'] at hd; exact hd
            have hci : (4294967296 : Int) ≤ (q : Int) := by omega
            have b3 : q' ≤ 4294967296 := by omega
            have e9 : (q : Int) - 1 = (q' : Int) := by omega
            have hm : q' < q := by omega
            clear hd hq'
            by_cases hc3 : 4294967296 ≤ r + 4294967295
            · have HE : Hid ((u * 4294967296 + t1) / 18446744073709551608 = q') := dig_end u t1 q' (r + 4294967295) bt1 H3.out H4.out (dig_room b3 hc3)
              have hci3 : (4294967296 : Int) ≤ (r : Int) + 4294967295 := by omega
              go_wp2_with fail
              go_meet
              exact ⟨by rw [HE.out], rfl⟩
            · have hci3 : ¬ (4294967296 : Int) ≤ (r : Int) + 4294967295 := by omega
              go_wp2_with fail
              go_roundw
              case rel => exact ⟨q', r + 4294967295, by go_num, by go_num, by first | rfl | trivial, H3, H4, b3, Nat.lt_of_not_le hc3⟩
              case measure => simp [intOf] <;> omega
          · have hci : ¬ (4294967296 : Int) ≤ (q : Int) := by omega
            by_cases hc2 : 4294967296 * r + t1 < q * 4294967288
            · obtain ⟨hd, hq1⟩ := dig_less u t1 q r bt1 bu H1.out (.inr hc2)
              obtain ⟨q', hq'⟩ : ∃ q', q = q' + 1 := ⟨q - 1, (Nat.sub_add_cancel hq1).symm⟩
              have H3 : Hid (q' * 4294967295 + (r + 4294967295) = u) := dig_next (by rw [← hq']; exact H1.out)
              have H4 : Hid ((u * 4294967296 + t1) / 18446744073709551608 ≤ q') := by rw [hq'] at hd; exact hd
              have hci2 : (q : Int) * 4294967288 > 4294967296 * (r : Int) + (t1 : Int) := by omega
              have b3 : q' ≤ 4294967296 := by omega
              have e9 : (q : Int) - 1 = (q' : Int) := by omega
              have hm : q' < q := by omega
              clear hd hq'
              by_cases hc3 : 4294967296 ≤ r + 4294967295
              · have HE : Hid ((u * 4294967296 + t1) / 18446744073709551608 = q') := dig_end u t1 q' (r + 4294967295) bt1 H3.out H4.out (dig_room b3 hc3)
                have hci3 : (4294967296 : Int) ≤ (r : Int) + 4294967295 := by omega
                go_wp2_with fail
                go_meet
                exact ⟨by rw [HE.out], rfl⟩
              · have hci3 : ¬ (4294967296 : Int) ≤ (r : Int) + 4294967295 := by omega
                go_wp2_with fail
                go_roundw
                case rel => exact ⟨q', r + 4294967295, by go_num, by go_num, by first | rfl | trivial, H3, H4, b3, Nat.lt_of_not_le hc3⟩
                case measure => simp [intOf] <;> omega
            · have HE : Hid ((u * 4294967296 + t1) / 18446744073709551608 = q) := dig_end u t1 q r bt1 H1.out H2.out (Nat.le_of_not_lt hc2)
              have hci2 : ¬ (q : Int) * 4294967288 > 4294967296 * (r : Int) + (t1 : Int) := by omega
              go_wp2_with fail
              go_meet
              exact ⟨by rw [HE.out], rfl⟩
      case rest =>
        obtain ⟨rfl, hwc⟩ := hcut
        have hwc := hwc.symm
        subst hwc
        refine hKK2 _ _ ?_
        obtain ⟨Q1, hQ1⟩ : ∃ Q1, Q1 = (u * 4294967296 + t1) / 18446744073709551608 := ⟨_, rfl⟩
        rw [← hQ1]
        have HQ1 : Hid (Q1 = (u * 4294967296 + t1) / 18446744073709551608) := hQ1
        have bQ1 : Q1 ≤ 4294967296 := by rw [hQ1]; exact Nat.le_trans (dig_start u t1 bu bt1).1 (dig_start u t1 bu bt1).2
        have HR1 : Hid (Q1 = (u * 4294967296 + t1) / 18446744073709551608) := hQ1
        obtain ⟨u1, hu1⟩ : ∃ u1, u1 = (u * 4294967296 + t1) % 18446744073709551608 := ⟨_, rfl⟩
        have E1 := dig_rem hQ1
        rw [← hu1] at E1
        have bu1 : u1 < 18446744073709551608 := by rw [hu1]; exact Nat.mod_lt _ (by decide)
        obtain ⟨q2, hq2⟩ : ∃ q, q = u1 / 4294967295 := ⟨_, rfl⟩
        obtain ⟨r2, hr2⟩ : ∃ r, r = u1 % 4294967295 := ⟨_, rfl⟩
        obtain ⟨e7', e8', bq2, br2, qr2⟩ := dig_first bu1 hq2 hr2
        have HD : Hid (q2 * 4294967295 + r2 = u1) := qr2
        have HD2 : Hid ((u1 * 4294967296 + t0) / 18446744073709551608 ≤ q2) := by rw [hq2]; exact (dig_start u1 t0 bu1 bt0).1
        have HU1 : Hid (u1 = (u * 4294967296 + t1) % 18446744073709551608) := hu1
        clear hQ1 e1 e2 e3 e5 e6 e7 e8 HQ HQ2 hu1 hq2 hr2 qr2
        go_upto_region 23 with fail
        go_cut [16] (fun s16 wx => s16 = .int .u64 (r2 : Nat) ∧ wx = w)
        case first =>
          go_wp2_with fail
          go_meet
          exact ⟨rfl, rfl⟩
        case rest =>
          obtain ⟨rfl, hwc⟩ := hcut
          have hwc := hwc.symm
          subst hwc
          rename_i hKL
          refine hKL _ _ ?_
          refine wp_seq_k fun KL hKL2 => ?_
          go_cut [18, 16] (fun s18 s16 wx => s18 = .int .u64 ((u1 * 4294967296 + t0) / 18446744073709551608 : Nat) ∧ wx = w)
          case first =>
            go_wp2_with fail
            go_loopw [18, 16] (fun a b wr => ∃ q r : Nat, a = .int .u64 (q : Nat) ∧ b = .int .u64 (r : Nat) ∧ wr = w ∧ Hid (q * 4294967295 + r = u1) ∧ Hid ((u1 * 4294967296 + t0) / 18446744073709551608 ≤ q) ∧ q ≤ 4294967296 ∧ r < 4294967296) (fun a _ _ => (intOf a).toNat)
            case atStart => exact ⟨q2, r2, rfl, rfl, rfl, HD, HD2, bq2, Nat.lt_trans br2 (by decide)⟩
            case round =>
              obtain ⟨q, r, rfl, rfl, hwr, H1, H2, b1, b2⟩ := hrel
              have hwr := hwr.symm
              subst hwr
              by_cases hc1 : 4294967296 ≤ q
              · obtain ⟨hd, hq1⟩ := dig_less u1 t0 q r bt0 bu1 H1.out (.inl hc1)
                obtain ⟨q', hq'⟩ : ∃ q', q = q' + 1 := ⟨q - 1, (Nat.sub_add_cancel hq1).symm⟩
                have H3 : Hid (q' * 4294967295 + (r + 4294967295) = u1) := dig_next (by rw [← hq']; exact H1.out)
                have H4 : Hid ((u1 * 4294967296 + t0) / 18446744073709551608 ≤ q') := by rw [hq'] at hd; exact hd
                have hci : (4294967296 : Int) ≤ (q : Int) := by omega
                have b3 : q' ≤ 4294967296 := by omega
                have e9 : (q : Int) - 1 = (q' : Int) := by omega
                have hm : q' < q := by omega
                clear hd hq'
                by_cases hc3 : 4294967296 ≤ r + 4294967295
                · have HE : Hid ((u1 * 4294967296 + t0) / 18446744073709551608 = q') := dig_end u1 t0 q' (r + 4294967295) bt0 H3.out H4.out (dig_room b3 hc3)
                  have hci3 : (4294967296 : Int) ≤ (r : Int) + 4294967295 := by omega
                  go_wp2_with fail
                  go_meet
                  exact ⟨by rw [HE.out], rfl⟩
                · have hci3 : ¬ (4294967296 : Int) ≤ (r : Int) + 4294967295 := by omega
                  go_wp2_with fail
                  go_roundw
                  case rel => exact ⟨q', r + 4294967295, by go_num, by go_num, by first | rfl | trivial, H3, H4, b3, Nat.lt_of_not_le hc3⟩
                  case measure => simp [intOf] <;> omega
              · have hci : ¬ (4294967296 : Int) ≤ (q : Int) := by omega
                by_cases hc2 : 4294967296 * r + t0 < q * 4294967288
                · obtain ⟨hd, hq1⟩ := dig_less u1 t0 q r bt0 bu1 H1.out (.inr hc2)
                  obtain ⟨q', hq'⟩ : ∃ q', q = q' + 1 := ⟨q - 1, (Nat.sub_add_cancel hq1).symm⟩
                  have H3 : Hid (q' * 4294967295 + (r + 4294967295) = u1) := dig_next (by rw [← hq']; exact H1.out)
                  have H4 : Hid ((u1 * 4294967296 + t0) / 18446744073709551608 ≤ q') := by rw [hq'] at hd; exact hd
                  have hci2 : (q : Int) * 4294967288 > 4294967296 * (r : Int) + (t0 : Int) := by omega
                  have b3 : q' ≤ 4294967296 := by omega
                  have e9 : (q : Int) - 1 = (q' : Int) := by omega
                  have hm : q' < q := by omega
                  clear hd hq'
                  by_cases hc3 : 4294967296 ≤ r + 4294967295
                  · have HE : Hid ((u1 * 4294967296 + t0) / 18446744073709551608 = q') := dig_end u1 t0 q' (r + 4294967295) bt0 H3.out H4.out (dig_room b3 hc3)
                    have hci3 : (4294967296 : Int) ≤ (r : Int) + 4294967295 := by omega
                    go_wp2_with fail
                    go_meet
                    exact ⟨by rw [HE.out], rfl⟩
                  · have hci3 : ¬ (4294967296 : Int) ≤ (r : Int) + 4294967295 := by omega
                    go_wp2_with fail
                    go_roundw
                    case rel => exact ⟨q', r + 4294967295, by go_num, by go_num, by first | rfl | trivial, H3, H4, b3, Nat.lt_of_not_le hc3⟩
                    case measure => simp [intOf] <;> omega
                · have HE : Hid ((u1 * 4294967296 + t0) / 18446744073709551608 = q) := dig_end u1 t0 q r bt0 H1.out H2.out (Nat.le_of_not_lt hc2)
                  have hci2 : ¬ (q : Int) * 4294967288 > 4294967296 * (r : Int) + (t0 : Int) := by omega
                  go_wp2_with fail
                  go_meet
                  exact ⟨by rw [HE.out], rfl⟩
          case rest =>
            obtain ⟨rfl, hwc⟩ := hcut
            have hwc := hwc.symm
            subst hwc
            refine hKL2 _ _ ?_
            obtain ⟨Q2, hQ2⟩ : ∃ Q2, Q2 = (u1 * 4294967296 + t0) / 18446744073709551608 := ⟨_, rfl⟩
            rw [← hQ2]
            obtain ⟨R, hR⟩ : ∃ R, R = (u1 * 4294967296 + t0) % 18446744073709551608 := ⟨_, rfl⟩
            have E2 := dig_rem hQ2
            rw [← hR] at E2
            have HFin := dig_fin HU.out HT.out HU1.out hR
            have bR : R < 18446744073709551608 := by rw [hR]; exact Nat.mod_lt _ (by decide)
            have E3 := dig_int HFin
            have HE3 : Hid ((R : Int) / 8 = ((hi : Int) * 18446744073709551616 + (lo : Int)) % 2305843009213693951) := E3
            clear hQ2 hR E1 e7' e8' HD HD2 E3 HFin
            go_wp2
            go_ret2
            refine ⟨⟨.int .u64 (IntKind.u64.wrap (IntKind.u64.wrap ((Q1 : Int) * 4294967296) + (Q2 : Int))), ?_⟩, 0, rfl⟩
            rw [← HE3.out]
            rfl
theorem rem64_any (hi lo : Nat) (hh : hi < 18446744073709551616) (hl : lo < 18446744073709551616) (w : World) :
    Calls Tryd.prog 60 #[.int .u64 hi, .int .u64 lo, .int .u64 2305843009213693951] w fun e w' => e = .returned (.int .u64 (((hi * 18446744073709551616 + lo) % 2305843009213693951 : Nat) : Int)) ∧ ∃ m, w' = w.drewN m := by
  obtain ⟨h', hh'⟩ : ∃ h', h' = hi % 2305843009213693951 := ⟨_, rfl⟩
  obtain ⟨R, hR⟩ : ∃ R, R = (hi * 18446744073709551616 + lo) % 2305843009213693951 := ⟨_, rfl⟩
  have hlt : h' < 2305843009213693951 := by rw [hh']; exact Nat.mod_lt _ (by decide)
  have hd := div64_any h' lo hlt hl w
  have e1 : (hi : Int) % 2305843009213693951 = (h' : Int) := by rw [hh', Int.natCast_emod]; rfl
  have e2 : (h' * 18446744073709551616 + lo) % 2305843009213693951 = R := by
    rw [hR, hh', Nat.add_mod, Nat.mul_mod, Nat.mod_mod, ← Nat.mul_mod, ← Nat.add_mod]
  rw [e2] at hd
  rw [← hR]
  clear e2 hR hh'
  go_enter Tryd.func60, Tryd.ntmps60
  go_wp2_with (go_at_call 64; refine hd.mono ?_; rintro e w1 ⟨⟨v, rfl⟩, g1⟩)
  go_ret
  exact ⟨rfl, g1⟩
theorem times_any (x y : Nat) (hx : x < 18446744073709551616) (hy : y < 18446744073709551616) (w : World) :
    Calls Tryd.prog 44 #[.int .u64 x, .int .u64 y] w fun e w' => e = .returned (.int .u64 ((x * y % 2305843009213693951 : Nat) : Int)) ∧ ∃ m, w' = w.drewN m := by
  have hm := mul64_any x y hx hy w
  have hp : x * y < 18446744073709551616 * 18446744073709551616 := Nat.mul_lt_mul'' hx hy
  have h1 : x * y / 18446744073709551616 < 18446744073709551616 := Nat.div_lt_of_lt_mul hp
  have h2 : x * y % 18446744073709551616 < 18446744073709551616 := Nat.mod_lt _ (by decide)
  have hr := rem64_any (x * y / 18446744073709551616) (x * y % 18446744073709551616) h1 h2 w
  rw [Nat.div_add_mod'] at hr
  generalize x * y / 18446744073709551616 = a at *
  generalize x * y % 18446744073709551616 = b at *
  generalize x * y % 2305843009213693951 = c at *
  go_enter Tryd.func44, Tryd.ntmps44
  go_wp2_with (first
    | (go_at_call 59; refine hm.mono ?_; rintro e w1 ⟨rfl, hw⟩; have hw := hw.symm; subst hw)
    | (go_at_call 60; refine hr.mono ?_; rintro e w1 ⟨rfl, g1⟩))
  go_ret
  exact ⟨rfl, g1⟩
end Go.Proofs.YtaigcjhachkmmaaDoor
