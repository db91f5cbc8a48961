import Derived.Test.YtaigcjhachkmmaaDoorYRd
import Derived.Test.YtaigcjhachkmmaaDoorYNC
namespace Go.Proofs.YtaigcjhachkmmaaDoor
open Go.RowKit
set_option maxRecDepth 100000
set_option linter.unusedVariables false
set_option linter.unusedSimpArgs false
theorem bit64 (M : Nat) (h : M < 2 ^ 63) : bits .and .i64 (M : Int) 1 = ((M % 2 : Nat) : Int) := by
  have := i64_and_nat M 1 h (by decide)
  rw [show ((1 : Nat) : Int) = 1 from rfl] at this
  rw [this, Nat.and_one_is_mod]
theorem dbl_step (a b j P : Nat) : ((a * (b / 2 ^ (j + 1)) % P) * 2 % P + a * (b / 2 ^ j % 2)) % P = a * (b / 2 ^ j) % P := by
  have e : b / 2 ^ j = 2 * (b / 2 ^ (j + 1)) + b / 2 ^ j % 2 := by
    rw [Nat.pow_succ, ← Nat.div_div_eq_div_mul]; omega
  have e2 : a * (b / 2 ^ j) = a * (b / 2 ^ (j + 1)) * 2 + a * (b / 2 ^ j % 2) := by
    rw [Nat.mul_assoc, ← Nat.mul_add, Nat.mul_comm (b / 2 ^ (j + 1)) 2, ← e]
  rw [e2]
  conv => rhs; rw [Nat.add_mod, Nat.mul_mod]
  simp [Nat.add_mod, Nat.mul_mod]
set_option maxHeartbeats 1000000 in
theorem timesP_any (a b : Nat) (ha : a < 2305843009213693951) (hb : b < 2305843009213693951) (w : World) :
    Calls Tryd.prog 39 #[.int .i64 a, .int .i64 b] w fun e w' => e = .returned (.int .i64 (a * b % 2305843009213693951 : Nat)) ∧ w' = w := by
  go_enter Tryd.func39, Tryd.ntmps39
  go_wp2
  go_loop [5, 6] (fun x i => ∃ j : Nat, j ≤ 61 ∧ i = .int .i64 ((j : Int) - 1) ∧ x = .int .i64 (a * (b / 2 ^ j) % 2305843009213693951 : Nat)) (fun _ i => (intOf i + 1).toNat)
  case atStart => exact ⟨61, by omega, rfl, by rw [Nat.div_eq_of_lt (Nat.lt_trans hb (by decide)), Nat.mul_zero]; rfl⟩
  case round =>
    obtain ⟨j, hj, rfl, rfl⟩ := hrel
    cases j with
    | zero =>
      rw [Nat.pow_zero, Nat.div_one]
      obtain ⟨R, hR⟩ : ∃ R, R = a * b % 2305843009213693951 := ⟨_, rfl⟩
      rw [← hR]
      have HR : Hid (R = a * b % 2305843009213693951) := hR
      clear hR
      go_wp2
      go_ret
      exact ⟨congrArg (fun z => Ending.returned (Value.int .i64 z)) (show (R : Int) = _ by rw [HR.out, Int.natCast_emod, Int.natCast_mul]; rfl), rfl⟩
    | succ j =>
      have e1 : ((j + 1 : Nat) : Int) - 1 = (j : Int) := by omega
      rw [e1]
      clear e1
      have hst := dbl_step a b j 2305843009213693951
      obtain ⟨x, hx⟩ : ∃ x, x = a * (b / 2 ^ (j + 1)) % 2305843009213693951 := ⟨_, rfl⟩
      have hxl : x < 2305843009213693951 := by rw [hx]; exact Nat.mod_lt _ (by decide)
      obtain ⟨M, hM⟩ : ∃ M, M = b / 2 ^ j := ⟨_, rfl⟩
      have hMl : M < 2 ^ 63 := by rw [hM]; exact Nat.lt_of_le_of_lt (Nat.div_le_self _ _) (by omega)
      have eM : (b : Int) / 2 ^ j = (M : Int) := by rw [hM, Int.natCast_ediv, Int.natCast_pow]; rfl
      have hbit := bit64 M hMl
      obtain ⟨y, hy⟩ : ∃ y, y = x * 2 % 2305843009213693951 := ⟨_, rfl⟩
      have ey : (x : Int) * 2 % 2305843009213693951 = (y : Int) := by omega
      have ey2 : ((x : Int) * 2).tmod 2305843009213693951 = (y : Int) := by rw [Int.tmod_eq_emod_of_nonneg (by omega)]; exact ey
      have hyl : y < 2305843009213693951 := by omega
      rw [← hx, ← hM, ← hy] at hst
      rw [← hx]
      have HM : Hid (M = b / 2 ^ j) := hM
      clear hx hM hy
      have hj61 : (j : Int) < 64 := by omega
      have hj0 : (0 : Int) ≤ (j : Int) := by omega
      by_cases hb1 : M % 2 = 1
      · rw [hb1] at hbit hst
        obtain ⟨z, hz⟩ : ∃ z, z = (y + a) % 2305843009213693951 := ⟨_, rfl⟩
        have ez : ((y : Int) + (a : Int)) % 2305843009213693951 = (z : Int) := by omega
        have ez2 : ((y : Int) + (a : Int)).tmod 2305843009213693951 = (z : Int) := by rw [Int.tmod_eq_emod_of_nonneg (by omega)]; exact ez
        have HZ : Hid (z = a * M % 2305843009213693951) := by rw [hz, ← hst, Nat.mul_one]; rfl
        have hbit' : bits .and .i64 (M : Int) 1 = 1 := hbit
        clear hst hz hbit
        go_wp2
        go_round
        case rel => exact ⟨j, by omega, by go_num, by rw [← HM.out, ← HZ.out]⟩
        case measure => simp [intOf] <;> omega
      · have hb0 : M % 2 = 0 := by omega
        rw [hb0] at hbit hst
        have HZ : Hid (y = a * M % 2305843009213693951) := by rw [← hst, Nat.mul_zero, Nat.add_zero, Nat.mod_eq_of_lt hyl]; rfl
        have hbit' : bits .and .i64 (M : Int) 1 = 0 := hbit
        clear hst hbit
        go_wp2
        go_round
        case rel => exact ⟨j, by omega, by go_num, by rw [← HM.out, ← HZ.out]⟩
        case measure => simp [intOf] <;> omega
/-- the number of the first i bits -/
def bnN (L : List Nat) : Nat → Nat
  | 0 => 0
  | i + 1 => 2 * bnN L i + nth L (i / 8) / 2 ^ (7 - i % 8) % 2
theorem bnN_part (L : List Nat) (hB : IsB L) (k : Nat) (hk : bnN L (8 * k) = nuN L k) (j : Nat) (hj : j ≤ 8) : bnN L (8 * k + j) = nuN L k * 2 ^ j + nth L k / 2 ^ (8 - j) := by
  induction j with
  | zero =>
    have := hB.nth k
    rw [Nat.add_zero, hk, Nat.pow_zero, Nat.mul_one, Nat.sub_zero, Nat.div_eq_of_lt (by omega : nth L k < 2 ^ 8)]; rfl
  | succ j ih =>
    show 2 * bnN L (8 * k + j) + nth L ((8 * k + j) / 8) / 2 ^ (7 - (8 * k + j) % 8) % 2 = _
    rw [ih (by omega), show (8 * k + j) / 8 = k by omega, show (8 * k + j) % 8 = j by omega, show 8 - (j + 1) = 7 - j by omega, show 8 - j = 7 - j + 1 by omega, Nat.pow_succ 2 (7 - j), ← Nat.div_div_eq_div_mul, Nat.pow_succ 2 j, ← Nat.mul_assoc]
    omega
theorem bnN_all (L : List Nat) (hB : IsB L) (k : Nat) : bnN L (8 * k) = nuN L k := by
  induction k with
  | zero => rfl
  | succ k ih =>
    have := bnN_part L hB k ih 8 (by omega)
    rw [show 8 * (k + 1) = 8 * k + 8 by omega, this]
    show nuN L k * 2 ^ 8 + nth L k / 2 ^ (8 - 8) = nuN L k * 256 + nth L k
    rw [Nat.sub_self, Nat.pow_zero, Nat.div_one]
theorem bit8 (b k : Nat) (hb : b < 256) : bits .and .u8 ((b : Int) / 2 ^ k) 1 = ((b / 2 ^ k % 2 : Nat) : Int) := by
  have h := u8_and_nat (b / 2 ^ k) 1 (Nat.lt_of_le_of_lt (Nat.div_le_self _ _) hb) (by decide)
  rw [show ((1 : Nat) : Int) = 1 from rfl, Int.natCast_ediv, Int.natCast_pow, show ((2 : Nat) : Int) = 2 from rfl] at h
  rw [h, Nat.and_one_is_mod]
set_option maxHeartbeats 1000000 in
theorem modP_any (a : Option Addr) (cap : Nat) (L : List Nat) (w : World) (hp : Rd w a 8 cap L) :
    Calls Tryd.prog 38 #[.slice a 8 cap] w fun e w' => e = .returned (.int .i64 (nuN L 8 % 2305843009213693951 : Nat)) ∧ w' = w := by
  have hB := hp.byte
  obtain ⟨bb, off, rfl, hbw, hcc⟩ := hp.at' (by decide)
  have HE : Hid (bnN L 64 = nuN L 8) := bnN_all L hB 8
  clear hp
  go_enter Tryd.func38, Tryd.ntmps38
  go_wp2
  go_loop [3, 4] (fun x i => ∃ k : Nat, k ≤ 64 ∧ i = .int .i64 (k : Nat) ∧ x = .int .i64 (bnN L k % 2305843009213693951 : Nat)) (fun _ i => 64 - (intOf i).toNat)
  case atStart => exact ⟨0, by omega, rfl, rfl⟩
  case round =>
    obtain ⟨k, hk, rfl, rfl⟩ := hrel
    obtain ⟨x, hx⟩ : ∃ x, x = bnN L k % 2305843009213693951 := ⟨_, rfl⟩
    have hxl : x < 2305843009213693951 := by rw [hx]; exact Nat.mod_lt _ (by decide)
    rw [← hx]
    have HX : Hid (x = bnN L k % 2305843009213693951) := hx
    clear hx
    by_cases hlt : k < 64
    · have c0 := hcc (k / 8) (by omega)
      have hb := hB.nth (k / 8)
      obtain ⟨y, hy⟩ : ∃ y, y = nth L (k / 8) / 2 ^ (7 - k % 8) % 2 := ⟨_, rfl⟩
      have hbit := bit8 (nth L (k / 8)) (7 - k % 8) hb
      rw [← hy] at hbit
      have hyl : y < 2 := by omega
      obtain ⟨z, hz⟩ : ∃ z, z = (2 * x + y) % 2305843009213693951 := ⟨_, rfl⟩
      have ez : (2 * (x : Int) + (y : Int)) % 2305843009213693951 = (z : Int) := by omega
      have ez2 : (2 * (x : Int) + (y : Int)).tmod 2305843009213693951 = (z : Int) := by rw [Int.tmod_eq_emod_of_nonneg (by omega)]; exact ez
      have HZ : Hid (z = bnN L (k + 1) % 2305843009213693951) := by
        show _ = (2 * bnN L k + nth L (k / 8) / 2 ^ (7 - k % 8) % 2) % 2305843009213693951
        rw [hz, HX.out, ← hy]
        simp [Nat.add_mod, Nat.mul_mod]
      have ej : (k : Int).tdiv 8 = ((k / 8 : Nat) : Int) := by rw [Int.tdiv_eq_ediv_of_nonneg (by omega)]; omega
      have es : (k : Int).tmod 8 = ((k % 8 : Nat) : Int) := by rw [Int.tmod_eq_emod_of_nonneg (by omega)]; omega
      obtain ⟨t, ht⟩ : ∃ t, t = 7 - k % 8 := ⟨_, rfl⟩
      have et : (7 : Int) - ((k % 8 : Nat) : Int) = (t : Int) := by omega
      rw [← ht] at hbit
      have ht8 : t < 8 := by omega
      have hj : k / 8 < 8 := by omega
      have hs : k % 8 < 8 := by omega
      clear hy hz hcc ht hB
      generalize nth L (k / 8) = b at *
      obtain ⟨q, hq⟩ : ∃ q, q = k / 8 := ⟨_, rfl⟩
      obtain ⟨r, hr⟩ : ∃ r, r = k % 8 := ⟨_, rfl⟩
      rw [← hq] at c0 ej hj
      rw [← hr] at es et hs
      clear hq hr
      have hki : (k : Int) < 64 := by omega
      have hqi : (q : Int) < 8 := by omega
      go_wp2
      go_round
      case rel => exact ⟨k + 1, by omega, by go_num, by rw [← HZ.out]⟩
      case measure => simp [intOf] <;> omega
    · obtain rfl : k = 64 := by omega
      go_wp2
      go_ret
      refine ⟨congrArg (fun z => Ending.returned (Value.int .i64 z)) (show (x : Int) = _ by rw [HX.out, HE.out]; simp), rfl⟩
end Go.Proofs.YtaigcjhachkmmaaDoor
