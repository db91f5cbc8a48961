import Derived.Test.YtemlkgllbioigaaFInt
namespace Go.Proofs.Ytemlkgllbioigaa
open Go.RowKit
set_option maxRecDepth 100000
theorem ring_walk (a b c : Nat) (ha : a < 256) (hb : b < 256) (hc : c < 256) (w : World) :
    Calls Try.prog 7 #[.int .u8 a, .int .u8 b, .int .u8 c] w fun e w' => e = .returned (.bool true) ∧ w' = w := by
  have e1 : (mulI a 1 != (a : Int)) = false := by
    have : mulI a ((1 : Nat) : Int) = a := by rw [mulI_nat, Fld.mul_one ha]
    simpa using this
  have e2 : (mulI a 0 != 0) = false := by
    have : mulI a ((0 : Nat) : Int) = 0 := by rw [mulI_nat, Fld.mul_zero]; rfl
    simpa using this
  have f1 : (mulI a b != mulI b a) = false := by rw [mulI_nat, mulI_nat, Fld.mul_comm ha hb]; simp
  have f2 : (mulI (mulI a b) c != mulI a (mulI b c)) = false := by rw [mulI_nat, mulI_nat, mulI_nat, mulI_nat, Fld.mul_assoc ha hb hc]; simp
  have hx := u8_xor_nat b c hb hc
  have f3 : (mulI a (b ^^^ c : Nat) != bits .xor .u8 (mulI a b) (mulI a c)) = false := by
    rw [mulI_nat, mulI_nat, mulI_nat, u8_xor_nat _ _ (Fld.mul_lt _ ha) (Fld.mul_lt _ ha), Fld.mul_xor_right]; simp
  have hbc := Fld.xor_lt hb hc
  obtain ⟨m1, m2⟩ := mulI_bd a b (by omega) (by omega)
  obtain ⟨m3, m4⟩ := mulI_bd b c (by omega) (by omega)
  obtain ⟨d1, d2⟩ := divI_bd a b (by omega) (by omega)
  obtain ⟨d3, d4⟩ := divI_bd 1 b (by omega) (by omega)
  by_cases h0 : b = 0
  · have g1 : ((b : Int) == 0) = true := by rw [h0]; rfl
    have g2 : nzB b = false := by rw [h0]; rfl
    have g3 : (divI a b == 0) = true := by rw [h0]; rfl
    clear h0
    go_enter Try.func7, Try.ntmps7
    go_wp2_with (first | (go_at_call 17; refine (mul_int _ _ _ (by omega) (by omega) (by omega) (by omega)).mono ?_; rintro e w' ⟨rfl, rfl⟩) | (go_at_call 13; refine (div_int _ _ _ (by omega) (by omega) (by omega) (by omega)).mono ?_; rintro e w' ⟨rfl, rfl⟩))
    go_ret
    exact ⟨rfl, rfl⟩
  · have g1 : ((b : Int) == 0) = false := by simp; omega
    have g2 : nzB b = true := by simp [nzB, h0]
    have g3 : (mulI (divI a b) b == (a : Int)) = true := by
      have := divV_back a b ha hb h0
      show (mulI ((divV a b : Nat) : Int) b == (a : Int)) = true
      rw [mulI_nat, this]; simp
    have g4 : (mulI (divI 1 b) b == 1) = true := by
      have := divV_back 1 b (by decide) hb h0
      show (mulI ((divV 1 b : Nat) : Int) b == 1) = true
      rw [mulI_nat, this]; rfl
    clear h0
    go_enter Try.func7, Try.ntmps7
    go_wp2_with (first | (go_at_call 17; refine (mul_int _ _ _ (by omega) (by omega) (by omega) (by omega)).mono ?_; rintro e w' ⟨rfl, rfl⟩) | (go_at_call 13; refine (div_int _ _ _ (by omega) (by omega) (by omega) (by omega)).mono ?_; rintro e w' ⟨rfl, rfl⟩))
    go_ret
    exact ⟨rfl, rfl⟩

theorem numbers_walk (a b n : Int) (ha : 0 ≤ a) (ha' : a < 256) (hb : 0 ≤ b) (hb' : b < 256) (h1 : -9223372036854775808 ≤ n) (h2 : n ≤ 9223372036854775807) (w : World) :
    Calls Try.prog 3 #[.int .u8 a, .int .u8 b, .int .i64 n] w fun e w' => e = .returned (.bool true) ∧ w' = w := by
  go_enter Try.func3, Try.ntmps3
  go_wp2_with (first | (go_at_call 13; refine (div_int _ _ _ ha ha' hb hb').mono ?_; rintro e w' ⟨rfl, rfl⟩) | (go_at_call 14; refine (rdiv_int _ _ _ ha ha' hb hb').mono ?_; rintro e w' ⟨rfl, rfl⟩) | (go_at_call 15; refine (log_int _ _ ha ha').mono ?_; rintro e w' ⟨rfl, rfl⟩) | (go_at_call 16; refine (rlog_int _ _ ha ha').mono ?_; rintro e w' ⟨rfl, rfl⟩) | (go_at_call 17; refine (mul_int _ _ _ ha ha' hb hb').mono ?_; rintro e w' ⟨rfl, rfl⟩) | (go_at_call 18; refine (rmul_int _ _ _ ha ha' hb hb').mono ?_; rintro e w' ⟨rfl, rfl⟩) | (go_at_call 19; refine (power_any _ _ h1 h2).mono ?_; rintro e w' ⟨rfl, rfl⟩) | (go_at_call 20; refine (rpower_any _ _ h1 h2).mono ?_; rintro e w' ⟨rfl, rfl⟩))
  go_ret
  exact ⟨rfl, rfl⟩

theorem tmod_bd (n : Int) (m : Int) (hm : 0 < m) : -m < n.tmod m ∧ n.tmod m < m := by
  rcases Int.lt_or_le n 0 with h | h
  · have e : n = -(-n) := by omega
    have h1 := Int.emod_nonneg (-n) (show m ≠ 0 by omega)
    have h2 := Int.emod_lt_of_pos (-n) hm
    rw [e, Int.neg_tmod, Int.tmod_eq_emod_of_nonneg (by omega)]; omega
  · have h1 := Int.emod_nonneg n (show m ≠ 0 by omega)
    have h2 := Int.emod_lt_of_pos n hm
    rw [Int.tmod_eq_emod_of_nonneg h]; omega
theorem tmod_255 (n : Int) : (n.tmod 255 < 0 → n % 255 = n.tmod 255 + 255) ∧ (¬ n.tmod 255 < 0 → n % 255 = n.tmod 255) := by
  rcases Int.lt_or_le n 0 with h | h
  · have e : n.tmod 255 = -((-n) % 255) := by
      have e : n = -(-n) := by omega
      rw [e, Int.neg_tmod, Int.tmod_eq_emod_of_nonneg (by omega)]; omega
    omega
  · have e : n.tmod 255 = n % 255 := Int.tmod_eq_emod_of_nonneg h
    omega
theorem pow2_mul (n m : Int) : Fld.mul (pow2 n) (pow2 m) = pow2 (n + m) := by
  unfold pow2
  rw [Fld.pow_mul, ← Fld.dblN_mod]
  congr 1
  omega
theorem logs_walk (n m : Int) (w : World) :
    Calls Try.prog 8 #[.int .i64 n, .int .i64 m] w fun e w' => e = .returned (.bool true) ∧ w' = w := by
  obtain ⟨bn1, bn2⟩ := tmod_bd n 100000 (by decide)
  obtain ⟨bm1, bm2⟩ := tmod_bd m 100000 (by decide)
  obtain ⟨N, hN⟩ : ∃ N, N = n.tmod 100000 := ⟨_, rfl⟩
  obtain ⟨M, hM⟩ : ∃ M, M = m.tmod 100000 := ⟨_, rfl⟩
  rw [← hN] at bn1 bn2
  rw [← hM] at bm1 bm2
  have hn : n.tmod 100000 = N := hN.symm
  have hm : m.tmod 100000 = M := hM.symm
  clear hN hM
  have lV : logI (pow2 N : Nat) = N % 255 := by
    show ((logV (Fld.dblN (N % 255).toNat 1) : Nat) : Int) = _
    rw [logV_pow _ (by omega)]; omega
  have f1 : ((pow2 N : Int) != 0) = true := by
    have : pow2 N ≠ 0 := Fld.pow_ne_zero (N % 255).toNat
    simp; omega
  have f1' : nzB (pow2 N : Nat) = true := by
    have : pow2 N ≠ 0 := Fld.pow_ne_zero (N % 255).toNat
    simp [nzB, this]
  have f1'' : nzB 0 = false := rfl
  have f2 : ((pow2 0 : Int) == 1) = true := by decide
  have f3 : (mulI (pow2 N : Nat) (pow2 M : Nat) == (pow2 (N + M) : Int)) = true := by rw [mulI_nat, pow2_mul]; simp
  have ln := pow2_lt N
  have lm := pow2_lt M
  obtain ⟨t1, t2⟩ := tmod_255 N
  obtain ⟨c1, c2⟩ := tmod_bd N 255 (by decide)
  by_cases h0 : N.tmod 255 < 0
  · have f4 : (logI (pow2 N : Nat) == N.tmod 255 + 255) = true := by rw [lV, t1 h0]; simp
    clear t1 t2 lV
    go_enter Try.func8, Try.ntmps8
    go_wp2_with (first | (go_at_call 19; refine (power_any _ _ (by omega) (by omega)).mono ?_; rintro e w' ⟨rfl, rfl⟩) | (go_at_call 15; refine (log_int _ _ (by omega) (by omega)).mono ?_; rintro e w' ⟨rfl, rfl⟩) | (go_at_call 17; refine (mul_int _ _ _ (by omega) (by omega) (by omega) (by omega)).mono ?_; rintro e w' ⟨rfl, rfl⟩))
    go_ret
    exact ⟨rfl, rfl⟩
  · have f4 : (logI (pow2 N : Nat) == N.tmod 255) = true := by rw [lV, t2 h0]; simp
    clear t1 t2 lV
    go_enter Try.func8, Try.ntmps8
    go_wp2_with (first | (go_at_call 19; refine (power_any _ _ (by omega) (by omega)).mono ?_; rintro e w' ⟨rfl, rfl⟩) | (go_at_call 15; refine (log_int _ _ (by omega) (by omega)).mono ?_; rintro e w' ⟨rfl, rfl⟩) | (go_at_call 17; refine (mul_int _ _ _ (by omega) (by omega) (by omega) (by omega)).mono ?_; rintro e w' ⟨rfl, rfl⟩))
    go_ret
    exact ⟨rfl, rfl⟩
end Go.Proofs.Ytemlkgllbioigaa
