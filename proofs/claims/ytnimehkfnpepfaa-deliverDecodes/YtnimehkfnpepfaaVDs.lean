import Derived.Test.YtnimehkfnpepfaaVDa
namespace Go.Proofs.Ytnimehkfnpepfaa
open Go.RowKit
set_option maxRecDepth 100000
set_option linter.unusedVariables false
set_option linter.unusedSimpArgs false

/-- the sum of bytes in groups of four -/
def smT (D : List Nat) : Nat → Nat
  | 0 => 0
  | k + 1 => smT D k + nth D k * 2 ^ (24 - 8 * (k % 4))
set_option maxHeartbeats 8000000 in
theorem dsum_any (a : Option Addr) (n c : Nat) (D : List Nat) (w : World) (hD : Rd w a n c D) :
    Calls Try.prog 19 #[.slice a n c] w fun e w' => e = .returned (.int .i64 (smT D n % 4294967296 : Nat)) ∧ w' = w := by
  have hmx := hD.max
  have hle := hD.le
  unfold maxLen at hmx
  go_enter Try.func19, Try.ntmps19
  go_wp2
  go_loopw [3, 8] (fun sv iv wr => ∃ k : Nat, k ≤ n ∧ iv = .int .i64 k ∧ sv = .int .u32 (smT D k % 4294967296 : Nat) ∧ Hid (wr = w)) (fun _ iv _ => n - (intOf iv).toNat)
  case atStart => exact ⟨0, Nat.zero_le _, rfl, rfl, rfl⟩
  case round =>
    obtain ⟨k, hk, rfl, rfl, hwr⟩ := hrel
    have hwr := hwr.out
    subst hwr
    by_cases hlt : k < n
    · obtain ⟨b, off, rfl, hb, hc⟩ := hD.at' (by omega)
      have ck := hc k hlt
      have lk : (k : Int) < (n : Int) := by omega
      have hv := hD.byte.nth k
      have hr : k % 4 = 0 ∨ k % 4 = 1 ∨ k % 4 = 2 ∨ k % 4 = 3 := by omega
      rcases hr with hr | hr | hr | hr
      · have e4 : (k : Int) % 4 = 0 := by omega
        have e5 : (k : Int).tmod 4 = 0 := by rw [Int.tmod_eq_emod_of_nonneg (by omega)]; omega
        have hs : smT D (k + 1) = smT D k + nth D k * 16777216 := by show _ + _ * 2 ^ (24 - 8 * (k % 4)) = _; rw [hr]
        have HS : Hid _ := hs
        clear hs
        go_wp2
        go_roundw
        case rel => exact ⟨k + 1, by omega, by go_num, by rw [HS.out]; congr 1 <;> omega, (by first | exact rfl | exact trivial)⟩
        case measure => simp [intOf] <;> omega
      · have e4 : (k : Int) % 4 = 1 := by omega
        have e5 : (k : Int).tmod 4 = 1 := by rw [Int.tmod_eq_emod_of_nonneg (by omega)]; omega
        have hs : smT D (k + 1) = smT D k + nth D k * 65536 := by show _ + _ * 2 ^ (24 - 8 * (k % 4)) = _; rw [hr]
        have HS : Hid _ := hs
        clear hs
        go_wp2
        go_roundw
        case rel => exact ⟨k + 1, by omega, by go_num, by rw [HS.out]; congr 1 <;> omega, (by first | exact rfl | exact trivial)⟩
        case measure => simp [intOf] <;> omega
      · have e4 : (k : Int) % 4 = 2 := by omega
        have e5 : (k : Int).tmod 4 = 2 := by rw [Int.tmod_eq_emod_of_nonneg (by omega)]; omega
        have hs : smT D (k + 1) = smT D k + nth D k * 256 := by show _ + _ * 2 ^ (24 - 8 * (k % 4)) = _; rw [hr]
        have HS : Hid _ := hs
        clear hs
        go_wp2
        go_roundw
        case rel => exact ⟨k + 1, by omega, by go_num, by rw [HS.out]; congr 1 <;> omega, (by first | exact rfl | exact trivial)⟩
        case measure => simp [intOf] <;> omega
      · have e4 : (k : Int) % 4 = 3 := by omega
        have e5 : (k : Int).tmod 4 = 3 := by rw [Int.tmod_eq_emod_of_nonneg (by omega)]; omega
        have hs : smT D (k + 1) = smT D k + nth D k * 1 := by show _ + _ * 2 ^ (24 - 8 * (k % 4)) = _; rw [hr]
        have HS : Hid _ := hs
        clear hs
        go_wp2
        go_roundw
        case rel => exact ⟨k + 1, by omega, by go_num, by rw [HS.out]; congr 1 <;> omega, (by first | exact rfl | exact trivial)⟩
        case measure => simp [intOf] <;> omega
    · obtain rfl : k = n := by omega
      have lk : ¬ (k : Int) < (k : Int) := by omega
      go_wp2
      go_ret
      exact ⟨rfl, rfl⟩
theorem and_32z (z : Int) : bits .and .i64 z 4294967295 = z % 4294967296 := by
  show IntKind.i64.wrap ((BitVec.ofInt 64 z &&& BitVec.ofInt 64 4294967295).toNat : Int) = _
  have e1 : ((BitVec.ofInt 64 z).toNat : Int) = z % 18446744073709551616 := by rw [BitVec.toNat_ofInt]; omega
  have e2 : (BitVec.ofInt 64 4294967295).toNat = 4294967295 := by decide
  rw [BitVec.toNat_and, e2, show (4294967295 : Nat) = 2 ^ 32 - 1 by decide, Nat.and_two_pow_sub_one_eq_mod]
  rw [wrap_i64_in _ (by omega) (by omega)]
  omega
set_option maxHeartbeats 8000000 in
theorem fsum_any (a : Option Addr) (n c : Nat) (D : List Nat) (w : World) (hD : Rd w a n c D) :
    Calls Try.prog 20 #[.slice a n c] w fun e w' => e = .returned (.int .i64 (smT D n % 4294967296 : Nat)) ∧ w' = w := by
  have hmx := hD.max
  have hle := hD.le
  unfold maxLen at hmx
  go_enter Try.func20, Try.ntmps20
  go_wp2
  go_loopw [3, 4] (fun sv iv wr => ∃ k : Nat, k ≤ n ∧ iv = .int .i64 k ∧ (∃ z : Int, sv = .int .i64 z ∧ z % 4294967296 = (smT D k : Int) % 4294967296) ∧ Hid (wr = w)) (fun _ iv _ => n - (intOf iv).toNat)
  case atStart => exact ⟨0, Nat.zero_le _, rfl, ⟨0, rfl, rfl⟩, rfl⟩
  case round =>
    obtain ⟨k, hk, rfl, ⟨z, rfl, hz⟩, hwr⟩ := hrel
    have HZ : Hid _ := hz
    clear hz
    have hwr := hwr.out
    subst hwr
    by_cases hlt : k < n
    · obtain ⟨b, off, rfl, hb, hc⟩ := hD.at' (by omega)
      have ck := hc k hlt
      have lk : (k : Int) < (n : Int) := by omega
      have hv := hD.byte.nth k
      have hr : k % 4 = 0 ∨ k % 4 = 1 ∨ k % 4 = 2 ∨ k % 4 = 3 := by omega
      rcases hr with hr | hr | hr | hr
      · have e4 : (k : Int) % 4 = 0 := by omega
        have e5 : (k : Int).tmod 4 = 0 := by rw [Int.tmod_eq_emod_of_nonneg (by omega)]; omega
        have hs : smT D (k + 1) = smT D k + nth D k * 16777216 := by show _ + _ * 2 ^ (24 - 8 * (k % 4)) = _; rw [hr]
        have HS : Hid _ := hs
        clear hs
        go_wp2
        go_roundw
        case rel => exact ⟨k + 1, by omega, by go_num, ⟨_, rfl, by rw [HS.out]; have h9 := HZ.out; first | omega | (simp only [wrap64]; omega) | (trace_state; omega)⟩, (by first | exact rfl | exact trivial)⟩
        case measure => simp [intOf] <;> omega
      · have e4 : (k : Int) % 4 = 1 := by omega
        have e5 : (k : Int).tmod 4 = 1 := by rw [Int.tmod_eq_emod_of_nonneg (by omega)]; omega
        have hs : smT D (k + 1) = smT D k + nth D k * 65536 := by show _ + _ * 2 ^ (24 - 8 * (k % 4)) = _; rw [hr]
        have HS : Hid _ := hs
        clear hs
        go_wp2
        go_roundw
        case rel => exact ⟨k + 1, by omega, by go_num, ⟨_, rfl, by rw [HS.out]; have h9 := HZ.out; first | omega | (simp only [wrap64]; omega) | (trace_state; omega)⟩, (by first | exact rfl | exact trivial)⟩
        case measure => simp [intOf] <;> omega
      · have e4 : (k : Int) % 4 = 2 := by omega
        have e5 : (k : Int).tmod 4 = 2 := by rw [Int.tmod_eq_emod_of_nonneg (by omega)]; omega
        have hs : smT D (k + 1) = smT D k + nth D k * 256 := by show _ + _ * 2 ^ (24 - 8 * (k % 4)) = _; rw [hr]
        have HS : Hid _ := hs
        clear hs
        go_wp2
        go_roundw
        case rel => exact ⟨k + 1, by omega, by go_num, ⟨_, rfl, by rw [HS.out]; have h9 := HZ.out; first | omega | (simp only [wrap64]; omega) | (trace_state; omega)⟩, (by first | exact rfl | exact trivial)⟩
        case measure => simp [intOf] <;> omega
      · have e4 : (k : Int) % 4 = 3 := by omega
        have e5 : (k : Int).tmod 4 = 3 := by rw [Int.tmod_eq_emod_of_nonneg (by omega)]; omega
        have hs : smT D (k + 1) = smT D k + nth D k * 1 := by show _ + _ * 2 ^ (24 - 8 * (k % 4)) = _; rw [hr]
        have HS : Hid _ := hs
        clear hs
        go_wp2
        go_roundw
        case rel => exact ⟨k + 1, by omega, by go_num, ⟨_, rfl, by rw [HS.out]; have h9 := HZ.out; first | omega | (simp only [wrap64]; omega) | (trace_state; omega)⟩, (by first | exact rfl | exact trivial)⟩
        case measure => simp [intOf] <;> omega
    · obtain rfl : k = n := by omega
      have lk : ¬ (k : Int) < (k : Int) := by omega
      have ham := and_32z z
      go_wp2
      go_ret
      refine ⟨?_, rfl⟩
      rw [← HZ.out]
      rfl
end Go.Proofs.Ytnimehkfnpepfaa
