import Derived.Test.YtlmddjkplnbadaaKxNs
import Derived.Test.YtlmddjkplnbadaaPDec
namespace Go.Proofs.Ytlmddjkplnbadaa
open Go.RowKit
set_option maxRecDepth 100000
set_option linter.unusedVariables false
set_option linter.unusedSimpArgs false

/-- the number that bytes tell -/
def nuN (L : List Nat) : Nat → Nat
  | 0 => 0
  | k + 1 => nuN L k * 256 + nth L k
def numB (L : List Nat) : Nat := nuN L L.length
theorem nuN_lt {L : List Nat} (h : IsB L) (k : Nat) : nuN L k < 256 ^ k := by
  induction k with
  | zero => exact Nat.one_pos
  | succ k ih => have := h.nth k; show nuN L k * 256 + nth L k < 256 ^ (k + 1); rw [Nat.pow_succ]; omega
set_option maxHeartbeats 1000000 in
theorem number_any (a : Option Addr) (n cap : Nat) (L : List Nat) (w : World) (h : Rd w a n cap L) (hn : n ≤ 4) :
    Calls Try.prog 47 #[.slice a n cap] w fun e w' => e = .returned (.int .i64 (numB L : Nat)) ∧ w' = w := by
  have HL : Hid (numB L = nuN L n) := by show _ = _; unfold numB; rw [h.len]
  go_enter Try.func47, Try.ntmps47
  go_wp2
  go_loop [3, 8] (fun s i => ∃ k : Nat, k ≤ n ∧ i = .int .i64 k ∧ s = .int .i64 (nuN L k : Nat)) (fun _ i => n - (intOf i).toNat)
  case atStart => exact ⟨0, by omega, rfl, rfl⟩
  case round =>
    obtain ⟨k, hk, rfl, rfl⟩ := hrel
    by_cases hlt : k < n
    · obtain ⟨b, off, rfl, hbw, hcc⟩ := h.at' (by omega)
      have hlk := hcc k hlt
      have hB : nth L k < 256 := h.byte.nth k
      have h1 := nuN_lt h.byte k
      have h2 : (256 : Nat) ^ k ≤ 256 ^ 3 := Nat.pow_le_pow_right (by decide) (by omega)
      have h3 : nuN L k < 16777216 := Nat.lt_of_lt_of_le h1 h2
      have HS : Hid (nuN L (k + 1) = nuN L k * 256 + nth L k) := show _ = _ from rfl
      have hv : bits .or .i64 ((nuN L k : Int) * 256) (nth L k : Int) = ((nuN L k * 256 + nth L k : Nat) : Int) := by
        have := or_put (nuN L k) (nth L k) 8 (by omega) (by omega) (by omega)
        simpa using this
      clear h1 h2 hcc
      go_wp2
      go_round
      case rel => exact ⟨k + 1, by omega, by go_num, by rw [HS.out]; rfl⟩
      case measure => simp [intOf]; omega
    · obtain rfl : k = n := by omega
      go_wp2
      go_ret
      exact ⟨by rw [HL.out]; rfl, rfl⟩
theorem and_name : ∀ h, h < 256 → ∀ l, l < 256 → (h * 256 + l) &&& 49153 = (h * 256 + l) / 16384 * 16384 + l % 2 := by decide +kernel
theorem and_first : ∀ h, h < 256 → ∀ l, l < 256 → (h * 256 + l) &&& 63488 = (h * 256 + l) / 2048 * 2048 := by decide +kernel
theorem name_and (x : Nat) (h : x < 65536) : bits .and .i64 (x : Int) 49153 = ((x / 16384 * 16384 + x % 2 : Nat) : Int) := by
  have e := and_name (x / 256) (by omega) (x % 256) (by omega)
  rw [show x / 256 * 256 + x % 256 = x by omega] at e
  refine (i64_and_nat x 49153 (by omega) (by decide)).trans ?_
  rw [e]; omega
theorem first_and (x : Nat) (h : x < 65536) : bits .and .i64 (x : Int) 63488 = ((x / 2048 * 2048 : Nat) : Int) := by
  have e := and_first (x / 256) (by omega) (x % 256) (by omega)
  rw [show x / 256 * 256 + x % 256 = x by omega] at e
  refine (i64_and_nat x 63488 (by omega) (by decide)).trans ?_
  rw [e]
theorem low_and (x k : Nat) (h : x < 2 ^ 62) (hk : k ≤ 16) : bits .and .i64 (x : Int) ((2 ^ k - 1 : Nat) : Int) = ((x % 2 ^ k : Nat) : Int) := by
  have : (2 : Nat) ^ k ≤ 2 ^ 16 := Nat.pow_le_pow_right (by decide) hk
  rw [i64_and_nat x (2 ^ k - 1) (by omega) (by omega), Nat.and_two_pow_sub_one_eq_mod]
end Go.Proofs.Ytlmddjkplnbadaa
