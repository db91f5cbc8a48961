import Derived.Test.YthdjpbfknbafgaaKxTm
namespace Go.Proofs.Ythdjpbfknbafgaa
open Go.RowKit
set_option maxRecDepth 100000
set_option linter.unusedVariables false
set_option linter.unusedSimpArgs false

/-- is bit i of a mark at q wrong? how many of the first k are? -/
def badN (B : List Nat) (q : Nat) (t : Bool) (i : Nat) : Nat := if nth B (q + i) % 2 = (if t then 1 - mkN i else mkN i) then 0 else 1
def cntW (B : List Nat) (q : Nat) (t : Bool) : Nat → Nat
  | 0 => 0
  | k + 1 => cntW B q t k + badN B q t k
theorem badN_le (B : List Nat) (q : Nat) (t : Bool) (i : Nat) : badN B q t i ≤ 1 := by
  unfold badN
  by_cases h : nth B (q + i) % 2 = (if t then 1 - mkN i else mkN i)
  · rw [if_pos h]; decide
  · rw [if_neg h]; decide
theorem cntW_le (B : List Nat) (q : Nat) (t : Bool) (k : Nat) : cntW B q t k ≤ k := by
  induction k with
  | zero => exact Nat.le_refl _
  | succ k ih => have := badN_le B q t k; show cntW B q t k + badN B q t k ≤ _; omega
theorem and_one : ∀ b : Nat, b < 256 → bits .and .u8 (b : Int) 1 = ((b % 2 : Nat) : Int) := by decide +kernel
theorem xor_one : ∀ b : Nat, b < 2 → bits .xor .u8 (b : Int) 1 = ((1 - b : Nat) : Int) := by decide +kernel
set_option maxHeartbeats 4000000 in
theorem rwrong_in (a : Option Addr) (n cap q : Nat) (t : Bool) (B : List Nat) (w : World) (hp : Rd w a n cap B) (hn : n ≤ 140737488351232) (hq : q + 32 ≤ n) :
    Calls Try.prog 19 #[.slice a n cap, .int .i64 q, .bool t] w fun e w' => e = .returned (.int .i64 (cntW B q t 32 : Nat)) ∧ w' = w := by
  have hq' : ¬ (n : Int) < (q : Int) + 32 := by omega
  go_enter Try.func19, Try.ntmps19
  go_wp2
  go_loop [7, 8] (fun c i => ∃ k : Nat, k ≤ 32 ∧ i = .int .i64 k ∧ c = .int .i64 (cntW B q t k : Nat)) (fun _ i => 32 - (intOf i).toNat)
  case atStart => exact ⟨0, by omega, rfl, rfl⟩
  case round =>
    obtain ⟨k, hk, rfl, rfl⟩ := hrel
    by_cases hlt : k < 32
    · obtain ⟨b, off, rfl, hbw, hcc⟩ := hp.at' (by omega)
      have hck := hcc (q + k) (by omega)
      have hbl := hp.byte.nth (q + k)
      have hcl := cntW_le B q t k
      obtain ⟨m, hm⟩ : ∃ m, m = mkN k := ⟨_, rfl⟩
      have hml : m < 2 := by rw [hm]; exact mkN_lt k
      obtain ⟨p, hpk⟩ : ∃ p : Nat, p = 31 - k := ⟨_, rfl⟩
      have hs : (31 : Int) - (k : Int) = (p : Int) := by omega
      have hmk := mark_fact p (by omega)
      have HMk : Hid (449838109 / 2 ^ p % 2 = m) := by show _ = _; rw [hm, hpk]; rfl
      rw [HMk.out] at hmk
      have hp32 : p < 32 := by omega
      have ha := and_one (nth B (q + k)) hbl
      have hx := xor_one m hml
      obtain ⟨v, hv⟩ : ∃ v, v = nth B (q + k) % 2 := ⟨_, rfl⟩
      rw [← hv] at ha
      have HC : Hid (cntW B q t (k + 1) = cntW B q t k + if v = (if t then 1 - m else m) then 0 else 1) := by
        show _ = _
        rw [hv, hm]; rfl
      have hqn : q + k < n := by omega
      clear hm hpk hv hcc hp
      cases t
      · by_cases hvm : v = m
        · have hc1 : ((v : Int) == (m : Int)) = true := by simp; omega
          simp only [Bool.false_eq_true, if_false, hvm, if_true, Nat.add_zero] at HC
          subst hvm
          go_wp2
          go_round
          case rel => exact ⟨k + 1, by omega, by go_num, by rw [HC.out]⟩
          case measure => simp [intOf]; omega
        · have hc1 : ((v : Int) == (m : Int)) = false := by simp; omega
          simp only [Bool.false_eq_true, if_false, if_neg hvm] at HC
          go_wp2
          go_round
          case rel => exact ⟨k + 1, by omega, by go_num, by rw [HC.out]; exact congrArg _ (by omega)⟩
          case measure => simp [intOf]; omega
      · by_cases hvm : v = 1 - m
        · have hc1 : ((v : Int) == ((1 - m : Nat) : Int)) = true := by simp; omega
          simp only [if_true, if_pos hvm, Nat.add_zero] at HC
          subst hvm
          go_wp2
          go_round
          case rel => exact ⟨k + 1, by omega, by go_num, by rw [HC.out]⟩
          case measure => simp [intOf]; omega
        · have hc1 : ((v : Int) == ((1 - m : Nat) : Int)) = false := by simp; omega
          simp only [if_true, if_neg hvm] at HC
          go_wp2
          go_round
          case rel => exact ⟨k + 1, by omega, by go_num, by rw [HC.out]; exact congrArg _ (by omega)⟩
          case measure => simp [intOf]; omega
    · obtain rfl : k = 32 := by omega
      go_wp2
      go_ret
      exact ⟨rfl, rfl⟩
/-- 'wrong' of the document, at whatever place -/
def rwV (B : List Nat) (z : Int) (t : Bool) : Nat := if z < 0 ∨ (B.length : Int) < z + 32 then 99 else cntW B z.toNat t 32
theorem rwrong_any (a : Option Addr) (n cap : Nat) (z : Int) (t : Bool) (B : List Nat) (w : World) (hp : Rd w a n cap B) (hn : n ≤ 140737488351232) (hz1 : -1000 ≤ z) (hz2 : z ≤ 1152921504606846976) :
    Calls Try.prog 19 #[.slice a n cap, .int .i64 z, .bool t] w fun e w' => e = .returned (.int .i64 (rwV B z t : Nat)) ∧ w' = w := by
  by_cases h0 : z < 0
  · have e : rwV B z t = 99 := by unfold rwV; rw [if_pos (.inl h0)]
    rw [e]
    have h0' : decide (z < 0) = true := decide_eq_true h0
    go_enter Try.func19, Try.ntmps19
    go_wp2
    go_ret
    exact ⟨rfl, rfl⟩
  · by_cases h1 : (n : Int) < z + 32
    · have e : rwV B z t = 99 := by unfold rwV; rw [hp.len, if_pos (.inr h1)]
      rw [e]
      have h0' : decide (z < 0) = false := decide_eq_false h0
      go_enter Try.func19, Try.ntmps19
      go_wp2
      go_ret
      exact ⟨rfl, rfl⟩
    · obtain ⟨q, rfl⟩ := Int.eq_ofNat_of_zero_le (a := z) (by omega)
      have e : rwV B (q : Int) t = cntW B q t 32 := by unfold rwV; rw [hp.len, if_neg (by omega), Int.toNat_natCast]
      rw [e]
      exact rwrong_in a n cap q t B w hp hn (by omega)
end Go.Proofs.Ythdjpbfknbafgaa
