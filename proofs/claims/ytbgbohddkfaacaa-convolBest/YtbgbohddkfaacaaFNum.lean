import Derived.Test.YtbgbohddkfaacaaRows
import Derived.Test.YtbgbohddkfaacaaFMath
import Derived.WalkKit
import Derived.WalkSpells
import Derived.WalkLawsBesides
import Derived.Laws.BitsAllLaws
import Derived.Outline
namespace Go.Proofs.Ytbgbohddkfaacaa
open Go.RowKit
set_option maxRecDepth 100000

theorem ret_int {k : IntKind} {a b : Int} (h : a = b) : Ending.returned (.int k a) = .returned (.int k b) := by rw [h]
theorem val_int {k : IntKind} {a b : Int} (h : a = b) : Value.int k a = .int k b := by rw [h]

theorem dbl_hi (a : Nat) (h : ¬ a < 128) : bits .xor .u8 ((a : Int) * 2 % 256) 135 = (Fld.dbl a : Int) := by
  have e : ((a : Int) * 2 % 256) = ((2 * a % 256 : Nat) : Int) := by omega
  rw [e]
  refine (u8_xor_nat (2 * a % 256) 135 (by omega) (by decide)).trans ?_
  unfold Fld.dbl
  rw [if_neg h]
theorem whole_one (x : Int) (hx : x = 1) (w : World) :
    Calls Try.prog 68 #[.int .u8 x] w fun e w' => e = .returned (.int .u8 255) ∧ w' = w := by
  subst hx
  go_enter Try.func68, Try.ntmps68
  go_wp2
  go_ret
  exact ⟨ret_int (by decide), rfl⟩
theorem whole_nought (x : Int) (hx : x = 0) (w : World) :
    Calls Try.prog 68 #[.int .u8 x] w fun e w' => e = .returned (.int .u8 0) ∧ w' = w := by
  subst hx
  go_enter Try.func68, Try.ntmps68
  go_wp2
  go_ret
  exact ⟨ret_int (by decide), rfl⟩
theorem dbl_lo (a : Nat) (h : a < 128) : bits .xor .u8 ((a : Int) * 2) (bits .and .u8 135 0) = (Fld.dbl a : Int) := by
  have e : ((a : Int) * 2) = ((2 * a : Nat) : Int) := by omega
  have e0 : bits .and .u8 135 0 = ((0 : Nat) : Int) := by decide
  rw [e, e0]
  refine (u8_xor_nat (2 * a) 0 (by omega) (by decide)).trans ?_
  unfold Fld.dbl
  rw [if_pos h, Nat.xor_zero]
theorem double_any (a : Nat) (h : a < 256) (w : World) :
    Calls Try.prog 69 #[.int .u8 a] w fun e w' => e = .returned (.int .u8 (Fld.dbl a)) ∧ w' = w := by
  by_cases h1 : a < 128
  · go_enter Try.func69, Try.ntmps69
    go_wp2_with (go_at_call 68; refine (whole_nought _ (by omega) _).mono ?_; rintro e w' ⟨rfl, rfl⟩)
    go_ret
    exact ⟨ret_int (dbl_lo a h1), rfl⟩
  · go_enter Try.func69, Try.ntmps69
    go_wp2_with (go_at_call 68; refine (whole_one _ (by omega) _).mono ?_; rintro e w' ⟨rfl, rfl⟩)
    go_ret
    exact ⟨ret_int (dbl_hi a h1), rfl⟩

theorem bit_u8 (b k : Nat) (hb : b < 256) : (bits .and .u8 ((b : Int) / 2 ^ k) 1 == 1) = b.testBit k := by
  have e : ((b : Int) / 2 ^ k) = ((b / 2 ^ k : Nat) : Int) := by simp
  have hl : b / 2 ^ k < 256 := Nat.lt_of_le_of_lt (Nat.div_le_self _ _) hb
  have := u8_and_nat (b / 2 ^ k) 1 hl (by decide)
  rw [e]; simp only [Int.natCast_one] at this; rw [this, Nat.testBit_eq_decide_div_mod_eq, Nat.and_one_is_mod]
  by_cases h : b / 2 ^ k % 2 = 1
  · rw [h]; rfl
  · have h0 : b / 2 ^ k % 2 = 0 := by omega
    rw [h0]; rfl
theorem bit_one (b k : Nat) (hb : b < 256) (h : b.testBit k = true) : bits .and .u8 ((b : Int) / 2 ^ k) 1 = 1 := by
  have := bit_u8 b k hb; rw [h] at this; simpa using this
theorem bit_nought (b k : Nat) (hb : b < 256) (h : ¬ b.testBit k = true) : bits .and .u8 ((b : Int) / 2 ^ k) 1 = 0 := by
  have e : ((b : Int) / 2 ^ k) = ((b / 2 ^ k : Nat) : Int) := by simp
  have hl : b / 2 ^ k < 256 := Nat.lt_of_le_of_lt (Nat.div_le_self _ _) hb
  have := u8_and_nat (b / 2 ^ k) 1 hl (by decide)
  rw [e]; simp only [Int.natCast_one] at this; rw [this, Nat.and_one_is_mod]
  rw [Nat.testBit_eq_decide_div_mod_eq] at h
  simp at h; omega
theorem u8_and_full (a : Nat) (h : a < 256) : bits .and .u8 (a : Int) 255 = (a : Int) := by
  have := u8_and_nat a 255 h (by decide)
  refine this.trans ?_
  have e : (255 : Nat) = 2 ^ 8 - 1 := rfl
  rw [e, Nat.and_two_pow_sub_one_eq_mod, Nat.mod_eq_of_lt (by omega)]
theorem u8_and_none (a : Nat) (h : a < 256) : bits .and .u8 (a : Int) 0 = 0 := by
  have := u8_and_nat a 0 h (by decide)
  refine this.trans ?_
  simp
theorem u8_xor_none (a : Nat) (h : a < 256) : bits .xor .u8 (a : Int) 0 = (a : Int) := by
  have := u8_xor_nat a 0 h (by decide)
  refine this.trans ?_
  simp
theorem mul_any (a b : Nat) (ha : a < 256) (hb : b < 256) (w : World) :
    Calls Try.prog 61 #[.int .u8 a, .int .u8 b] w fun e w' => e = .returned (.int .u8 (Fld.mul a b)) ∧ w' = w := by
  go_enter Try.func61, Try.ntmps61
  go_wp2
  go_loop [0, 5, 7] (fun x s i => ∃ k : Nat, k ≤ 8 ∧ i = .int .i64 k ∧ x = .int .u8 (Fld.dblN k a) ∧ s = .int .u8 (Fld.mulS a b k)) (fun _ _ i => 8 - (intOf i).toNat)
  case atStart => exact ⟨0, by omega, rfl, rfl, rfl⟩
  case round =>
    obtain ⟨k, hk, rfl, rfl, rfl⟩ := hrel
    by_cases hlt : k < 8
    · have hx := Fld.dblN_lt k ha
      have HD := fun w => double_any (Fld.dblN k a) hx w
      by_cases ht : b.testBit k
      · have HW := fun w => whole_one _ (bit_one b k hb ht) w
        have HS : Hid (Fld.mulS a b (k + 1) = Fld.mulS a b k ^^^ Fld.dblN k a) := by show _ = _; simp only [Fld.mulS, ht, if_true]
        clear ht
        go_wp2_with (first | (go_at_call 69; refine (HD _).mono ?_; rintro e w' ⟨rfl, rfl⟩) | (go_at_call 68; refine (HW _).mono ?_; rintro e w' ⟨rfl, rfl⟩))
        go_round
        case rel => exact ⟨k + 1, by omega, by go_num, rfl, val_int (by rw [HS.out, u8_and_full _ hx]; exact u8_xor_nat _ _ (Fld.mulS_lt b k ha) hx)⟩
        case measure => simp [intOf]; omega
      · have HW := fun w => whole_nought _ (bit_nought b k hb ht) w
        have HS : Hid (Fld.mulS a b (k + 1) = Fld.mulS a b k) := by show _ = _; simp only [Fld.mulS, ht]; simp
        clear ht
        go_wp2_with (first | (go_at_call 69; refine (HD _).mono ?_; rintro e w' ⟨rfl, rfl⟩) | (go_at_call 68; refine (HW _).mono ?_; rintro e w' ⟨rfl, rfl⟩))
        go_round
        case rel => exact ⟨k + 1, by omega, by go_num, rfl, val_int (by rw [HS.out, u8_and_none _ hx]; exact u8_xor_none _ (Fld.mulS_lt b k ha))⟩
        case measure => simp [intOf]; omega
    · obtain rfl : k = 8 := by omega
      go_wp2
      go_ret
      exact ⟨rfl, rfl⟩

theorem invN_lt (a : Nat) (h : a < 256) (k : Nat) : (Fld.invN a k).1 < 256 ∧ (Fld.invN a k).2 < 256 := by
  rw [(Fld.invN_eq a h k).1, (Fld.invN_eq a h k).2]; exact ⟨Fld.pw_lt _ _ h, Fld.pw_lt _ _ h⟩
theorem inverse_any (a : Nat) (ha : a < 256) (w : World) :
    Calls Try.prog 60 #[.int .u8 a] w fun e w' => e = .returned (.int .u8 (Fld.inv a)) ∧ w' = w := by
  go_enter Try.func60, Try.ntmps60
  go_wp2
  go_loop [0, 3, 4] (fun x s i => ∃ k : Nat, k ≤ 7 ∧ i = .int .i64 k ∧ x = .int .u8 (Fld.invN a k).1 ∧ s = .int .u8 (Fld.invN a k).2) (fun _ _ i => 7 - (intOf i).toNat)
  case atStart => exact ⟨0, by omega, rfl, rfl, rfl⟩
  case round =>
    obtain ⟨k, hk, rfl, rfl, rfl⟩ := hrel
    have hb := invN_lt a ha k
    have hc := invN_lt a ha (k + 1)
    by_cases hlt : k < 7
    · go_wp2_with (go_at_call 61; refine (mul_any _ _ (by first | exact hb.1 | exact hb.2) (by first | exact hb.1 | exact hc.1) _).mono ?_; rintro e w' ⟨rfl, rfl⟩)
      go_round
      case rel => exact ⟨k + 1, by omega, by go_num, rfl, rfl⟩
      case measure => simp [intOf]; omega
    · obtain rfl : k = 7 := by omega
      go_wp2
      go_ret
      exact ⟨rfl, rfl⟩

/-- what Div gives -/
def divV (a b : Nat) : Nat := if b = 0 then 0 else Fld.mul a (Fld.inv b)
/-! the document's -/
theorem wrap_i64_in (n : Int) (h1 : -9223372036854775808 ≤ n) (h2 : n ≤ 9223372036854775807) : IntKind.i64.wrap n = n := by
  rw [IntKind.wrap_i64]; omega
theorem ofInt_i64 (a : Nat) (ha : a < 2 ^ 63) : (BitVec.ofInt 64 (a : Int)).toNat = a := by
  rw [BitVec.ofInt_natCast, BitVec.toNat_ofNat]; exact Nat.mod_eq_of_lt (by omega)
theorem i64_xor_nat (a b : Nat) (ha : a < 2 ^ 63) (hb : b < 2 ^ 63) : bits .xor .i64 (a : Int) (b : Int) = ((a ^^^ b : Nat) : Int) := by
  have hx : a ^^^ b < 2 ^ 63 := Nat.xor_lt_two_pow (by omega) (by omega)
  show IntKind.i64.wrap ((BitVec.ofInt 64 (a : Int) ^^^ BitVec.ofInt 64 (b : Int)).toNat : Int) = _
  rw [BitVec.toNat_xor, ofInt_i64 a ha, ofInt_i64 b hb, wrap_i64_in _ (by omega) (by omega)]
theorem i64_and_nat (a b : Nat) (ha : a < 2 ^ 63) (hb : b < 2 ^ 63) : bits .and .i64 (a : Int) (b : Int) = ((a &&& b : Nat) : Int) := by
  have hx : a &&& b < 2 ^ 63 := Nat.and_lt_two_pow _ (by omega)
  show IntKind.i64.wrap ((BitVec.ofInt 64 (a : Int) &&& BitVec.ofInt 64 (b : Int)).toNat : Int) = _
  rw [BitVec.toNat_and, ofInt_i64 a ha, ofInt_i64 b hb, wrap_i64_in _ (by omega) (by omega)]
theorem bit_i64 (b k : Nat) (hb : b < 2 ^ 63) : (bits .and .i64 ((b : Int) / 2 ^ k) 1 == 1) = b.testBit k := by
  have e : ((b : Int) / 2 ^ k) = ((b / 2 ^ k : Nat) : Int) := by simp
  have hl : b / 2 ^ k < 2 ^ 63 := Nat.lt_of_le_of_lt (Nat.div_le_self _ _) hb
  have := i64_and_nat (b / 2 ^ k) 1 hl (by decide)
  rw [e]; simp only [Int.natCast_one] at this; rw [this, Nat.testBit_eq_decide_div_mod_eq, Nat.and_one_is_mod]
  by_cases h : b / 2 ^ k % 2 = 1
  · rw [h]; rfl
  · have h0 : b / 2 ^ k % 2 = 0 := by omega
    rw [h0]; rfl
theorem clS_lt (a b k : Nat) (ha : a < 256) (hk : k ≤ 8) : Fld.clS a b k < 65536 := by
  induction k with
  | zero => simp [Fld.clS]
  | succ k ih =>
    have hs : a <<< k < 2 ^ 16 := by
      rw [Nat.shiftLeft_eq]
      have : 2 ^ k ≤ 2 ^ 7 := Nat.pow_le_pow_right (by decide) (by omega)
      have := Nat.mul_le_mul (Nat.le_of_lt ha) this
      omega
    unfold Fld.clS; split
    · exact Nat.xor_lt_two_pow (n := 16) (ih (by omega)) hs
    · exact Nat.xor_lt_two_pow (n := 16) (ih (by omega)) (by decide)
theorem redN_lt (n k : Nat) (hn : n < 65536) (hk : k ≤ 7) : Fld.redN n k < 65536 := by
  induction k with
  | zero => exact hn
  | succ k ih =>
    have hs : 391 <<< (6 - k) < 2 ^ 16 := by
      rw [Nat.shiftLeft_eq]
      have : 2 ^ (6 - k) ≤ 2 ^ 6 := Nat.pow_le_pow_right (by decide) (by omega)
      omega
    unfold Fld.redN; split
    · exact Nat.xor_lt_two_pow (n := 16) (ih (by omega)) hs
    · exact ih (by omega)
theorem xor_shl (c a k : Nat) (hc : c < 65536) (ha : a < 65536) (hk : k ≤ 8) : bits .xor .i64 (c : Int) (wrap64 ((a : Int) * 2 ^ k)) = ((c ^^^ (a <<< k) : Nat) : Int) := by
  have hs : a * 2 ^ k < 2 ^ 32 := by
    have : 2 ^ k ≤ 2 ^ 8 := Nat.pow_le_pow_right (by decide) hk
    have := Nat.mul_le_mul (Nat.le_of_lt ha) this
    omega
  have e : ((a : Int) * 2 ^ k) = ((a * 2 ^ k : Nat) : Int) := by simp
  rw [e, IntWalk.wrap64_in _ ⟨by omega, by omega⟩, i64_xor_nat _ _ (by omega) (by omega), Nat.shiftLeft_eq]
theorem rmul_any (a b : Nat) (ha : a < 256) (hb : b < 256) (w : World) :
    Calls Try.prog 45 #[.int .u8 a, .int .u8 b] w fun e w' => e = .returned (.int .u8 (Fld.mul a b)) ∧ w' = w := by
  rw [← Fld.rmul_eq ha hb]
  go_enter Try.func45, Try.ntmps45
  go_wp2
  go_loop [5, 6] (fun s i => ∃ k : Nat, k ≤ 8 ∧ i = .int .i64 k ∧ s = .int .i64 (Fld.clS a b k)) (fun _ i => 8 - (intOf i).toNat)
  case atStart => exact ⟨0, by omega, rfl, rfl⟩
  case round =>
    obtain ⟨k, hk, rfl, rfl⟩ := hrel
    have hcl := clS_lt a b k ha hk
    by_cases hlt : k < 8
    · by_cases ht : b.testBit k
      · have hz : (bits .and .u8 ((b : Int) / 2 ^ k) 1 == 1) = true := by rw [bit_u8 b k hb]; exact ht
        have HS : Hid (Fld.clS a b (k + 1) = Fld.clS a b k ^^^ (a <<< k)) := by show _ = _; simp only [Fld.clS, ht, if_true]
        clear ht
        go_wp2
        go_round
        case rel => exact ⟨k + 1, by omega, by go_num, val_int (by rw [HS.out]; exact xor_shl _ _ _ hcl (by omega) (by omega))⟩
        case measure => simp [intOf]; omega
      · have hz : (bits .and .u8 ((b : Int) / 2 ^ k) 1 == 1) = false := by rw [bit_u8 b k hb]; simpa using ht
        have HS : Hid (Fld.clS a b (k + 1) = Fld.clS a b k) := by show _ = _; simp only [Fld.clS, ht]; simp
        clear ht
        go_wp2
        go_round
        case rel => exact ⟨k + 1, by omega, by go_num, val_int (by rw [HS.out])⟩
        case measure => simp [intOf]; omega
    · obtain rfl : k = 8 := by omega
      go_wp2
      go_loop [5, 7] (fun s i => ∃ j : Nat, 7 ≤ j ∧ j ≤ 14 ∧ i = .int .i64 j ∧ s = .int .i64 (Fld.redN (Fld.clS a b 8) (14 - j))) (fun _ i => (intOf i).toNat)
      case atStart => exact ⟨14, by omega, by omega, rfl, rfl⟩
      case round =>
        obtain ⟨j, h7, h14, rfl, rfl⟩ := hrel
        have hrd := redN_lt (Fld.clS a b 8) (14 - j) hcl (by omega)
        by_cases hj : 8 ≤ j
        · have HR : Hid (Fld.redN (Fld.clS a b 8) (14 - (j - 1)) = if (Fld.redN (Fld.clS a b 8) (14 - j)).testBit j then Fld.redN (Fld.clS a b 8) (14 - j) ^^^ (391 <<< (j - 8)) else Fld.redN (Fld.clS a b 8) (14 - j)) := by
            show _ = _
            rw [show 14 - (j - 1) = (14 - j) + 1 by omega]
            simp only [Fld.redN]
            rw [show 14 - (14 - j) = j by omega, show 6 - (14 - j) = j - 8 by omega]
          obtain ⟨m, hm⟩ : ∃ m, m = Fld.redN (Fld.clS a b 8) (14 - j) := ⟨_, rfl⟩
          rw [← hm] at hrd HR ⊢
          have hm' : Hid (m = Fld.redN (Fld.clS a b 8) (14 - j)) := hm
          clear hm
          by_cases ht : m.testBit j
          · have hz : (bits .and .i64 ((m : Int) / 2 ^ j) 1 == 1) = true := by rw [bit_i64 m j (by omega)]; exact ht
            have HT : Hid (m.testBit j = true) := ht
            clear ht
            go_wp2
            go_round
            case rel => exact ⟨j - 1, by omega, by omega, by go_num, val_int (by rw [HR.out, if_pos HT.out]; exact xor_shl m 391 (j - 8) hrd (by decide) (by omega))⟩
            case measure => simp [intOf]; omega
          · have hz : (bits .and .i64 ((m : Int) / 2 ^ j) 1 == 1) = false := by rw [bit_i64 m j (by omega)]; simpa using ht
            have HT : Hid (¬ m.testBit j = true) := ht
            clear ht
            go_wp2
            go_round
            case rel => exact ⟨j - 1, by omega, by omega, by go_num, val_int (by rw [HR.out, if_neg HT.out])⟩
            case measure => simp [intOf]; omega
        · obtain rfl : j = 7 := by omega
          go_wp2
          go_ret
          exact ⟨ret_int (by simp [Fld.rmul]), rfl⟩

theorem mulN_lt (b n q : Nat) (hb : b < 256) (hq : q < 256) : Fld.mulN b n q < 256 := by
  rw [Fld.mulN_eq b n q hb hq]; exact Fld.mul_lt _ hq
theorem rdiv_any (a b : Nat) (ha : a < 256) (hb : b < 256) (w : World) :
    Calls Try.prog 47 #[.int .u8 a, .int .u8 b] w fun e w' => e = .returned (.tuple #[.int .u8 (divV a b), .bool (!(b == 0))]) ∧ w' = w := by
  by_cases h0 : b = 0
  · subst h0
    go_enter Try.func47, Try.ntmps47
    go_wp2
    go_ret2
    exact ⟨rfl, rfl⟩
  · have hz : ((b : Int) == 0) = false := by simp; omega
    go_enter Try.func47, Try.ntmps47
    go_wp2
    go_loop [6, 7] (fun q i => ∃ k : Nat, k ≤ 254 ∧ i = .int .i64 k ∧ q = .int .u8 (Fld.mulN b k a)) (fun _ i => 254 - (intOf i).toNat)
    case atStart => exact ⟨0, by omega, rfl, rfl⟩
    case round =>
      obtain ⟨k, hk, rfl, rfl⟩ := hrel
      have hq := mulN_lt b k a hb ha
      by_cases hlt : k < 254
      · go_wp2_with (go_at_call 45; refine (rmul_any _ _ hq hb _).mono ?_; rintro e w' ⟨rfl, rfl⟩)
        go_round
        case rel => exact ⟨k + 1, by omega, by go_num, rfl⟩
        case measure => simp [intOf]; omega
      · obtain rfl : k = 254 := by omega
        go_wp2
        go_ret2
        exact ⟨by simp [divV, h0, Fld.mulN_eq b 254 a hb ha, Fld.inv_eq hb], rfl⟩

/-! powers of 2 -/
/-- 2 to the n, n whatever -/
def pow2 (n : Int) : Nat := Fld.dblN (n % 255).toNat 1
theorem pow2_lt (n : Int) : pow2 n < 256 := Fld.dblN_lt _ (by decide)
theorem pow2_of (n : Int) (m : Nat) (e : m = (n % 255).toNat) : (Fld.dblN m 1 : Int) = (pow2 n : Int) := by rw [e]; rfl
theorem power_any (n : Int) (w : World) (h1 : -9223372036854775808 ≤ n) (h2 : n ≤ 9223372036854775807) :
    Calls Try.prog 66 #[.int .i64 n] w fun e w' => e = .returned (.int .u8 (pow2 n)) ∧ w' = w := by
  have one : (1 : Nat) < 256 := by decide
  have HT : n < 0 → Hid (n.tmod 255 = -((-n) % 255)) := fun h => by
    show _ = _
    have e : n = -(-n) := by omega
    rw [e, Int.neg_tmod, Int.tmod_eq_emod_of_nonneg (by omega)]; omega
  by_cases h0 : 0 ≤ n
  · go_enter Try.func66, Try.ntmps66
    go_wp2
    go_loop [3, 11] (fun p i => ∃ k : Nat, (k : Int) ≤ n % 255 ∧ i = .int .i64 k ∧ p = .int .u8 (Fld.dblN k 1)) (fun _ i => (n % 255 - intOf i).toNat)
    case atStart => exact ⟨0, by omega, rfl, rfl⟩
    case round =>
      obtain ⟨k, hk, rfl, rfl⟩ := hrel
      have hq := Fld.dblN_lt k one
      by_cases hlt : (k : Int) < n % 255
      · go_wp2_with (go_at_call 69; refine (double_any _ hq _).mono ?_; rintro e w' ⟨rfl, rfl⟩)
        go_round
        case rel => exact ⟨k + 1, by omega, by go_num, rfl⟩
        case measure => simp [intOf]; omega
      · go_wp2
        go_ret
        exact ⟨ret_int (pow2_of n k (by omega)), rfl⟩
  · have HT' := HT (by omega)
    clear HT
    have hlo : -255 < n.tmod 255 := by rw [HT'.out]; omega
    by_cases h3 : n.tmod 255 < 0
    · go_enter Try.func66, Try.ntmps66
      go_wp2
      go_loop [3, 11] (fun p i => ∃ k : Nat, (k : Int) ≤ n.tmod 255 + 255 ∧ i = .int .i64 k ∧ p = .int .u8 (Fld.dblN k 1)) (fun _ i => (n.tmod 255 + 255 - intOf i).toNat)
      case atStart => exact ⟨0, by omega, rfl, rfl⟩
      case round =>
        obtain ⟨k, hk, rfl, rfl⟩ := hrel
        have hq := Fld.dblN_lt k one
        by_cases hlt : (k : Int) < n.tmod 255 + 255
        · go_wp2_with (go_at_call 69; refine (double_any _ hq _).mono ?_; rintro e w' ⟨rfl, rfl⟩)
          go_round
          case rel => exact ⟨k + 1, by omega, by go_num, rfl⟩
          case measure => simp [intOf]; omega
        · go_wp2
          go_ret
          exact ⟨ret_int (pow2_of n k (by have := HT'.out; omega)), rfl⟩
    · have h4 : 0 ≤ n.tmod 255 := by omega
      have h5 : n.tmod 255 < 255 := by rw [HT'.out]; omega
      go_enter Try.func66, Try.ntmps66
      go_wp2
      go_loop [3, 11] (fun p i => ∃ k : Nat, (k : Int) ≤ n.tmod 255 ∧ i = .int .i64 k ∧ p = .int .u8 (Fld.dblN k 1)) (fun _ i => (n.tmod 255 - intOf i).toNat)
      case atStart => exact ⟨0, by omega, rfl, rfl⟩
      case round =>
        obtain ⟨k, hk, rfl, rfl⟩ := hrel
        have hq := Fld.dblN_lt k one
        by_cases hlt : (k : Int) < n.tmod 255
        · go_wp2_with (go_at_call 69; refine (double_any _ hq _).mono ?_; rintro e w' ⟨rfl, rfl⟩)
          go_round
          case rel => exact ⟨k + 1, by omega, by go_num, rfl⟩
          case measure => simp [intOf]; omega
        · go_wp2
          go_ret
          exact ⟨ret_int (pow2_of n k (by have := HT'.out; omega)), rfl⟩
theorem rmul_two (a : Nat) (ha : a < 256) (w : World) :
    Calls Try.prog 45 #[.int .u8 a, .int .u8 2] w fun e w' => e = .returned (.int .u8 (Fld.dbl a)) ∧ w' = w := by
  have h := rmul_any a 2 ha (by decide) w
  rw [Fld.mul_two ha] at h
  exact h
theorem rpower_any (n : Int) (w : World) (h1 : -9223372036854775808 ≤ n) (h2 : n ≤ 9223372036854775807) :
    Calls Try.prog 26 #[.int .i64 n] w fun e w' => e = .returned (.int .u8 (pow2 n)) ∧ w' = w := by
  have one : (1 : Nat) < 256 := by decide
  have HT : n < 0 → Hid (n.tmod 255 = -((-n) % 255)) := fun h => by
    show _ = _
    have e : n = -(-n) := by omega
    rw [e, Int.neg_tmod, Int.tmod_eq_emod_of_nonneg (by omega)]; omega
  by_cases h0 : 0 ≤ n
  · go_enter Try.func26, Try.ntmps26
    go_wp2
    go_loop [3, 4] (fun p i => ∃ k : Nat, (k : Int) ≤ n % 255 ∧ i = .int .i64 k ∧ p = .int .u8 (Fld.dblN k 1)) (fun _ i => (n % 255 - intOf i).toNat)
    case atStart => exact ⟨0, by omega, rfl, rfl⟩
    case round =>
      obtain ⟨k, hk, rfl, rfl⟩ := hrel
      have hq := Fld.dblN_lt k one
      by_cases hlt : (k : Int) < n % 255
      · go_wp2_with (go_at_call 45; refine (rmul_two _ hq _).mono ?_; rintro e w' ⟨rfl, rfl⟩)
        go_round
        case rel => exact ⟨k + 1, by omega, by go_num, rfl⟩
        case measure => simp [intOf]; omega
      · go_wp2
        go_ret
        exact ⟨ret_int (pow2_of n k (by omega)), rfl⟩
  · have HT' := HT (by omega)
    clear HT
    have hlo : -255 < n.tmod 255 := by rw [HT'.out]; omega
    by_cases h3 : n.tmod 255 < 0
    · go_enter Try.func26, Try.ntmps26
      go_wp2
      go_loop [3, 4] (fun p i => ∃ k : Nat, (k : Int) ≤ n.tmod 255 + 255 ∧ i = .int .i64 k ∧ p = .int .u8 (Fld.dblN k 1)) (fun _ i => (n.tmod 255 + 255 - intOf i).toNat)
      case atStart => exact ⟨0, by omega, rfl, rfl⟩
      case round =>
        obtain ⟨k, hk, rfl, rfl⟩ := hrel
        have hq := Fld.dblN_lt k one
        by_cases hlt : (k : Int) < n.tmod 255 + 255
        · go_wp2_with (go_at_call 45; refine (rmul_two _ hq _).mono ?_; rintro e w' ⟨rfl, rfl⟩)
          go_round
          case rel => exact ⟨k + 1, by omega, by go_num, rfl⟩
          case measure => simp [intOf]; omega
        · go_wp2
          go_ret
          exact ⟨ret_int (pow2_of n k (by have := HT'.out; omega)), rfl⟩
    · have h4 : 0 ≤ n.tmod 255 := by omega
      have h5 : n.tmod 255 < 255 := by rw [HT'.out]; omega
      go_enter Try.func26, Try.ntmps26
      go_wp2
      go_loop [3, 4] (fun p i => ∃ k : Nat, (k : Int) ≤ n.tmod 255 ∧ i = .int .i64 k ∧ p = .int .u8 (Fld.dblN k 1)) (fun _ i => (n.tmod 255 - intOf i).toNat)
      case atStart => exact ⟨0, by omega, rfl, rfl⟩
      case round =>
        obtain ⟨k, hk, rfl, rfl⟩ := hrel
        have hq := Fld.dblN_lt k one
        by_cases hlt : (k : Int) < n.tmod 255
        · go_wp2_with (go_at_call 45; refine (rmul_two _ hq _).mono ?_; rintro e w' ⟨rfl, rfl⟩)
          go_round
          case rel => exact ⟨k + 1, by omega, by go_num, rfl⟩
          case measure => simp [intOf]; omega
        · go_wp2
          go_ret
          exact ⟨ret_int (pow2_of n k (by have := HT'.out; omega)), rfl⟩
end Go.Proofs.Ytbgbohddkfaacaa
