import Derived.Test.YtchbppidepapiaaDoorMOn
namespace Go.Proofs.YtchbppidepapiaaDoor
open Go.RowKit
set_option maxRecDepth 100000
set_option linter.unusedVariables false
set_option linter.unusedSimpArgs false

/-- has a place a bit of the word? -/
def isW (p : Nat) : Bool := p &&& (p - 1) != 0
/-- how many of the lower places have one -/
def cntW : Nat → Nat
  | 0 => 0
  | k + 1 => if isW k then cntW k + 1 else cntW k
/-- a word's bits, spread over their places -/
def spW (n : Nat) : Nat → Nat
  | 0 => 0
  | k + 1 => if isW k then spW n k ||| (n / 2 ^ cntW k % 2) <<< k else spW n k
/-- the word whose bits stand at their places -/
def gaW (c : Nat) : Nat → Nat
  | 0 => 0
  | k + 1 => if isW k then gaW c k ||| (c / 2 ^ k % 2) <<< cntW k else gaW c k
/-- the sum of the places that have a one -/
def xsW (c : Nat) : Nat → Nat
  | 0 => 0
  | k + 1 => if c.testBit k then xsW c k ^^^ k else xsW c k
/-- with the bits that check others -/
def ckW (c s : Nat) : Nat → Nat
  | 0 => c
  | i + 1 => if s.testBit i then ckW c s i ||| 1 <<< 2 ^ i else ckW c s i
theorem cntW_le : ∀ k, k < 40 → cntW k ≤ 32 := by decide +kernel
theorem shl_lt (a k : Nat) (m : Nat) (h : k < m) : (a % 2) <<< k < 2 ^ m := by
  rw [Nat.shiftLeft_eq]
  have h1 : a % 2 * 2 ^ k ≤ 1 * 2 ^ k := Nat.mul_le_mul_right _ (by omega)
  have h2 : 2 ^ k < 2 ^ m := Nat.pow_lt_pow_right (by decide) h
  omega
theorem spW_lt (n k : Nat) : spW n k < 2 ^ k := by
  induction k with
  | zero => exact Nat.zero_lt_one
  | succ k ih =>
    have h2 : 2 ^ k < 2 ^ (k + 1) := Nat.pow_lt_pow_right (by decide) (by omega)
    unfold spW
    split
    · exact Nat.or_lt_two_pow (by omega) (shl_lt _ _ _ (by omega))
    · omega
theorem gaW_lt (c k : Nat) : gaW c k < 2 ^ cntW k := by
  induction k with
  | zero => exact Nat.zero_lt_one
  | succ k ih =>
    have e : cntW (k + 1) = if isW k then cntW k + 1 else cntW k := rfl
    unfold gaW
    rw [e]
    split
    · have h2 : 2 ^ cntW k < 2 ^ (cntW k + 1) := Nat.pow_lt_pow_right (by decide) (by omega)
      exact Nat.or_lt_two_pow (by omega) (shl_lt _ _ _ (by omega))
    · exact ih
theorem xsW_lt (c k : Nat) (hk : k ≤ 64) : xsW c k < 64 := by
  induction k with
  | zero => exact Nat.zero_lt_succ _
  | succ k ih =>
    unfold xsW
    split
    · exact Nat.xor_lt_two_pow (n := 6) (ih (by omega)) (by omega)
    · exact ih (by omega)
theorem ckW_lt (c s i : Nat) (hc : c < 549755813888) (hi : i ≤ 6) : ckW c s i < 549755813888 := by
  induction i with
  | zero => exact hc
  | succ i ih =>
    unfold ckW
    split
    · refine Nat.or_lt_two_pow (n := 39) (ih (by omega)) ?_
      have : ∀ i, i < 6 → 1 <<< 2 ^ i < 2 ^ 39 := by decide +kernel
      exact this i (by omega)
    · exact ih (by omega)
theorem i64_or_nat (a b : Nat) (ha : a < 2 ^ 63) (hb : b < 2 ^ 63) : bits .or .i64 (a : Int) (b : Int) = ((a ||| b : Nat) : Int) := by
  have hx : a ||| b < 2 ^ 63 := Nat.or_lt_two_pow (by omega) (by omega)
  show IntKind.i64.wrap ((BitVec.ofInt 64 (a : Int) ||| BitVec.ofInt 64 (b : Int)).toNat : Int) = _
  rw [BitVec.toNat_or, ofInt_i64 a ha, ofInt_i64 b hb, wrap_i64_in _ (by omega) (by omega)]
theorem ofWord_num : ∀ p : Nat, p < 39 → (bits .and .i64 (p : Int) ((p : Int) - 1) != 0) = isW p := by decide +kernel
theorem ofWord_any (p : Nat) (hp : p < 39) (w : World) : Calls Tryd.prog 35 #[.int .i64 p] w fun e w' => e = .returned (.bool (isW p)) ∧ w' = w := by
  have h := ofWord_num p hp
  go_enter Tryd.func35, Tryd.ntmps35
  go_wp2
  go_ret
  exact ⟨by rw [← h]; rfl, rfl⟩
/-- one bit, moved to its place -/
theorem bit_to (n k : Nat) (hn : n < 2 ^ 63) (hk : k < 40) : wrap64 (bits .and .i64 (n : Int) 1 * 2 ^ k) = (((n % 2) <<< k : Nat) : Int) := by
  have e : bits .and .i64 (n : Int) 1 = ((n % 2 : Nat) : Int) := by
    have := i64_and_nat n 1 hn (by decide)
    rw [Nat.and_one_is_mod] at this
    exact this
  have h := shl_lt n k 40 hk
  rw [e, Nat.shiftLeft_eq]
  rw [Nat.shiftLeft_eq] at h
  have e2 : (((n % 2 : Nat) : Int) * 2 ^ k) = ((n % 2 * 2 ^ k : Nat) : Int) := by simp
  rw [e2]
  exact IntWalk.wrap64_in _ ⟨by omega, by omega⟩
theorem half_cnt (n k : Nat) (h : isW k = true) : n / 2 ^ cntW k / 2 = n / 2 ^ cntW (k + 1) := by
  have : cntW (k + 1) = cntW k + 1 := if_pos h
  rw [this, Nat.div_div_eq_div_mul, Nat.pow_succ]
theorem pow_div_lt (n k : Nat) (hn : n < 2 ^ 63) : n / 2 ^ k < 2 ^ 63 := Nat.lt_of_le_of_lt (Nat.div_le_self _ _) hn
theorem sp_yes (n k : Nat) (h : isW k = true) : n / 2 ^ cntW (k + 1) = n / 2 ^ cntW k / 2 ∧ spW n (k + 1) = spW n k ||| (n / 2 ^ cntW k % 2) <<< k := ⟨(half_cnt n k h).symm, if_pos h⟩
theorem sp_no (n k : Nat) (h : isW k = false) : n / 2 ^ cntW (k + 1) = n / 2 ^ cntW k ∧ spW n (k + 1) = spW n k := ⟨by rw [show cntW (k + 1) = cntW k by simp [cntW, h]], by simp [spW, h]⟩
theorem ga_yes (c k : Nat) (h : isW k = true) : cntW (k + 1) = cntW k + 1 ∧ gaW c (k + 1) = gaW c k ||| (c / 2 ^ k % 2) <<< cntW k := ⟨if_pos h, if_pos h⟩
theorem ga_no (c k : Nat) (h : isW k = false) : cntW (k + 1) = cntW k ∧ gaW c (k + 1) = gaW c k := ⟨by simp [cntW, h], by simp [gaW, h]⟩
theorem lt63 {a k : Nat} (h : a < 2 ^ k) (hk : k ≤ 63) : a < 2 ^ 63 := Nat.lt_of_lt_of_le h (Nat.pow_le_pow_right (by decide) hk)
theorem spread_any (n : Nat) (hn : n < 2 ^ 63) (w : World) : Calls Tryd.prog 37 #[.int .i64 n] w fun e w' => e = .returned (.int .i64 (spW n 39 : Nat)) ∧ w' = w := by
  go_enter Tryd.func37, Tryd.ntmps37
  go_wp2
  go_loop [0, 3, 5] (fun mv c i => ∃ k m s : Nat, k ≤ 39 ∧ i = .int .i64 k ∧ mv = .int .i64 m ∧ c = .int .i64 s ∧ Hid (m = n / 2 ^ cntW k) ∧ Hid (s = spW n k)) (fun _ _ i => 39 - (intOf i).toNat)
  case atStart => exact ⟨0, n, 0, by omega, rfl, rfl, rfl, by show _ = _; simp [cntW], rfl⟩
  case round =>
    obtain ⟨k, m, s, hk, rfl, rfl, rfl, hm, hs⟩ := hrel
    by_cases hlt : k < 39
    · have HW := fun w => ofWord_any k hlt w
      have hp : m < 2 ^ 63 := by rw [hm.out]; exact pow_div_lt _ _ hn
      have hs63 : s < 2 ^ 63 := by rw [hs.out]; exact lt63 (spW_lt n k) (by omega)
      have hb := bit_to m k hp (by omega)
      have ho := i64_or_nat s ((m % 2) <<< k) hs63 (lt63 (shl_lt m k 40 (by omega)) (by decide))
      have hd : ((m : Int) / 2) = ((m / 2 : Nat) : Int) := by omega
      have HY := sp_yes n k
      have HN := sp_no n k
      rw [← hm.out, ← hs.out] at HY HN
      generalize (m % 2) <<< k = q at hb ho HY
      generalize m / 2 = m' at hd HY
      generalize s ||| q = s' at ho HY
      cases hw : isW k
      · rw [hw] at HW
        have HN : Hid _ := HN hw
        clear hb ho HY hd
        go_wp2_with (go_at_call 35; refine (HW _).mono ?_; rintro e w' ⟨rfl, rfl⟩)
        go_round
        case rel => exact ⟨k + 1, m, s, by omega, by go_num, rfl, rfl, HN.out.1.symm, HN.out.2.symm⟩
        case measure => simp [intOf]; omega
      · rw [hw] at HW
        have HY : Hid _ := HY hw
        clear HN
        go_wp2_with (go_at_call 35; refine (HW _).mono ?_; rintro e w' ⟨rfl, rfl⟩)
        go_round
        case rel => exact ⟨k + 1, m', s', by omega, by go_num, rfl, rfl, HY.out.1.symm, HY.out.2.symm⟩
        case measure => simp [intOf]; omega
    · obtain rfl : k = 39 := by omega
      go_wp2
      go_ret
      exact ⟨by rw [← hs.out]; rfl, rfl⟩
theorem bit_at (c k t : Nat) (hc : c < 2 ^ 63) (ht : t < 40) : wrap64 (bits .and .i64 ((c : Int) / 2 ^ k) 1 * 2 ^ t) = (((c / 2 ^ k % 2) <<< t : Nat) : Int) := by
  have e : ((c : Int) / 2 ^ k) = ((c / 2 ^ k : Nat) : Int) := by simp
  rw [e]
  exact bit_to _ t (pow_div_lt _ _ hc) ht
theorem gathered_any (c : Nat) (hc : c < 549755813888) (w : World) : Calls Tryd.prog 23 #[.int .i64 c] w fun e w' => e = .returned (.int .i64 (gaW c 39 : Nat)) ∧ w' = w := by
  go_enter Tryd.func23, Tryd.ntmps23
  go_wp2
  go_loop [3, 4, 6] (fun nv bv i => ∃ k t s : Nat, k ≤ 39 ∧ i = .int .i64 k ∧ bv = .int .i64 t ∧ nv = .int .i64 s ∧ t ≤ 32 ∧ Hid (t = cntW k) ∧ Hid (s = gaW c k)) (fun _ _ i => 39 - (intOf i).toNat)
  case atStart => exact ⟨0, 0, 0, by omega, rfl, rfl, rfl, by omega, rfl, rfl⟩
  case round =>
    obtain ⟨k, t, s, hk, rfl, rfl, rfl, htl, ht, hs⟩ := hrel
    by_cases hlt : k < 39
    · have HW := fun w => ofWord_any k hlt w
      have hs63 : s < 2 ^ 63 := by rw [hs.out]; exact lt63 (gaW_lt c k) (by rw [← ht.out]; omega)
      have hb := bit_at c k t (by omega) (by omega)
      have ho := i64_or_nat s ((c / 2 ^ k % 2) <<< t) hs63 (lt63 (shl_lt (c / 2 ^ k) t 40 (by omega)) (by decide))
      have HY := ga_yes c k
      have HN := ga_no c k
      have hl1 := cntW_le (k + 1) (by omega)
      rw [← ht.out, ← hs.out] at HY HN
      generalize (c / 2 ^ k % 2) <<< t = q at hb ho HY
      generalize s ||| q = s' at ho HY
      cases hw : isW k
      · rw [hw] at HW
        have HN : Hid _ := HN hw
        clear hb ho HY hl1
        go_wp2_with (go_at_call 35; refine (HW _).mono ?_; rintro e w' ⟨rfl, rfl⟩)
        go_round
        case rel => exact ⟨k + 1, t, s, by omega, by go_num, rfl, rfl, htl, HN.out.1.symm, HN.out.2.symm⟩
        case measure => simp [intOf]; omega
      · rw [hw] at HW
        have hl2 : t + 1 ≤ 32 := by rw [← (HY hw).1]; exact hl1
        have HY : Hid _ := HY hw
        clear HN hl1
        go_wp2_with (go_at_call 35; refine (HW _).mono ?_; rintro e w' ⟨rfl, rfl⟩)
        go_round
        case rel => exact ⟨k + 1, t + 1, s', by omega, by go_num, by go_num, rfl, hl2, HY.out.1.symm, HY.out.2.symm⟩
        case measure => simp [intOf]; omega
    · obtain rfl : k = 39 := by omega
      go_wp2
      go_ret
      exact ⟨by rw [← hs.out]; rfl, rfl⟩
theorem xs_yes (c k : Nat) (h : c.testBit k = true) : xsW c (k + 1) = xsW c k ^^^ k := if_pos h
theorem xs_no (c k : Nat) (h : c.testBit k = false) : xsW c (k + 1) = xsW c k := by simp [xsW, h]
theorem placeSum_any (c : Nat) (hc : c < 549755813888) (w : World) : Calls Tryd.prog 40 #[.int .i64 c] w fun e w' => e = .returned (.int .i64 (xsW c 39 : Nat)) ∧ w' = w := by
  go_enter Tryd.func40, Tryd.ntmps40
  go_wp2
  go_loop [3, 5] (fun sv i => ∃ k s : Nat, k ≤ 39 ∧ i = .int .i64 k ∧ sv = .int .i64 s ∧ Hid (s = xsW c k)) (fun _ i => 39 - (intOf i).toNat)
  case atStart => exact ⟨0, 0, by omega, rfl, rfl, rfl⟩
  case round =>
    obtain ⟨k, s, hk, rfl, rfl, hs⟩ := hrel
    by_cases hlt : k < 39
    · have hs64 : s < 64 := by rw [hs.out]; exact xsW_lt _ _ (by omega)
      have ho := i64_xor_nat s k (by omega) (by omega)
      have hz := bit_i64 c k (by omega)
      have HY := xs_yes c k
      have HN := xs_no c k
      rw [← hs.out] at HY HN
      generalize s ^^^ k = s' at ho HY
      cases hw : c.testBit k
      · have HN : Hid _ := HN hw
        rw [hw] at hz
        clear ho HY hw
        go_wp2
        go_round
        case rel => exact ⟨k + 1, s, by omega, by go_num, rfl, HN.out.symm⟩
        case measure => simp [intOf]; omega
      · have HY : Hid _ := HY hw
        rw [hw] at hz
        clear HN hw
        go_wp2
        go_round
        case rel => exact ⟨k + 1, s', by omega, by go_num, rfl, HY.out.symm⟩
        case measure => simp [intOf]; omega
    · obtain rfl : k = 39 := by omega
      go_wp2
      go_ret
      exact ⟨by rw [← hs.out]; rfl, rfl⟩
theorem pcN_stop (k j c : Nat) (h : c < 2 ^ k) : pcN (k + j) c = pcN k c := by
  induction j with
  | zero => rfl
  | succ j ih =>
    rw [← Nat.add_assoc, pcN_succ, ih, Nat.div_eq_of_lt (Nat.lt_of_lt_of_le h (Nat.pow_le_pow_right (by decide) (by omega)))]
    rfl
/-- is the number of ones odd? -/
def odW (c : Nat) : Bool := pcN 39 c % 2 == 1
theorem odd_any (c : Nat) (hc : c < 549755813888) (w : World) : Calls Tryd.prog 41 #[.int .i64 c] w fun e w' => e = .returned (.bool (odW c)) ∧ w' = w := by
  have e1 : pcN 64 c = pcN 39 c := pcN_stop 39 25 c hc
  have H := fun w => ones64_all c (by omega) w
  have hl := pcN_le 39 c
  rw [e1] at H
  unfold odW
  generalize pcN 39 c = p at H hl
  clear e1
  go_enter Tryd.func41, Tryd.ntmps41
  go_wp2_with (go_at_call 42; refine (H _).mono ?_; rintro e w' ⟨rfl, rfl⟩)
  go_ret
  refine ⟨congrArg (fun b => Ending.returned (Value.bool b)) ?_, rfl⟩
  by_cases h : p % 2 = 1
  · rw [show ((p : Int) % 2) = 1 by omega, h]; rfl
  · rw [show ((p : Int) % 2) = 0 by omega, show p % 2 = 0 by omega]; rfl
theorem ck_bit : ∀ s : Nat, s < 64 → ∀ i : Nat, i < 6 → (bits .and .i64 (s : Int) ((2 ^ i : Nat) : Int) != 0) = s.testBit i := by decide +kernel
theorem ck_yes (c s i : Nat) (h : s.testBit i = true) : ckW c s (i + 1) = ckW c s i ||| 1 <<< 2 ^ i := if_pos h
theorem ck_no (c s i : Nat) (h : s.testBit i = false) : ckW c s (i + 1) = ckW c s i := by simp [ckW, h]
theorem checked_any (c : Nat) (hc : c < 549755813888) (w : World) : Calls Tryd.prog 36 #[.int .i64 c] w fun e w' => e = .returned (.int .i64 (ckW c (xsW c 39) 6 ||| (odW (ckW c (xsW c 39) 6)).toNat : Nat)) ∧ w' = w := by
  have HP := fun w => placeSum_any c hc w
  have hs := xsW_lt c 39 (by omega)
  generalize xsW c 39 = s at HP hs
  go_enter Tryd.func36, Tryd.ntmps36
  go_wp2_with (go_at_call 40; refine (HP _).mono ?_; rintro e w' ⟨rfl, rfl⟩)
  go_loop [0, 4] (fun cv pv => ∃ i d P : Nat, i ≤ 6 ∧ P = 2 ^ i ∧ pv = .int .i64 (P : Int) ∧ cv = .int .i64 d ∧ Hid (d = ckW c s i)) (fun _ pv => 64 - (intOf pv).toNat)
  case atStart => exact ⟨0, c, 1, by omega, rfl, rfl, rfl, rfl⟩
  case round =>
    obtain ⟨i, d, P, hi, hP, rfl, rfl, hd⟩ := hrel
    have hdl : d < 549755813888 := by rw [hd.out]; exact ckW_lt _ _ _ hc hi
    by_cases hlt : i < 6
    · have hb := ck_bit s hs i hlt
      have HY := ck_yes c s i
      have HN := ck_no c s i
      rw [← hd.out] at HY HN
      have ho := i64_or_nat d (1 <<< 2 ^ i) (by omega) (by
        have : ∀ i, i < 6 → 1 <<< 2 ^ i < 2 ^ 63 := by decide +kernel
        exact this i hlt)
      generalize d ||| 1 <<< 2 ^ i = d' at ho HY
      cases hw : s.testBit i
      · have HN : Hid _ := HN hw
        rw [hw] at hb
        clear HY ho hw
        have e : i = 0 ∨ i = 1 ∨ i = 2 ∨ i = 3 ∨ i = 4 ∨ i = 5 := by omega
        rcases e with rfl | rfl | rfl | rfl | rfl | rfl
        all_goals
          simp at hP hb
          subst hP
          go_wp2
          go_round
          case rel => exact ⟨_, d, _, by omega, rfl, by go_num, rfl, HN.out.symm⟩
          case measure => simp [intOf]
      · have HY : Hid _ := HY hw
        rw [hw] at hb
        clear HN hw
        have e : i = 0 ∨ i = 1 ∨ i = 2 ∨ i = 3 ∨ i = 4 ∨ i = 5 := by omega
        rcases e with rfl | rfl | rfl | rfl | rfl | rfl
        all_goals
          simp at hP hb
          simp only [Nat.reducePow, Nat.reduceShiftLeft] at ho
          subst hP
          go_wp2
          go_round
          case rel => exact ⟨_, d', _, by omega, rfl, by go_num, val_int ho, HY.out.symm⟩
          case measure => simp [intOf]
    · obtain rfl : i = 6 := by omega
      obtain rfl : P = 64 := hP
      have HO := fun w => odd_any d hdl w
      have e1 := i64_or_nat d 1 (by omega) (by omega)
      have hd' : Hid (∀ x, odW d = x → ckW c s 6 ||| (odW (ckW c s 6)).toNat = d ||| x.toNat) := by
        intro x hx
        rw [← hd.out, hx]
      clear hd
      cases hb : odW d
      · rw [hb] at HO
        have HE : Hid _ := hd'.out _ hb
        clear hb hd'
        go_wp2_with (go_at_call 41; refine (HO _).mono ?_; rintro e w' ⟨rfl, rfl⟩)
        go_ret
        exact ⟨ret_int (by rw [HE.out]; simp), rfl⟩
      · rw [hb] at HO
        have HE : Hid _ := hd'.out _ hb
        clear hb hd'
        go_wp2_with (go_at_call 41; refine (HO _).mono ?_; rintro e w' ⟨rfl, rfl⟩)
        go_ret
        exact ⟨ret_int (by rw [HE.out]; exact e1), rfl⟩
end Go.Proofs.YtchbppidepapiaaDoor
