import Derived.Test.YtgnicopijocnjaaDoorMk1
import Derived.Test.YtgnicopijocnjaaDoorMk0
import Derived.Laws.Rows
import Derived.Laws.Tables
import Derived.Deep.WholeRow
import Derived.Laws.ResultCell
import Derived.Laws.AppendOwnNone
import Derived.OpenShut
import Derived.OwnWalk
import Derived.BigRegion
import Derived.RegionTactic
import Derived.ChangeAlike
namespace Go.Proofs.YtgnicopijocnjaaDoor
open Go.RowKit
set_option maxRecDepth 100000
set_option linter.unusedVariables false
set_option linter.unusedSimpArgs false

section
theorem pc_yes (c k : Nat) (h : c.testBit k = true) : pcN (k + 1) c = pcN k c + 1 := by
  rw [pcN_succ]
  rw [Nat.testBit_eq_decide_div_mod_eq] at h
  have := of_decide_eq_true h
  omega
theorem pc_no (c k : Nat) (h : c.testBit k = false) : pcN (k + 1) c = pcN k c := by
  rw [pcN_succ]
  rw [Nat.testBit_eq_decide_div_mod_eq] at h
  have := of_decide_eq_false h
  omega
theorem rones_any (c : Nat) (hc : c < 549755813888) (w : World) : Calls Tryd.prog 17 #[.int .i64 c] w fun e w' => e = .returned (.tuple #[.int .i64 (pcN 39 c : Nat), .int .i64 (xsW c 39 : Nat)]) ∧ w' = w := by
  go_enter Tryd.func17, Tryd.ntmps17
  go_wp2
  go_loop [4, 5, 6] (fun nv sv i => ∃ k n s : Nat, k ≤ 39 ∧ i = .int .i64 k ∧ nv = .int .i64 n ∧ sv = .int .i64 s ∧ Hid (n = pcN k c) ∧ Hid (s = xsW c k)) (fun _ _ i => 39 - (intOf i).toNat)
  case atStart => exact ⟨0, 0, 0, by omega, rfl, rfl, rfl, rfl, rfl⟩
  case round =>
    obtain ⟨k, n, s, hk, rfl, rfl, rfl, hn, hs⟩ := hrel
    by_cases hlt : k < 39
    · have hs64 : s < 64 := by rw [hs.out]; exact xsW_lt _ _ (by omega)
      have hn64 : n < 64 := by rw [hn.out]; exact Nat.lt_of_le_of_lt (pcN_le k c) (by omega)
      have ho := i64_xor_nat s k (by omega) (by omega)
      have hz := bit_i64 c k (by omega)
      have HY := xs_yes c k
      have HN := xs_no c k
      have PY := pc_yes c k
      have PN := pc_no c k
      rw [← hs.out] at HY HN
      rw [← hn.out] at PY PN
      generalize s ^^^ k = s' at ho HY
      cases hw : c.testBit k
      · have HN : Hid _ := HN hw
        have PN : Hid _ := PN hw
        rw [hw] at hz
        clear ho HY hw PY
        go_wp2
        go_round
        case rel => exact ⟨k + 1, n, s, by omega, by go_num, rfl, rfl, PN.out.symm, HN.out.symm⟩
        case measure => simp [intOf]; omega
      · have HY : Hid _ := HY hw
        have PY : Hid _ := PY hw
        rw [hw] at hz
        clear HN hw PN
        go_wp2
        go_round
        case rel => exact ⟨k + 1, n + 1, s', by omega, by go_num, by go_num, rfl, PY.out.symm, HY.out.symm⟩
        case measure => simp [intOf]; omega
    · obtain rfl : k = 39 := by omega
      go_wp2
      go_ret2
      exact ⟨by rw [← hs.out, ← hn.out]; rfl, rfl⟩
theorem cdE_no {z : Int} (h : ¬ (0 ≤ z ∧ z ≤ 4294967295)) : cdV z = 0 ∧ cdE z = 2 := by
  unfold cdV cdE
  rw [inN_f h]
  exact ⟨rfl, rfl⟩
theorem cdE_ok {z : Int} (h : 0 ≤ z ∧ z ≤ 4294967295) : cdV z = coN z.toNat ∧ cdE z = 0 := by
  unfold cdV cdE
  rw [inN_t h]
  exact ⟨rfl, rfl⟩
theorem isW_num (p : Nat) (hp : p < 39) : (bits .and .i64 (p : Int) ((p : Int) - 1) != 0) = isW p := ofWord_num p hp
theorem odW_nat (c : Nat) : (odW c).toNat = pcN 39 c % 2 := by
  unfold odW
  by_cases h : pcN 39 c % 2 = 1
  · rw [h]; rfl
  · rw [show pcN 39 c % 2 = 0 by omega]; rfl
theorem rcode_any (z : Int) (w : World) : Calls Tryd.prog 8 #[.int .i64 z] w fun e w' => e = .returned (.tuple #[.int .i64 (cdV z : Nat), .int .i64 (cdE z : Nat)]) ∧ w' = w := by
  by_cases h : 0 ≤ z ∧ z ≤ 4294967295
  · obtain ⟨e1, e2⟩ := cdE_ok h
    rw [e1, e2]
    obtain ⟨n, rfl⟩ : ∃ n : Nat, z = n := ⟨z.toNat, by omega⟩
    rw [Int.toNat_natCast]
    have hn : n ≤ 4294967295 := by omega
    clear h e1 e2
    go_enter Tryd.func8, Tryd.ntmps8
    go_wp2
    go_loop [0, 4, 5] (fun mv c i => ∃ k m s : Nat, k ≤ 39 ∧ i = .int .i64 k ∧ mv = .int .i64 m ∧ c = .int .i64 s ∧ Hid (m = n / 2 ^ cntW k) ∧ Hid (s = spW n k)) (fun _ _ i => 39 - (intOf i).toNat)
    case atStart => exact ⟨1, n, 0, by omega, rfl, rfl, rfl, by show _ = _; simp [show cntW 1 = 0 from rfl], rfl⟩
    case round =>
      obtain ⟨k, m, s, hk, rfl, rfl, rfl, hm, hs⟩ := hrel
      by_cases hlt : k < 39
      · have HW := isW_num k hlt
        have hp : m < 2 ^ 63 := by rw [hm.out]; exact pow_div_lt _ _ (by omega)
        have hs63 : s < 2 ^ 63 := by rw [hs.out]; exact lt63 (spW_lt n k) (by omega)
        have hb := bit_to m k hp (by omega)
        have ho := i64_or_nat s ((m % 2) <<< k) hs63 (lt63 (shl_ltM m k 40 (by omega)) (by decide))
        have hd : ((m : Int) / 2) = ((m / 2 : Nat) : Int) := by omega
        have HY := sp_yes n k
        have HN := sp_no n k
        rw [← hm.out, ← hs.out] at HY HN
        generalize (m % 2) <<< k = q at hb ho HY
        generalize m / 2 = m' at hd HY
        generalize s ||| q = s' at ho HY
        cases hw : isW k
        · rw [hw] at HW
          have HN : Hid _ := HN hw
          clear hb ho HY hd hw
          go_wp2
          go_round
          case rel => exact ⟨k + 1, m, s, by omega, by go_num, rfl, rfl, HN.out.1.symm, HN.out.2.symm⟩
          case measure => simp [intOf]; omega
        · rw [hw] at HW
          have HY : Hid _ := HY hw
          clear HN hw
          go_wp2
          go_round
          case rel => exact ⟨k + 1, m', s', by omega, by go_num, rfl, rfl, HY.out.1.symm, HY.out.2.symm⟩
          case measure => simp [intOf]; omega
      · obtain rfl : k = 39 := by omega
        have HE : Hid (coN n = ckW s (xsW s 39) 6 ||| (odW (ckW s (xsW s 39) 6)).toNat) := by
          show _ = _
          rw [hs.out]; rfl
        have hsl : s < 549755813888 := by rw [hs.out]; exact spW_lt n 39
        have H1 := fun w => rones_any s hsl w
        have hx := xsW_lt s 39 (by omega)
        generalize xsW s 39 = x at H1 HE hx
        generalize pcN 39 s = y at H1
        clear hs hm
        go_wp2_with (go_at_call 17; refine (H1 _).mono ?_; rintro e w' ⟨rfl, rfl⟩)
        go_loop [4, 8] (fun cv pv => ∃ i d : Nat, i ≤ 6 ∧ pv = .int .i64 (i : Int) ∧ cv = .int .i64 d ∧ Hid (d = ckW s x i)) (fun _ pv => 6 - (intOf pv).toNat)
        case atStart => exact ⟨0, s, by omega, rfl, rfl, rfl⟩
        case round =>
          obtain ⟨i, d, hi, rfl, rfl, hd⟩ := hrel
          have hdl : d < 549755813888 := by rw [hd.out]; exact ckW_lt _ _ _ hsl hi
          by_cases hlt : i < 6
          · have hb := bit_i64 x i (by omega)
            have HY := ck_yes s x i
            have HN := ck_no s x i
            rw [← hd.out] at HY HN
            have ho := i64_or_nat d (1 <<< 2 ^ i) (by omega) (by
              have : ∀ i, i < 6 → 1 <<< 2 ^ i < 2 ^ 63 := by decide +kernel
              exact this i hlt)
            generalize d ||| 1 <<< 2 ^ i = d' at ho HY
            cases hw : x.testBit i
            · have HN : Hid _ := HN hw
              rw [hw] at hb
              clear HY ho hw
              go_wp2
              go_round
              case rel => exact ⟨i + 1, d, by omega, by go_num, rfl, HN.out.symm⟩
              case measure => simp [intOf]; omega
            · have HY : Hid _ := HY hw
              rw [hw] at hb
              clear HN hw
              have e : i = 0 ∨ i = 1 ∨ i = 2 ∨ i = 3 ∨ i = 4 ∨ i = 5 := by omega
              rcases e with rfl | rfl | rfl | rfl | rfl | rfl
              all_goals
                simp only [Nat.reducePow, Nat.reduceShiftLeft] at ho
                try simp at hb
                go_wp2
                go_round
                case rel => exact ⟨_, d', by omega, by go_num, val_int ho, HY.out.symm⟩
                case measure => simp [intOf]
          · obtain rfl : i = 6 := by omega
            rw [← hd.out, odW_nat] at HE
            have H2 := fun w => rones_any d hdl w
            have e1 : bits .and .i64 ((pcN 39 d : Nat) : Int) 1 = ((pcN 39 d % 2 : Nat) : Int) := by
              have := i64_and_nat (pcN 39 d) 1 (Nat.lt_of_le_of_lt (pcN_le _ _) (by decide)) (by decide)
              rw [Nat.and_one_is_mod] at this
              exact this
            have e2 := i64_or_nat d (pcN 39 d % 2) (by omega) (by omega)
            have HE : Hid _ := HE
            generalize pcN 39 d % 2 = t at e1 e2 HE
            generalize pcN 39 d = y at H2 e1
            generalize xsW d 39 = x at H2
            generalize d ||| t = r at e2 HE
            clear hd H1
            go_wp2_with (go_at_call 17; refine (H2 _).mono ?_; rintro e w' ⟨rfl, rfl⟩)
            go_ret2
            exact ⟨by rw [HE.out]; rfl, rfl⟩
  · obtain ⟨e1, e2⟩ := cdE_no h
    rw [e1, e2]
    by_cases h1 : z < 0
    · go_enter Tryd.func8, Tryd.ntmps8
      go_wp2
      go_ret2
      exact ⟨rfl, rfl⟩
    · have h2 : z > 4294967295 := by omega
      go_enter Tryd.func8, Tryd.ntmps8
      go_wp2
      go_ret2
      exact ⟨rfl, rfl⟩
end

section
theorem xsW_xor (a b k : Nat) : xsW (a ^^^ b) k = xsW a k ^^^ xsW b k := by
  induction k with
  | zero => simp [xsW]
  | succ k ih =>
    unfold xsW
    rw [ih, Nat.testBit_xor]
    cases a.testBit k <;> cases b.testBit k
    · simp
    · simp [Nat.xor_assoc]
    · simp only [Bool.xor_false, if_true, Bool.false_eq_true, if_false]
      rw [Nat.xor_assoc, Nat.xor_comm (xsW b k) k, ← Nat.xor_assoc]
    · simp only [Bool.xor_self, if_true, Bool.false_eq_true, if_false]
      rw [Nat.xor_assoc, ← Nat.xor_assoc k, Nat.xor_comm k, Nat.xor_assoc (xsW b k), Nat.xor_self, Nat.xor_zero]
theorem pc_xor (a b k : Nat) : pcN k (a ^^^ b) % 2 = (pcN k a + pcN k b) % 2 := by
  induction k with
  | zero => rfl
  | succ k ih =>
    have hx : (a ^^^ b).testBit k = (a.testBit k ^^ b.testBit k) := Nat.testBit_xor ..
    cases ha : a.testBit k <;> cases hb : b.testBit k <;> rw [ha, hb] at hx
    · rw [pc_no _ _ hx, pc_no _ _ ha, pc_no _ _ hb, ih]
    · rw [pc_yes _ _ hx, pc_no _ _ ha, pc_yes _ _ hb]; omega
    · rw [pc_yes _ _ hx, pc_yes _ _ ha, pc_no _ _ hb]; omega
    · rw [pc_no _ _ hx, pc_yes _ _ ha, pc_yes _ _ hb]; omega
theorem odW_xor (a b : Nat) : odW (a ^^^ b) = (odW a ^^ odW b) := by
  have h := pc_xor a b 39
  unfold odW
  generalize pcN 39 (a ^^^ b) = x at h
  generalize pcN 39 a = y at h
  generalize pcN 39 b = z at h
  rcases Nat.mod_two_eq_zero_or_one y with hy | hy <;> rcases Nat.mod_two_eq_zero_or_one z with hz | hz
  · rw [hy, hz, show x % 2 = 0 by omega]; rfl
  · rw [hy, hz, show x % 2 = 1 by omega]; rfl
  · rw [hy, hz, show x % 2 = 1 by omega]; rfl
  · rw [hy, hz, show x % 2 = 0 by omega]; rfl
theorem one_places : ∀ p, p < 39 → xsW (1 <<< p) 39 = p ∧ odW (1 <<< p) = true := by decide +kernel
theorem or_bit_xor (d p : Nat) (h : d.testBit p = false) : d ||| 1 <<< p = d ^^^ 1 <<< p := by
  refine Nat.eq_of_testBit_eq fun i => ?_
  rw [Nat.testBit_or, Nat.testBit_xor, Nat.one_shiftLeft, Nat.testBit_two_pow]
  by_cases e : p = i
  · subst e; rw [h]; simp
  · simp [e]
theorem one_shl_bit (p i : Nat) : (1 <<< p).testBit i = decide (p = i) := by
  rw [Nat.one_shiftLeft, Nat.testBit_two_pow]
theorem bit_shl (m k p : Nat) : ((m % 2) <<< k).testBit p = (decide (p = k) && m.testBit 0) := by
  rcases Nat.mod_two_eq_zero_or_one m with h | h
  · rw [h, Nat.zero_shiftLeft, Nat.zero_testBit, Nat.testBit_zero, h]; simp
  · rw [h, one_shl_bit, Nat.testBit_zero, h]
    by_cases e : k = p
    · subst e; simp
    · simp [e, Ne.symm e]
theorem spW_bit (n k p : Nat) : (spW n k).testBit p = (decide (p < k) && isW p && n.testBit (cntW p)) := by
  induction k with
  | zero => simp [spW]
  | succ k ih =>
    have hb : (n / 2 ^ cntW k).testBit 0 = n.testBit (cntW k) := by
      rw [Nat.testBit_div_two_pow, Nat.zero_add]
    cases hw : isW k
    · rw [(sp_no n k hw).2, ih]
      by_cases e : p = k
      · subst e; simp [hw]
      · have : decide (p < k + 1) = decide (p < k) := by
          by_cases h : p < k
          · simp [h, Nat.lt_succ_of_lt h]
          · simp [h]; omega
        rw [this]
    · rw [(sp_yes n k hw).2, Nat.testBit_or, ih, bit_shl, hb]
      by_cases e : p = k
      · subst e; simp [hw]
      · have : decide (p < k + 1) = decide (p < k) := by
          by_cases h : p < k
          · simp [h, Nat.lt_succ_of_lt h]
          · simp [h]; omega
        rw [this]; simp [e]
/-- where a code's checks stand, a word spread has noughts -/
theorem not_isW : ∀ i, i < 6 → isW (2 ^ i) = false := by decide +kernel
theorem isW_not : ∀ p, p < 39 → isW p = true → ∀ j, j < 6 → p ≠ 2 ^ j := by decide +kernel
theorem ckW_bit (c s i p : Nat) (h : ∀ j, j < i → p ≠ 2 ^ j) : (ckW c s i).testBit p = c.testBit p := by
  induction i with
  | zero => rfl
  | succ i ih =>
    have h1 := ih (fun j hj => h j (by omega))
    unfold ckW
    split
    · rw [Nat.testBit_or, h1, one_shl_bit]
      have := h i (by omega)
      simp [Ne.symm this]
    · exact h1
theorem low_bits : ∀ s, s < 64 → ∀ i, i < 6 → (s.testBit i = true → s % 2 ^ (i + 1) = s % 2 ^ i ^^^ 2 ^ i) ∧ (s.testBit i = false → s % 2 ^ (i + 1) = s % 2 ^ i) := by decide +kernel
theorem ckW_sum (c s i : Nat) (hs : s < 64) (hi : i ≤ 6) (hc : ∀ j, j < 6 → c.testBit (2 ^ j) = false) : xsW (ckW c s i) 39 = xsW c 39 ^^^ s % 2 ^ i := by
  induction i with
  | zero => simp [ckW, Nat.mod_one]
  | succ i ih =>
    have h1 := ih (by omega)
    obtain ⟨l1, l2⟩ := low_bits s hs i (by omega)
    have hb : (ckW c s i).testBit (2 ^ i) = false := by
      rw [ckW_bit c s i (2 ^ i) (fun j hj e => by have := Nat.pow_lt_pow_right (a := 2) (by decide) hj; omega)]
      exact hc i (by omega)
    have hp : 2 ^ i < 39 := by
      have : 2 ^ i ≤ 2 ^ 5 := Nat.pow_le_pow_right (by decide) (by omega)
      omega
    cases ht : s.testBit i
    · rw [ck_no _ _ _ ht, h1, l2 ht]
    · rw [ck_yes _ _ _ ht, or_bit_xor _ _ hb, xsW_xor, h1, (one_places _ hp).1, l1 ht, Nat.xor_assoc]
theorem spW_pow (n j : Nat) (hj : j < 6) : (spW n 39).testBit (2 ^ j) = false := by rw [spW_bit, not_isW j hj]; simp
theorem coN_eq (n : Nat) : ∃ d, coN n = d ||| (odW d).toNat ∧ d.testBit 0 = false ∧ xsW d 39 = 0 ∧ ∀ p, p < 39 → isW p = true → d.testBit p = (spW n 39).testBit p := by
  refine ⟨ckW (spW n 39) (xsW (spW n 39) 39) 6, rfl, ?_, ?_, fun p hp hw => ckW_bit _ _ _ _ (isW_not p hp hw)⟩
  · rw [ckW_bit _ _ _ 0 (fun j _ e => by have := Nat.two_pow_pos j; omega), spW_bit]
    rw [show isW 0 = false from rfl]; simp
  · have h := xsW_lt (spW n 39) 39 (by omega)
    rw [ckW_sum _ _ 6 h (by omega) (spW_pow n), Nat.mod_eq_of_lt (by omega : xsW (spW n 39) 39 < 2 ^ 6), Nat.xor_self]
theorem coN_sum (n : Nat) : xsW (coN n) 39 = 0 ∧ odW (coN n) = false := by
  obtain ⟨d, e, h0, hx, _⟩ := coN_eq n
  rw [e]
  cases ho : odW d
  · simp [hx, ho]
  · have e2 : d ||| true.toNat = d ^^^ 1 <<< 0 := or_bit_xor d 0 h0
    rw [e2, xsW_xor, odW_xor, hx, ho, (one_places 0 (by decide)).1, (one_places 0 (by decide)).2]
    exact ⟨rfl, rfl⟩
theorem coN_bit (n p : Nat) (hp : p < 39) (hw : isW p = true) : (coN n).testBit p = (spW n 39).testBit p := by
  obtain ⟨d, e, h0, hx, hb⟩ := coN_eq n
  rw [e, Nat.testBit_or, hb p hp hw]
  have hp0 : ¬ p = 0 := by intro e; subst e; exact absurd hw (by decide)
  have : ((odW d).toNat).testBit p = false := by
    cases odW d
    · exact Nat.zero_testBit p
    · have := one_shl_bit 0 p
      rw [show (1 <<< 0 : Nat) = 1 from rfl] at this
      exact this.trans (by simp [Ne.symm hp0])
  rw [this, Bool.or_false]
theorem div_bit (c k : Nat) : c / 2 ^ k % 2 = (c.testBit k).toNat := by
  rw [Nat.testBit_eq_decide_div_mod_eq]
  rcases Nat.mod_two_eq_zero_or_one (c / 2 ^ k) with h | h <;> rw [h] <;> rfl
end

section
theorem Roomy.rd {w : World} {g n : Nat} {L D : List Nat} (h : Roomy w g n L D) (hL : IsB L) (hl : L.length = n) (hn : n ≤ 140737488351232) : Rd w (some ⟨g, 0, none⟩) n (n + 5) L :=
  ⟨hl, by omega, by unfold maxLen; omega, (fun h => by cases h), hL, fun _ => ⟨g, 0, rfl, h.blk.lt, fun i hi => by rw [Nat.zero_add, ← h.own i hi]; exact h.blk.cell i (by rw [h.len]; omega)⟩⟩
theorem grown_far {a b c : World} {r : Option Nat} (h : a.grownBy b none) (k : b.grownBy c r) (hr : ∀ g, r = some g → a.heap.size ≤ g) : a.grownBy c none :=
  ⟨k.os.trans h.os, k.tape.trans h.tape, k.output.trans h.output, Nat.le_trans h.size k.size, fun i hi hn => (k.block i (Nat.lt_of_lt_of_le hi h.size) (fun e => by have := hr i e.symm; omega)).trans (h.block i hi hn)⟩
theorem Ans.later {wa wb : World} {lo lo' : Nat} {a b : Option Addr} {n m cap cap' : Nat} {L M : List Nat} (ha : Ans wa lo a n cap L) (hb : Ans wb lo' b m cap' M) (h : wa.heap.size ≤ lo') :
    ∀ g off, b = some ⟨g, off, none⟩ → some g ≠ (Value.slice a n cap).ownBlock := by
  intro g off e
  rcases hb.cases with ⟨rfl, _, _⟩ | ⟨gb, rfl, h1, _⟩
  · cases e
  · cases e
    rcases ha.cases with ⟨rfl, _, _⟩ | ⟨ga, rfl, _, h2⟩
    · simp [Value.ownBlock]
    · simp only [Value.ownBlock, ne_eq, Option.some.injEq]; omega
theorem Ans.far {wa : World} {lo : Nat} {a : Option Addr} {n cap : Nat} {L : List Nat} (ha : Ans wa lo a n cap L) (B : Nat) (h : B ≤ lo) : ∀ g, (Value.slice a n cap).ownBlock = some g → B ≤ g := fun g hg => Nat.le_trans h (ha.new g hg)
theorem Ans.keep {w w' : World} {lo : Nat} {a : Option Addr} {n cap : Nat} {L : List Nat} (h : Ans w lo a n cap L) (hg : w.grownBy w' none) : Ans w' lo a n cap L :=
  h.kept hg (by cases (Value.slice a n cap).ownBlock <;> simp)
theorem Rd.keep {w w' : World} {a : Option Addr} {n cap : Nat} {L : List Nat} (h : Rd w a n cap L) (hg : w.grownBy w' none) : Rd w' a n cap L := h.grown hg (fun _ _ _ => by simp)
theorem Roomy.keep {w w' : World} {g n : Nat} {L D : List Nat} (h : Roomy w g n L D) (hg : w.grownBy w' none) : Roomy w' g n L D := h.grown hg (by simp)
end

section
/-- a value of several cells in a box -/
def BxS (w : World) (g : Nat) (t : TypeId) (cs : Array Value) : Prop := w.heap[g]? = some (.cells cs t)
theorem BxS.lt {w : World} {g : Nat} {t : TypeId} {cs : Array Value} (h : BxS w g t cs) : g < w.heap.size := (Array.getElem?_eq_some_iff.1 h).1
theorem BxS.free {w : World} {g : Nat} {t : TypeId} {cs : Array Value} (h : BxS w g t cs) (i : Nat) : w.frozen? ⟨g, i, none⟩ = false := frozen_of_row w g i _ _ h
theorem BxS.cell {w : World} {g : Nat} {t : TypeId} {cs : Array Value} (h : BxS w g t cs) (i : Nat) (hi : i < cs.size) : w.cell? ⟨g, i, none⟩ = some cs[i] := by
  rw [cell_of_row w g i cs t (0, 0) h, Array.getElem?_eq_getElem hi]
theorem BxS.keep {w w' : World} {g : Nat} {t : TypeId} {cs : Array Value} {r : Option Nat} (h : BxS w g t cs) (hg : w.grownBy w' r) (hne : some g ≠ r) : BxS w' g t cs := (hg.block g h.lt hne).trans h
theorem BxS.new (w : World) (t : TypeId) (cs : Array Value) : BxS (w.alloc (.cells cs t)) w.heap.size t cs := heap_alloc_new w _
theorem BxS.set {w : World} {g : Nat} {t : TypeId} {cs : Array Value} (h : BxS w g t cs) (i : Nat) (v : Value) : BxS (w.setCell ⟨g, i, none⟩ v) g t (cs.set! i v) := by
  unfold BxS
  rw [setCell_eq_setRow w g i _ _ _ _ h]
  exact setRow_heap w g _ _ _ _ h
theorem BxS.row {w : World} {g : Nat} {t : TypeId} {cs : Array Value} (h : BxS w g t cs) (ds : Array Value) : BxS (w.setRow g ds) g t ds := setRow_heap w g _ _ _ _ h
theorem BxS.load {w : World} {g : Nat} {t : TypeId} {cs : Array Value} (h : BxS w g t cs) {fs : Array Field} (hu : Tryd.prog.underlying t = some (.struct fs)) (hi : (Tryd.prog.info? t).map (·.size) = some cs.size) :
    (loadVar t ⟨g, 0, none⟩).run Tryd.prog w = .ok (.agg cs) w := run_loadVar_row w g t t cs (0, 0) (.struct fs) h hu rfl hi
end

section
/-! slices of numbers as they are read -/
def nthI (S : List Int) (i : Nat) : Int := S.getD i 0
structure RdI (w : World) (a : Option Addr) (n cap : Nat) (S : List Int) : Prop where
  len : S.length = n
  le : n ≤ cap
  max : cap ≤ maxLen
  nil : a = none → cap = 0
  at' : 0 < n → ∃ b off, a = some ⟨b, off, none⟩ ∧ b < w.heap.size ∧ ∀ i, i < n → w.cell? ⟨b, off + i, none⟩ = some (.int .i64 (nthI S i))
theorem RdI.grown {w w' : World} {a : Option Addr} {n cap : Nat} {S : List Int} {r : Option Nat} (h : RdI w a n cap S) (hg : w.grownBy w' r) (hne : ∀ b off, a = some ⟨b, off, none⟩ → some b ≠ r) : RdI w' a n cap S := by
  refine ⟨h.len, h.le, h.max, h.nil, fun h0 => ?_⟩
  obtain ⟨b, off, rfl, hb, hc⟩ := h.at' h0
  refine ⟨b, off, rfl, Nat.lt_of_lt_of_le hb hg.size, fun i hi => ?_⟩
  exact (World.cell?_of_block (w := w) (hg.block b hb (hne b off rfl))).trans (hc i hi)
theorem RdI.keep {w w' : World} {a : Option Addr} {n cap : Nat} {S : List Int} (h : RdI w a n cap S) (hg : w.grownBy w' none) : RdI w' a n cap S := h.grown hg (fun _ _ _ => by simp)
theorem Tryd.info_int : (Tryd.prog.info? 3).map (fun i => (i.zero, i.size, i.bytes)) = some (some (.int .i64 0), 1, 8) := by kernel_rfl
/-! rows of numbers that grow -/
def zys (L : List Int) : List Value := L.map fun n => Value.int .i64 n
theorem zys_length (L : List Int) : (zys L).length = L.length := by simp [zys]
theorem zys_at (L : List Int) (i : Nat) (hi : i < L.length) : (zys L)[i]? = some (.int .i64 (nthI L i)) := by
  unfold zys nthI
  rw [List.getElem?_map, List.getElem?_eq_getElem hi, List.getD_eq_getElem?_getD, List.getElem?_eq_getElem hi]; rfl
/-- an answer of numbers, in memory from block lo on -/
structure AnsZ (w : World) (lo : Nat) (a : Option Addr) (n cap : Nat) (L : List Int) : Prop where
  own : w.ownsRow 0 3 1 (.slice a n cap) n (zys L)
  new : ∀ g, (Value.slice a n cap).ownBlock = some g → lo ≤ g
theorem AnsZ.len {w : World} {lo : Nat} {a : Option Addr} {n cap : Nat} {L : List Int} (h : AnsZ w lo a n cap L) : L.length = n := by
  have := h.own.1; rw [zys_length] at this; omega
theorem AnsZ.cases {w : World} {lo : Nat} {a : Option Addr} {n cap : Nat} {L : List Int} (h : AnsZ w lo a n cap L) :
    (a = none ∧ n = 0 ∧ cap = 0) ∨ ∃ g, a = some ⟨g, 0, none⟩ ∧ lo ≤ g ∧ g < w.heap.size := by
  rcases h.own.2 with ⟨h1, h2⟩ | ⟨g, cap', cur, h1, _, h3, _⟩
  · simp only [Value.slice.injEq] at h1; exact .inl h1
  · simp only [Value.slice.injEq] at h1
    obtain ⟨rfl, _, _⟩ := h1
    exact .inr ⟨g, rfl, h.new g rfl, (Array.getElem?_eq_some_iff.1 h3).1⟩
theorem AnsZ.max {w : World} {lo : Nat} {a : Option Addr} {n cap : Nat} {L : List Int} (h : AnsZ w lo a n cap L) : n ≤ cap ∧ cap ≤ maxLen := by
  rcases h.own.2 with ⟨h1, h2⟩ | ⟨g, cap', cur, h1, _, h3, h4, h5, _⟩
  · simp only [Value.slice.injEq] at h1; obtain ⟨_, h6, h7⟩ := h1; subst h6; subst h7; exact ⟨Nat.le_refl _, Nat.zero_le _⟩
  · simp only [Value.slice.injEq] at h1; obtain ⟨_, _, h7⟩ := h1; subst h7; exact ⟨h4, h5⟩
theorem AnsZ.rd {w : World} {lo : Nat} {a : Option Addr} {n cap : Nat} {L : List Int} (h : AnsZ w lo a n cap L) : RdI w a n cap L := by
  refine ⟨h.len, h.max.1, h.max.2, fun h0 => ?_, fun h0 => ?_⟩
  · rcases h.cases with ⟨_, _, h3⟩ | ⟨g, h1, _⟩
    · exact h3
    · rw [h0] at h1; cases h1
  · rcases h.cases with ⟨_, h2, _⟩ | ⟨g, rfl, _, hl⟩
    · omega
    · refine ⟨g, 0, rfl, hl, fun i hi => ?_⟩
      have hL := h.len
      rw [Nat.zero_add, h.own.cellAt i (by omega)]
      exact zys_at L i (by omega)
theorem AnsZ.kept {w w' : World} {lo : Nat} {a : Option Addr} {n cap : Nat} {L : List Int} {r : Option Nat} (h : AnsZ w lo a n cap L) (hg : w.grownBy w' r) (hne : (Value.slice a n cap).ownBlock = none ∨ (Value.slice a n cap).ownBlock ≠ r) : AnsZ w' lo a n cap L :=
  ⟨h.own.kept hg hne, h.new⟩
theorem AnsZ.keep {w w' : World} {lo : Nat} {a : Option Addr} {n cap : Nat} {L : List Int} (h : AnsZ w lo a n cap L) (hg : w.grownBy w' none) : AnsZ w' lo a n cap L :=
  h.kept hg (by cases (Value.slice a n cap).ownBlock <;> simp)
theorem AnsZ.lt {w : World} {lo : Nat} {a : Option Addr} {n cap : Nat} {L : List Int} (h : AnsZ w lo a n cap L) : ∀ g, (Value.slice a n cap).ownBlock = some g → g < w.heap.size := by
  intro g hg
  rcases h.cases with ⟨rfl, _, _⟩ | ⟨g', rfl, _, hl⟩
  · simp [Value.ownBlock] at hg
  · have : g' = g := by simpa [Value.ownBlock] using hg
    omega
theorem ansZ_nil (w : World) (lo : Nat) : AnsZ w lo none 0 0 [] := ⟨World.ownsRow_nil _ _ _ _, fun g h => by simp [Value.ownBlock] at h⟩
theorem own_baseI {w : World} {base : Nat} {v : Value} {n : Nat} {xs : List Value} (h : w.ownsRow base 3 1 v n xs) : w.ownsRow 0 3 1 v n xs := by
  refine ⟨h.1, ?_⟩
  rcases h.2 with h2 | ⟨g, cap, cur, h3, h4, h5⟩
  · exact .inl h2
  · exact .inr ⟨g, cap, cur, h3, Nat.zero_le _, h5⟩
/-- 'append(v, x...)' of numbers, v the call's own, x not empty -/
theorem wpList_apI (w : World) {ops : Array Oper} {rest : List Oper} {o : Oper} {a : Act} {Q : Exit → Act → World → Prop} (hg : o.guard = none) (s x : Operand)
    (hop : o.op = Op.call { callee := .builtin .append, args := #[s, x], argTypes := #[27, 27] }) (v : Value) (n : Nat) (xs : List Value) (hs : a.eval s = v)
    (hown : w.ownsRow 0 3 1 v n xs) (ad : Addr) (m c : Nat) (news : List Value) (hx : a.eval x = .slice (some ad) m c) (hn : news.length = m)
    (hc : ∀ j u, news[j]? = some u → w.cell? (ad.add j) = some u) (h1 : ∀ u, u ∈ news → u.oneCell' = true) (hm : 0 < m) (hb : n + m ≤ 17592186044416)
    (hK : ∀ g cap w', (v.ownBlock = some g ∨ w.heap.size ≤ g) → w.grownBy w' v.ownBlock → w'.ownsRow 0 3 1 (.slice (some ⟨g, 0, none⟩) (n + m) cap) (n + m) (xs ++ news) →
      wpList Tryd.prog ops Q rest (a.put o.dst (.slice (some ⟨g, 0, none⟩) (n + m) cap)) w') :
    wpList Tryd.prog ops Q (o :: rest) a w := by
  obtain ⟨i0, hi, hz0, hz1, hz2⟩ := info_parts Tryd.info_int
  have grow : ∀ (ao : Option Addr) (cap : Nat), v = .slice ao n cap → (ao = none → n = 0 ∧ cap = 0) → (∀ b, ao = some b → ∀ j u, xs[j]? = some u → w.cell? (b.add j) = some u) → cap < n + m → wpList Tryd.prog ops Q (o :: rest) a w := by
    intro ao cap hv hnone hcells hfull
    refine wpList_append_grows w hg s x 27 hop 3 i0 (.int .i64 0) 1 8 Tryd.underlying27 hi hz0 hz1 hz2 rfl (by decide) ao n cap xs (by rw [hs, hv]) hnone (by rw [hown.1]) hcells ad m c news hx (by rw [hn, Nat.mul_one]) hc h1 hfull (by unfold maxLen; omega) (by omega) ?_
    intro v' w' hown' hgr
    rcases hown'.2 with ⟨_, h0⟩ | ⟨g, cap', cur, rfl, hge, hrest⟩
    · omega
    · exact hK g cap' w' (.inr hge) (grown_weak hgr _) (own_baseI hown')
  rcases hown.2 with ⟨rfl, h0⟩ | ⟨g, cap, cur, rfl, hbase, hh, hle, hmax, hsz, htake⟩
  · subst h0
    exact grow none 0 rfl (fun _ => ⟨rfl, rfl⟩) (fun b hb => by cases hb) (by omega)
  · by_cases hroom : n + m ≤ cap
    · refine wpList_append_fits w hg s x 27 hop 0 3 i0 1 Tryd.underlying27 hi hz1 g n cap xs hs hown ad m c news hx (by rw [hn, Nat.mul_one]) hc h1 hroom ?_
      intro w' hown' hgr
      exact hK g cap w' (.inl rfl) hgr hown'
    · refine grow (some ⟨g, 0, none⟩) cap rfl (fun h => by cases h) ?_ (by omega)
      intro b hb j u hu
      cases hb
      exact hown.cells (g := g) rfl j u hu
theorem cell_oneI (w : World) (v : Value) (j : Nat) (u : Value) (h : [v][j]? = some u) : (w.alloc (.cells #[v] 3)).cell? ((⟨w.heap.size, 0, none⟩ : Addr).add j) = some u := by
  rw [addr_add, cell_of_row _ _ _ _ _ _ (heap_alloc_new w _)]
  simpa using h
set_option maxHeartbeats 1000000 in
theorem sameInts_any (a b : Option Addr) (n m cap cap' : Nat) (S : List Int) (w : World) (h : RdI w a n cap S) (k : RdI w b m cap' S) :
    Calls Tryd.prog 6 #[.slice a n cap, .slice b m cap'] w fun e w' => e = .returned (.bool true) ∧ w.grownBy w' none := by
  have e0 : n = m := by rw [← h.len, ← k.len]
  subst e0
  have hm1 := h.le; have hm2 := h.max
  unfold maxLen at hm2
  go_enter Tryd.func6, Tryd.ntmps6
  go_wp2
  go_loopw [5] (fun i wr => ∃ q : Nat, q ≤ n ∧ i = .int .i64 q ∧ w.grownBy wr none) (fun i _ => n - (intOf i).toNat)
  case atStart => exact ⟨0, by omega, rfl, World.grownBy.refl _ _⟩
  case round =>
    obtain ⟨q, hq, rfl, hgr⟩ := hrel
    by_cases hlt : q < n
    · obtain ⟨b1, o1, e1, _, hc1⟩ := (h.keep hgr).at' (by omega)
      obtain ⟨b2, o2, e2, _, hc2⟩ := (k.keep hgr).at' (by omega)
      subst e1
      subst e2
      have c1 := hc1 q hlt
      have c2 := hc2 q hlt
      have hqi : (q : Int) < (n : Int) := by omega
      clear hc1 hc2 h k
      generalize nthI S q = x at *
      go_wp2
      go_quiet (fail)
      go_wp2
      go_roundw
      case rel => exact ⟨q + 1, by omega, by go_num, grown_trans hgr (grown_drewN _ _ _)⟩
      case measure => simp [intOf]; omega
    · go_wp2
      go_ret
      exact ⟨rfl, hgr⟩
end

section
/-- block g is a row of numbers -/
def BlZ (w : World) (g : Nat) (L : List Nat) : Prop := w.heap[g]? = some (.cells (L.map fun (n : Nat) => Value.int .i64 (n : Int)).toArray 3)
theorem BlZ.lt {w : World} {g : Nat} {L : List Nat} (h : BlZ w g L) : g < w.heap.size := (Array.getElem?_eq_some_iff.1 h).1
theorem BlZ.cell {w : World} {g : Nat} {L : List Nat} (h : BlZ w g L) (i : Nat) (hi : i < L.length) : w.cell? ⟨g, i, none⟩ = some (.int .i64 (nth L i : Nat)) := by
  rw [cell_of_row w g i _ _ _ h]
  unfold nth
  simp [hi]
theorem BlZ.free {w : World} {g : Nat} {L : List Nat} (h : BlZ w g L) (i : Nat) : w.frozen? ⟨g, i, none⟩ = false := frozen_of_row w g i _ _ h
theorem BlZ.set {w : World} {g : Nat} {L : List Nat} (h : BlZ w g L) (i x : Nat) : BlZ (w.setCell ⟨g, i, none⟩ (.int .i64 (x : Int))) g (L.set i x) := by
  unfold BlZ
  rw [heap_setCell_same w g i _ _ _ h]
  simp [List.map_set]
theorem BlZ.grown {w w' : World} {g : Nat} {L : List Nat} {r : Option Nat} (h : BlZ w g L) (hg : w.grownBy w' r) (hne : some g ≠ r) : BlZ w' g L := by
  unfold BlZ; rw [hg.block g h.lt hne]; exact h
/-- a memory of words, as it lies -/
structure Mem (w : World) (gm gc nx : Nat) (C : List Nat) : Prop where
  box : BxS w gm 61 #[.slice (some ⟨gc, 0, none⟩) C.length C.length, .int .i64 (nx : Int)]
  row : BlZ w gc C
  ne : gm ≠ gc
  code : ∀ k, k < C.length → nth C k < 549755813888
  one : 1 ≤ C.length
  most : C.length ≤ 4096
  next : nx < C.length
theorem Mem.grown {w w' : World} {gm gc nx : Nat} {C : List Nat} {r : Option Nat} (h : Mem w gm gc nx C) (hg : w.grownBy w' r) (h1 : some gm ≠ r) (h2 : some gc ≠ r) : Mem w' gm gc nx C :=
  ⟨h.box.keep hg h1, h.row.grown hg h2, h.ne, h.code, h.one, h.most, h.next⟩
theorem Mem.set {w : World} {gm gc nx : Nat} {C : List Nat} (h : Mem w gm gc nx C) (k x : Nat) (hx : x < 549755813888) : Mem (w.setCell ⟨gc, k, none⟩ (.int .i64 (x : Int))) gm gc nx (C.set k x) := by
  have hb := h.box.keep (grown_set w gc k (.int .i64 (x : Int))) (by simp; exact h.ne)
  refine ⟨by rw [List.length_set]; exact hb, h.row.set k x, h.ne, fun j hj => ?_, by rw [List.length_set]; exact h.one, by rw [List.length_set]; exact h.most, by rw [List.length_set]; exact h.next⟩
  rw [List.length_set] at hj
  by_cases hk : k < C.length
  · rw [nth_set _ _ _ _ hk]
    split
    · exact hx
    · exact h.code j hj
  · rw [List.set_eq_of_length_le (by omega)]
    exact h.code j hj
theorem xo_ltM (c p : Nat) (hc : c < 549755813888) (hp : p < 39) : c ^^^ 1 <<< p < 549755813888 := by
  refine Nat.xor_lt_two_pow (n := 39) hc ?_
  rw [Nat.shiftLeft_eq, Nat.one_mul]
  exact Nat.pow_lt_pow_right (by decide) hp
theorem xor_shlM (c p : Nat) (hc : c < 549755813888) (hp : p < 39) : bits .xor .i64 (c : Int) (wrap64 (2 ^ p)) = ((c ^^^ 1 <<< p : Nat) : Int) := by
  rw [shl_one p hp]
  refine i64_xor_nat c (1 <<< p) (by omega) ?_
  rw [Nat.shiftLeft_eq, Nat.one_mul]
  exact Nat.pow_lt_pow_right (by decide) (by omega)
theorem has_any (gm gc nx : Nat) (C : List Nat) (z : Int) (w : World) (h : Mem w gm gc nx C) :
    Calls Tryd.prog 19 #[.pointer (some ⟨gm, 0, none⟩), .int .i64 z] w fun e w' => e = .returned (.bool (inN z ((C.length : Int) - 1))) ∧ w' = w := by
  have c0 := h.box.cell 0 (by simp)
  simp at c0
  have hl := h.one
  have hm := h.most
  have HI := fun w => mwithin_any z ((C.length : Int) - 1) w
  go_enter Tryd.func19, Tryd.ntmps19
  go_wp2_with (go_at_call 23; refine (HI _).mono ?_; rintro e w' ⟨rfl, hw⟩; have hw := hw.symm; subst hw)
  go_ret
  exact ⟨rfl, rfl⟩
/-- Store, of a word that may be, at a place that is there -/
theorem mstore_any (gm gc nx k n : Nat) (C : List Nat) (w : World) (h : Mem w gm gc nx C) (hk : k < C.length) (hn : n < 4294967296) :
    Calls Tryd.prog 12 #[.pointer (some ⟨gm, 0, none⟩), .int .i64 k, .int .i64 n] w fun e w' => e = .returned .nilIface ∧ Mem w' gm gc nx (C.set k (coN n)) ∧ w.grownBy w' (some gc) := by
  have c0 := h.box.cell 0 (by simp)
  simp at c0
  have hc := h.row.cell k hk
  have hf := h.row.free k
  have hm := h.most
  have H1 := fun wz => code_any (n : Int) wz
  have e1 := cdE_ok (z := (n : Int)) ⟨by omega, by omega⟩
  rw [Int.toNat_natCast] at e1
  rw [e1.1, e1.2] at H1
  have H2 := has_any gm gc nx C (k : Int) w h
  rw [inN_t ⟨by omega, by omega⟩] at H2
  have hM := h.set k (coN n) (coN_lt n)
  have hG := grown_set w gc k (.int .i64 (coN n : Int))
  have hki : (k : Int) < (C.length : Int) := by omega
  generalize coN n = x at H1 hM hG ⊢
  go_enter Tryd.func12, Tryd.ntmps12
  go_wp2_with (first
    | (go_at_call 22; refine (H1 _).mono ?_; rintro e w' ⟨rfl, hw⟩; have hw := hw.symm; subst hw)
    | (go_at_call 19; refine H2.mono ?_; rintro e w' ⟨rfl, hw⟩; have hw := hw.symm; subst hw))
  go_ret
  exact ⟨rfl, hM, hG⟩
/-- Turn of a bit that is there -/
theorem mturn_any (gm gc nx k b : Nat) (C : List Nat) (w : World) (h : Mem w gm gc nx C) (hk : k < C.length) (hb : b < 39) :
    Calls Tryd.prog 13 #[.pointer (some ⟨gm, 0, none⟩), .int .i64 k, .int .i64 b] w fun e w' => e = .returned .nilIface ∧ Mem w' gm gc nx (C.set k (nth C k ^^^ 1 <<< b)) ∧ w.grownBy w' (some gc) := by
  have c0 := h.box.cell 0 (by simp)
  simp at c0
  have hc := h.row.cell k hk
  have hf := h.row.free k
  have hm := h.most
  have H1 := fun wz => mwithin_any (b : Int) 38 wz
  rw [inN_t ⟨by omega, by omega⟩] at H1
  have H2 := has_any gm gc nx C (k : Int) w h
  rw [inN_t ⟨by omega, by omega⟩] at H2
  have hxc := h.code k hk
  have hx1 := xor_shlM (nth C k) b hxc hb
  have hM := h.set k (nth C k ^^^ 1 <<< b) (xo_ltM _ _ hxc hb)
  have hG := grown_set w gc k (.int .i64 (nth C k ^^^ 1 <<< b : Nat))
  have hki : (k : Int) < (C.length : Int) := by omega
  generalize nth C k ^^^ 1 <<< b = x at hx1 hM hG ⊢
  generalize nth C k = y at hx1 hc hxc
  go_enter Tryd.func13, Tryd.ntmps13
  go_wp2_with (first
    | (go_at_call 19; refine H2.mono ?_; rintro e w' ⟨rfl, hw⟩; have hw := hw.symm; subst hw)
    | (go_at_call 23; refine (H1 _).mono ?_; rintro e w' ⟨rfl, hw⟩; have hw := hw.symm; subst hw))
  go_region
  all_goals
    go_wp2
    go_ret
    exact ⟨rfl, hM.grown (grown_drew _ none) (by simp) (by simp), grown_trans hG (grown_drew _ _)⟩
theorem wr_one {c : Nat} (h : wrW c ≤ 1) : riE c = 0 := by
  unfold riE
  rw [if_neg (by omega)]
/-- a visit of a place whose word is not lost -/
theorem visit_ok (gm gc nx k : Nat) (C : List Nat) (w : World) (h : Mem w gm gc nx C) (hk : k < C.length) (hw : wrW (nth C k) ≤ 1) :
    Calls Tryd.prog 20 #[.pointer (some ⟨gm, 0, none⟩), .int .i64 k] w fun e w' => e = .returned (.tuple #[.bool (wrW (nth C k) == 1), .int .i64 0]) ∧ Mem w' gm gc nx (C.set k (riW (nth C k))) ∧ w.grownBy w' (some gc) := by
  have c0 := h.box.cell 0 (by simp)
  simp at c0
  have hc := h.row.cell k hk
  have hf := h.row.free k
  have hm := h.most
  have hxc := h.code k hk
  have H1 := fun wz => righted_any (nth C k) hxc wz
  rw [wr_one hw] at H1
  have hM := h.set k (riW (nth C k)) (riW_lt _ hxc)
  have hG := grown_set w gc k (.int .i64 (riW (nth C k) : Nat))
  have hki : (k : Int) < (C.length : Int) := by omega
  generalize riW (nth C k) = x at H1 hM hG ⊢
  generalize (wrW (nth C k) == 1) = b at H1 ⊢
  generalize nth C k = y at H1 hc hxc
  go_enter Tryd.func20, Tryd.ntmps20
  go_wp2_with (first
    | (go_at_call 32; refine (H1 _).mono ?_; rintro e w' ⟨rfl, hw⟩; have hw := hw.symm; subst hw))
  go_ret2
  exact ⟨rfl, hM, hG⟩
/-- Load of a word that is not lost -/
theorem mload_ok (gm gc nx k : Nat) (C : List Nat) (w : World) (h : Mem w gm gc nx C) (hk : k < C.length) (hw : wrW (nth C k) ≤ 1) :
    Calls Tryd.prog 11 #[.pointer (some ⟨gm, 0, none⟩), .int .i64 k] w fun e w' => e = .returned (.tuple #[.int .i64 (gaW (riW (nth C k)) 39 : Nat), .nilIface]) ∧ Mem w' gm gc nx (C.set k (riW (nth C k))) ∧ w.grownBy w' (some gc) := by
  have hm := h.most
  have hxc := h.code k hk
  have H2 := has_any gm gc nx C (k : Int) w h
  rw [inN_t ⟨by omega, by omega⟩] at H2
  have H1 := visit_ok gm gc nx k C w h hk hw
  have H3 := fun wz => gathered_any (riW (nth C k)) (riW_lt _ hxc) wz
  have hrn : nth (C.set k (riW (nth C k))) k = riW (nth C k) := by rw [nth_set _ _ _ _ hk, if_pos rfl]
  have hki : (k : Int) < (C.length : Int) := by omega
  have HL : Hid ((C.set k (riW (nth C k))).length = C.length) := List.length_set
  generalize C.set k (riW (nth C k)) = C' at H1 hrn HL ⊢
  generalize riW (nth C k) = x at H3 hrn ⊢
  generalize (wrW (nth C k) == 1) = b at H1
  generalize gaW x 39 = r at H3 ⊢
  go_enter Tryd.func11, Tryd.ntmps11
  go_wp2_with (first
    | (go_at_call 19; refine H2.mono ?_; rintro e w' ⟨rfl, hw⟩; have hw := hw.symm; subst hw)
    | (go_at_call 20; refine H1.mono ?_; rintro e w1 ⟨rfl, hM, hG⟩; have c0 := hM.box.cell 0 (by simp); simp at c0; have hc := hM.row.cell k (by rw [HL.out]; exact hk); rw [hrn] at hc; have hki2 : (k : Int) < (C'.length : Int) := (by rw [HL.out]; exact hki))
    | (go_at_call 21; refine (H3 _).mono ?_; rintro e w' ⟨rfl, hw⟩; have hw := hw.symm; subst hw))
  go_ret2
  exact ⟨rfl, hM, hG⟩
/-- all blocks but those of p lie as they lay -/
structure Fw (p : Nat → Prop) (w w' : World) : Prop where
  os : w'.os = w.os
  tape : w'.tape = w.tape
  output : w'.output = w.output
  size : w.heap.size ≤ w'.heap.size
  block : ∀ k, k < w.heap.size → ¬ p k → w'.heap[k]? = w.heap[k]?
theorem Fw.refl (p : Nat → Prop) (w : World) : Fw p w w := ⟨rfl, rfl, rfl, Nat.le_refl _, fun _ _ _ => rfl⟩
theorem Fw.step {p : Nat → Prop} {a w w' : World} {r : Option Nat} (f : Fw p a w) (h : w.grownBy w' r) (hr : ∀ k, r = some k → k < a.heap.size → p k) : Fw p a w' :=
  ⟨h.os.trans f.os, h.tape.trans f.tape, h.output.trans f.output, Nat.le_trans f.size h.size, fun k hk hn => (h.block k (Nat.lt_of_lt_of_le hk f.size) (fun e => hn (hr k e.symm hk))).trans (f.block k hk hn)⟩
/-- the memory's own two blocks -/
def mB (gm gc i : Nat) : Prop := i = gm ∨ i = gc
theorem Mem.nextTo {w : World} {gm gc nx : Nat} {C : List Nat} (h : Mem w gm gc nx C) (n : Nat) (hn : n < C.length) : Mem (w.setCell ⟨gm, 1, none⟩ (.int .i64 (n : Int))) gm gc n C :=
  ⟨h.box.set 1 _, h.row.grown (grown_set _ _ _ _) (by simp; exact Ne.symm h.ne), h.ne, h.code, h.one, h.most, hn⟩
end
end Go.Proofs.YtgnicopijocnjaaDoor
