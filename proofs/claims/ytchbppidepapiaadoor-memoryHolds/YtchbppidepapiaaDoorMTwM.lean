import Derived.Test.YtchbppidepapiaaDoorMRf
namespace Go.Proofs.YtchbppidepapiaaDoor
open Go.RowKit
set_option maxRecDepth 100000
set_option linter.unusedVariables false
set_option linter.unusedSimpArgs false

theorem xsW_xor (a b k : Nat) : xsW (a ^^^ b) k = xsW a k ^^^ xsW b k := by
  induction k with
  | zero => simp [xsW]
  | succ k ih =>
    unfold xsW
    rw [ih, Nat.testBit_xor]
    cases a.testBit k <;> cases b.testBit k
    · simp
    · simp [Nat.xor_assoc]
    · simp only [Bool.xor_false, if_true, Bool.false_eq_true, if_false]
      rw [Nat.xor_assoc, Nat.xor_comm (xsW b k) k, ← Nat.xor_assoc]
    · simp only [Bool.xor_self, if_true, Bool.false_eq_true, if_false]
      rw [Nat.xor_assoc, ← Nat.xor_assoc k, Nat.xor_comm k, Nat.xor_assoc (xsW b k), Nat.xor_self, Nat.xor_zero]
theorem pc_xor (a b k : Nat) : pcN k (a ^^^ b) % 2 = (pcN k a + pcN k b) % 2 := by
  induction k with
  | zero => rfl
  | succ k ih =>
    have hx : (a ^^^ b).testBit k = (a.testBit k ^^ b.testBit k) := Nat.testBit_xor ..
    cases ha : a.testBit k <;> cases hb : b.testBit k <;> rw [ha, hb] at hx
    · rw [pc_no _ _ hx, pc_no _ _ ha, pc_no _ _ hb, ih]
    · rw [pc_yes _ _ hx, pc_no _ _ ha, pc_yes _ _ hb]; omega
    · rw [pc_yes _ _ hx, pc_yes _ _ ha, pc_no _ _ hb]; omega
    · rw [pc_no _ _ hx, pc_yes _ _ ha, pc_yes _ _ hb]; omega
theorem odW_xor (a b : Nat) : odW (a ^^^ b) = (odW a ^^ odW b) := by
  have h := pc_xor a b 39
  unfold odW
  generalize pcN 39 (a ^^^ b) = x at h
  generalize pcN 39 a = y at h
  generalize pcN 39 b = z at h
  rcases Nat.mod_two_eq_zero_or_one y with hy | hy <;> rcases Nat.mod_two_eq_zero_or_one z with hz | hz
  · rw [hy, hz, show x % 2 = 0 by omega]; rfl
  · rw [hy, hz, show x % 2 = 1 by omega]; rfl
  · rw [hy, hz, show x % 2 = 1 by omega]; rfl
  · rw [hy, hz, show x % 2 = 0 by omega]; rfl
theorem one_places : ∀ p, p < 39 → xsW (1 <<< p) 39 = p ∧ odW (1 <<< p) = true := by decide +kernel
theorem or_bit_xor (d p : Nat) (h : d.testBit p = false) : d ||| 1 <<< p = d ^^^ 1 <<< p := by
  refine Nat.eq_of_testBit_eq fun i => ?_
  rw [Nat.testBit_or, Nat.testBit_xor, Nat.one_shiftLeft, Nat.testBit_two_pow]
  by_cases e : p = i
  · subst e; rw [h]; simp
  · simp [e]
theorem one_shl_bit (p i : Nat) : (1 <<< p).testBit i = decide (p = i) := by
  rw [Nat.one_shiftLeft, Nat.testBit_two_pow]
theorem bit_shl (m k p : Nat) : ((m % 2) <<< k).testBit p = (decide (p = k) && m.testBit 0) := by
  rcases Nat.mod_two_eq_zero_or_one m with h | h
  · rw [h, Nat.zero_shiftLeft, Nat.zero_testBit, Nat.testBit_zero, h]; simp
  · rw [h, one_shl_bit, Nat.testBit_zero, h]
    by_cases e : k = p
    · subst e; simp
    · simp [e, Ne.symm e]
theorem spW_bit (n k p : Nat) : (spW n k).testBit p = (decide (p < k) && isW p && n.testBit (cntW p)) := by
  induction k with
  | zero => simp [spW]
  | succ k ih =>
    have hb : (n / 2 ^ cntW k).testBit 0 = n.testBit (cntW k) := by
      rw [Nat.testBit_div_two_pow, Nat.zero_add]
    cases hw : isW k
    · rw [(sp_no n k hw).2, ih]
      by_cases e : p = k
      · subst e; simp [hw]
      · have : decide (p < k + 1) = decide (p < k) := by
          by_cases h : p < k
          · simp [h, Nat.lt_succ_of_lt h]
          · simp [h]; omega
        rw [this]
    · rw [(sp_yes n k hw).2, Nat.testBit_or, ih, bit_shl, hb]
      by_cases e : p = k
      · subst e; simp [hw]
      · have : decide (p < k + 1) = decide (p < k) := by
          by_cases h : p < k
          · simp [h, Nat.lt_succ_of_lt h]
          · simp [h]; omega
        rw [this]; simp [e]
/-- where a code's checks stand, a word spread has noughts -/
theorem not_isW : ∀ i, i < 6 → isW (2 ^ i) = false := by decide +kernel
theorem isW_not : ∀ p, p < 39 → isW p = true → ∀ j, j < 6 → p ≠ 2 ^ j := by decide +kernel
theorem ckW_bit (c s i p : Nat) (h : ∀ j, j < i → p ≠ 2 ^ j) : (ckW c s i).testBit p = c.testBit p := by
  induction i with
  | zero => rfl
  | succ i ih =>
    have h1 := ih (fun j hj => h j (by omega))
    unfold ckW
    split
    · rw [Nat.testBit_or, h1, one_shl_bit]
      have := h i (by omega)
      simp [Ne.symm this]
    · exact h1
theorem low_bits : ∀ s, s < 64 → ∀ i, i < 6 → (s.testBit i = true → s % 2 ^ (i + 1) = s % 2 ^ i ^^^ 2 ^ i) ∧ (s.testBit i = false → s % 2 ^ (i + 1) = s % 2 ^ i) := by decide +kernel
theorem ckW_sum (c s i : Nat) (hs : s < 64) (hi : i ≤ 6) (hc : ∀ j, j < 6 → c.testBit (2 ^ j) = false) : xsW (ckW c s i) 39 = xsW c 39 ^^^ s % 2 ^ i := by
  induction i with
  | zero => simp [ckW, Nat.mod_one]
  | succ i ih =>
    have h1 := ih (by omega)
    obtain ⟨l1, l2⟩ := low_bits s hs i (by omega)
    have hb : (ckW c s i).testBit (2 ^ i) = false := by
      rw [ckW_bit c s i (2 ^ i) (fun j hj e => by have := Nat.pow_lt_pow_right (a := 2) (by decide) hj; omega)]
      exact hc i (by omega)
    have hp : 2 ^ i < 39 := by
      have : 2 ^ i ≤ 2 ^ 5 := Nat.pow_le_pow_right (by decide) (by omega)
      omega
    cases ht : s.testBit i
    · rw [ck_no _ _ _ ht, h1, l2 ht]
    · rw [ck_yes _ _ _ ht, or_bit_xor _ _ hb, xsW_xor, h1, (one_places _ hp).1, l1 ht, Nat.xor_assoc]
theorem spW_pow (n j : Nat) (hj : j < 6) : (spW n 39).testBit (2 ^ j) = false := by rw [spW_bit, not_isW j hj]; simp
theorem coN_eq (n : Nat) : ∃ d, coN n = d ||| (odW d).toNat ∧ d.testBit 0 = false ∧ xsW d 39 = 0 ∧ ∀ p, p < 39 → isW p = true → d.testBit p = (spW n 39).testBit p := by
  refine ⟨ckW (spW n 39) (xsW (spW n 39) 39) 6, rfl, ?_, ?_, fun p hp hw => ckW_bit _ _ _ _ (isW_not p hp hw)⟩
  · rw [ckW_bit _ _ _ 0 (fun j _ e => by have := Nat.two_pow_pos j; omega), spW_bit]
    rw [show isW 0 = false from rfl]; simp
  · have h := xsW_lt (spW n 39) 39 (by omega)
    rw [ckW_sum _ _ 6 h (by omega) (spW_pow n), Nat.mod_eq_of_lt (by omega : xsW (spW n 39) 39 < 2 ^ 6), Nat.xor_self]
theorem coN_sum (n : Nat) : xsW (coN n) 39 = 0 ∧ odW (coN n) = false := by
  obtain ⟨d, e, h0, hx, _⟩ := coN_eq n
  rw [e]
  cases ho : odW d
  · simp [hx, ho]
  · have e2 : d ||| true.toNat = d ^^^ 1 <<< 0 := or_bit_xor d 0 h0
    rw [e2, xsW_xor, odW_xor, hx, ho, (one_places 0 (by decide)).1, (one_places 0 (by decide)).2]
    exact ⟨rfl, rfl⟩
theorem coN_bit (n p : Nat) (hp : p < 39) (hw : isW p = true) : (coN n).testBit p = (spW n 39).testBit p := by
  obtain ⟨d, e, h0, hx, hb⟩ := coN_eq n
  rw [e, Nat.testBit_or, hb p hp hw]
  have hp0 : ¬ p = 0 := by intro e; subst e; exact absurd hw (by decide)
  have : ((odW d).toNat).testBit p = false := by
    cases odW d
    · exact Nat.zero_testBit p
    · have := one_shl_bit 0 p
      rw [show (1 <<< 0 : Nat) = 1 from rfl] at this
      exact this.trans (by simp [Ne.symm hp0])
  rw [this, Bool.or_false]
theorem div_bit (c k : Nat) : c / 2 ^ k % 2 = (c.testBit k).toNat := by
  rw [Nat.testBit_eq_decide_div_mod_eq]
  rcases Nat.mod_two_eq_zero_or_one (c / 2 ^ k) with h | h <;> rw [h] <;> rfl
theorem gaW_congr (a b k : Nat) (h : ∀ p, p < k → isW p = true → a.testBit p = b.testBit p) : gaW a k = gaW b k := by
  induction k with
  | zero => rfl
  | succ k ih =>
    have h1 := ih (fun p hp => h p (by omega))
    cases hw : isW k
    · rw [(ga_no a k hw).2, (ga_no b k hw).2, h1]
    · rw [(ga_yes a k hw).2, (ga_yes b k hw).2, h1, div_bit, div_bit, h k (by omega) hw]
theorem gaW_spW (n K k : Nat) (hk : k ≤ K) : gaW (spW n K) k = n % 2 ^ cntW k := by
  induction k with
  | zero => simp [gaW, cntW, Nat.mod_one]
  | succ k ih =>
    have h1 := ih (by omega)
    cases hw : isW k
    · rw [(ga_no _ k hw).2, (ga_no n k hw).1, h1]
    · have hb : (spW n K).testBit k = n.testBit (cntW k) := by
        rw [spW_bit, hw]; simp; omega
      rw [(ga_yes _ k hw).2, (ga_yes n k hw).1, h1, div_bit, hb, ← div_bit]
      have h3 := Nat.shiftLeft_add_eq_or_of_lt (Nat.mod_lt n (Nat.two_pow_pos (cntW k))) (n / 2 ^ cntW k % 2)
      rw [Nat.or_comm, ← h3, Nat.mod_pow_succ, Nat.shiftLeft_eq, Nat.add_comm, Nat.mul_comm]
/-- WHAT IS CODED IS GATHERED AGAIN -/
theorem ga_co (n : Nat) (hn : n < 4294967296) : gaW (coN n) 39 = n := by
  rw [gaW_congr (coN n) (spW n 39) 39 (fun p hp hw => coN_bit n p hp hw), gaW_spW n 39 39 (Nat.le_refl _)]
  exact Nat.mod_eq_of_lt (by rw [show cntW 39 = 32 by decide +kernel]; exact hn)
/-- no bit is wrong -/
theorem none_wrong (n : Nat) : wrW (coN n) = 0 ∧ riW (coN n) = coN n := by
  obtain ⟨h1, h2⟩ := coN_sum n
  have h : wrW (coN n) = 0 := by simp [wrW, h1, h2]
  exact ⟨h, by simp [riW, h]⟩
/-- ONE WRONG BIT IS MENDED -/
theorem one_wrong (n p : Nat) (hp : p < 39) : wrW (coN n ^^^ 1 <<< p) = 1 ∧ riW (coN n ^^^ 1 <<< p) = coN n := by
  obtain ⟨h1, h2⟩ := coN_sum n
  obtain ⟨h3, h4⟩ := one_places p hp
  have hx : xsW (coN n ^^^ 1 <<< p) 39 = p := by rw [xsW_xor, h1, h3, Nat.zero_xor]
  have ho : odW (coN n ^^^ 1 <<< p) = true := by rw [odW_xor, h2, h4]; rfl
  have h : wrW (coN n ^^^ 1 <<< p) = 1 := by simp [wrW, hx, ho, hp]
  refine ⟨h, ?_⟩
  unfold riW
  rw [h, hx, Nat.xor_assoc, Nat.xor_self, Nat.xor_zero]
  rfl
theorem xor_ne {p q : Nat} (h : p ≠ q) : ¬ p ^^^ q = 0 := by
  intro e
  refine h ?_
  have : p ^^^ q ^^^ q = p := by rw [Nat.xor_assoc, Nat.xor_self, Nat.xor_zero]
  rw [e, Nat.zero_xor] at this
  exact this.symm
/-- TWO ARE TOLD -/
theorem two_wrong (n p q : Nat) (hp : p < 39) (hq : q < 39) (h : p ≠ q) : wrW (coN n ^^^ 1 <<< p ^^^ 1 <<< q) = 2 := by
  obtain ⟨h1, h2⟩ := coN_sum n
  obtain ⟨h3, h4⟩ := one_places p hp
  obtain ⟨h5, h6⟩ := one_places q hq
  have hx : xsW (coN n ^^^ 1 <<< p ^^^ 1 <<< q) 39 = p ^^^ q := by rw [xsW_xor, xsW_xor, h1, h3, h5, Nat.zero_xor]
  have ho : odW (coN n ^^^ 1 <<< p ^^^ 1 <<< q) = false := by rw [odW_xor, odW_xor, h2, h4, h6]; rfl
  simp [wrW, hx, ho, xor_ne h]
end Go.Proofs.YtchbppidepapiaaDoor
