import Derived.Test.YtbgbohddkfaacaaCMn0
namespace Go.Proofs.Ytbgbohddkfaacaa
set_option maxRecDepth 100000
set_option linter.unusedVariables false
set_option linter.unusedSimpArgs false

theorem kb_mod (s : ByteArray) (k : Nat) : kb s (k % s.size) = kb s k := by unfold kb; rw [Nat.mod_mod]
theorem kbS_mod (r k : Nat) (h1 : 1 ≤ r) (h2 : r ≤ 5) : kb (pS r) (k % (pF r).size) = kb (pS r) k := by
  rw [← (pat_size r h1 h2).2]; exact kb_mod _ _
theorem wgt_mod (r k x : Nat) (h1 : 1 ≤ r) (h2 : r ≤ 5) : wgt r (k % (pF r).size) x = wgt r k x := by
  unfold wgt; rw [kb_mod, kbS_mod r k h1 h2]
theorem h_step (r k s b : Nat) (h1 : 1 ≤ r) (h2 : r ≤ 5) (hs : s < 64) (hb : b < 2) : hW r (k % (pF r).size) s ≤ wgt r k (2 * s + b) + hW r ((k + 1) % (pF r).size) ((2 * s + b) % 64) := by
  have hp := (pat_size r h1 h2).1
  have h := hOk_all r h1 h2
  unfold hOk at h
  have e1 := List.all_eq_true.1 h (k % (pF r).size) (List.mem_range.2 (Nat.mod_lt _ hp))
  have e2 := List.all_eq_true.1 e1 s (List.mem_range.2 hs)
  have e3 := List.all_eq_true.1 e2 b (List.mem_range.2 hb)
  have e4 := of_decide_eq_true e3
  rw [wgt_mod r k _ h1 h2, show (k % (pF r).size + 1) % (pF r).size = (k + 1) % (pF r).size by rw [Nat.add_mod k 1, Nat.add_mod (k % (pF r).size) 1, Nat.mod_mod]] at e4
  exact e4
theorem h_zero (r k : Nat) (h1 : 1 ≤ r) (h2 : r ≤ 5) : hW r (k % (pF r).size) 0 = 0 ∧ 2 * fewN r + 1 ≤ wgt r k 1 + hW r ((k + 1) % (pF r).size) 1 := by
  have hp := (pat_size r h1 h2).1
  have h := hD_all r h1 h2
  unfold hD at h
  have e1 := List.all_eq_true.1 h (k % (pF r).size) (List.mem_range.2 (Nat.mod_lt _ hp))
  rw [Bool.and_eq_true] at e1
  have e2 := of_decide_eq_true e1.1
  have e3 := of_decide_eq_true e1.2
  rw [wgt_mod r k _ h1 h2, show (k % (pF r).size + 1) % (pF r).size = (k + 1) % (pF r).size by rw [Nat.add_mod k 1, Nat.add_mod (k % (pF r).size) 1, Nat.mod_mod]] at e3
  exact ⟨e2, e3⟩
/-- what a difference weighs from step k on, j steps -/
def restW (r : Nat) (D : List Nat) (k : Nat) : Nat → Nat
  | 0 => 0
  | j + 1 => wgt r k (rgN D k) + restW r D (k + 1) j
theorem st_tail (D : List Nat) (n : Nat) (hD : D.length = n) : stN D (n + 6) = 0 := by
  have z : ∀ i, nth D (n + i) = 0 := fun i => nth_out D _ (by omega)
  have s := stN_lt D n
  have e : ∀ k, stN D (n + (k + 1)) = (2 * stN D (n + k)) % 64 := by
    intro k
    show (2 * stN D (n + k) + nth D (n + k)) % 64 = _
    rw [z k, Nat.add_zero]
  have e0 := e 0; have e1 := e 1; have e2 := e 2; have e3 := e 3; have e4 := e 4; have e5 := e 5
  simp only [Nat.zero_add, Nat.add_zero, Nat.reduceAdd] at e0 e1 e2 e3 e4 e5
  omega
theorem rest_low (r : Nat) (D : List Nat) (n : Nat) (hD : D.length = n) (hB : IsBit D) (h1 : 1 ≤ r) (h2 : r ≤ 5) : ∀ j k, k + j = n + 6 → hW r (k % (pF r).size) (stN D k) ≤ restW r D k j := by
  intro j
  induction j with
  | zero =>
    intro k hk
    obtain rfl : k = n + 6 := by omega
    rw [st_tail D n hD, (h_zero r _ h1 h2).1]
    exact Nat.le_refl _
  | succ j ih =>
    intro k hk
    have h := ih (k + 1) (by omega)
    have e := h_step r k (stN D k) (nth D k) h1 h2 (stN_lt D k) (hB k)
    show _ ≤ wgt r k (rgN D k) + restW r D (k + 1) j
    have e1 : stN D (k + 1) = (2 * stN D k + nth D k) % 64 := rfl
    have e2 : rgN D k = 2 * stN D k + nth D k := rfl
    rw [e1] at h
    rw [e2]
    omega
theorem st_zero (D : List Nat) (i : Nat) (h : ∀ j, j < i → nth D j = 0) : ∀ k, k ≤ i → stN D k = 0 := by
  intro k
  induction k with
  | zero => intro _; rfl
  | succ k ih =>
    intro hk
    show (2 * stN D k + nth D k) % 64 = 0
    rw [ih (by omega), h k (by omega)]
theorem restW_split (r : Nat) (D : List Nat) (i : Nat) : ∀ k j, restW r D k (i + j) = restW r D k i + restW r D (k + i) j := by
  induction i with
  | zero => intro k j; simp [restW]
  | succ i ih =>
    intro k j
    rw [show i + 1 + j = (i + j) + 1 by omega]
    show wgt r k (rgN D k) + restW r D (k + 1) (i + j) = wgt r k (rgN D k) + restW r D (k + 1) i + _
    rw [ih (k + 1) j, show k + 1 + i = k + (i + 1) by omega]
    omega
/-- a difference that is there at all weighs enough -/
theorem weigh (r : Nat) (D : List Nat) (n : Nat) (hD : D.length = n) (hB : IsBit D) (h1 : 1 ≤ r) (h2 : r ≤ 5) (i : Nat) (hi : i < n) (hz : ∀ j, j < i → nth D j = 0) (ho : nth D i = 1) : 2 * fewN r + 1 ≤ restW r D 0 (n + 6) := by
  have s := restW_split r D i 0 (n + 6 - i)
  rw [show i + (n + 6 - i) = n + 6 by omega, Nat.zero_add] at s
  have e : n + 6 - i = (n + 5 - i) + 1 := by omega
  have s2 : restW r D i (n + 6 - i) = wgt r i (rgN D i) + restW r D (i + 1) (n + 5 - i) := by rw [e]; rfl
  have hl := rest_low r D n hD hB h1 h2 (n + 5 - i) (i + 1) (by omega)
  have z := st_zero D i hz i (Nat.le_refl _)
  have e1 : stN D (i + 1) = (2 * stN D i + nth D i) % 64 := rfl
  have e2 : rgN D i = 2 * stN D i + nth D i := rfl
  rw [z, ho] at e1 e2
  rw [e1] at hl
  rw [e2] at s2
  have hz2 := (h_zero r i h1 h2).2
  have : (2 * 0 + 1) % 64 = 1 := rfl
  rw [this] at hl
  have : 2 * 0 + 1 = 1 := rfl
  rw [this] at s2
  omega
/-- the difference of two rows of bits -/
def xorL (B C : List Nat) : List Nat := (List.range B.length).map fun i => nth B i ^^^ nth C i
theorem xorL_len (B C : List Nat) : (xorL B C).length = B.length := by simp [xorL]
theorem xorL_at (B C : List Nat) (hl : B.length = C.length) (i : Nat) : nth (xorL B C) i = nth B i ^^^ nth C i := by
  by_cases h : i < B.length
  · unfold xorL; rw [nth_map_range _ _ _ h]
  · rw [nth_out _ _ (by rw [xorL_len]; omega), nth_out B i (by omega), nth_out C i (by omega)]; rfl
theorem xorL_bit (B C : List Nat) (hl : B.length = C.length) (hB : IsBit B) (hC : IsBit C) : IsBit (xorL B C) := by
  intro i; rw [xorL_at B C hl]; exact (bit_xor _ (hB i) _ (hC i)).1
theorem xorL_st (B C : List Nat) (hl : B.length = C.length) (hB : IsBit B) (hC : IsBit C) : ∀ k, stN (xorL B C) k = stN B k ^^^ stN C k := by
  intro k
  induction k with
  | zero => exact (by decide : 0 = 0 ^^^ 0)
  | succ k ih =>
    show (2 * stN (xorL B C) k + nth (xorL B C) k) % 64 = (2 * stN B k + nth B k) % 64 ^^^ (2 * stN C k + nth C k) % 64
    have b1 := hB k; have b2 := hC k; have s1 := stN_lt B k; have s2 := stN_lt C k
    rw [ih, xorL_at B C hl, ← rg_xor _ s1 _ s2 _ b1 _ b2, mod_xor _ (by omega) _ (by omega)]
theorem xorL_rg (B C : List Nat) (hl : B.length = C.length) (hB : IsBit B) (hC : IsBit C) (k : Nat) : rgN (xorL B C) k = rgN B k ^^^ rgN C k := by
  unfold rgN
  rw [xorL_st B C hl hB hC, xorL_at B C hl, rg_xor _ (stN_lt B k) _ (stN_lt C k) _ (hB k) _ (hC k)]
/-- at how many of the first i places two rows differ -/
def dfN (A C : List Nat) : Nat → Nat
  | 0 => 0
  | i + 1 => dfN A C i + (if nth A i = nth C i then 0 else 1)
theorem df_steps (r : Nat) (B C : List Nat) (hl : B.length = C.length) (hB : IsBit B) (hC : IsBit C) (M : Nat) : ∀ k, k ≤ M → dfN (outN r B M) (outN r C M) (cntN r k) = restW r (xorL B C) 0 k := by
  intro k
  induction k with
  | zero => intro _; rfl
  | succ k ih =>
    intro hk
    have h0 := ih (by omega)
    have s := restW_split r (xorL B C) k 0 1
    rw [Nat.zero_add] at s
    have s1 : restW r (xorL B C) k 1 = wgt r k (rgN (xorL B C) k) := by simp [restW]
    rw [s, s1, ← h0, xorL_rg B C hl hB hC]
    have x1 := sy1_xor _ (rgN_lt B hB k) _ (rgN_lt C hC k)
    have x2 := sy2_xor _ (rgN_lt B hB k) _ (rgN_lt C hC k)
    show dfN (outN r B M) (outN r C M) (cntN r k + kn (kb (pF r) k) + kn (kb (pS r) k)) = _
    have hpre := fun X => outN_pre r X (k + 1) M hk
    have hle : cntN r (k + 1) = cntN r k + kn (kb (pF r) k) + kn (kb (pS r) k) := rfl
    have e1 : ∀ X, outN r X (k + 1) = outN r X k ++ (one? (kb (pF r) k) (sy1 (rgN X k)) ++ one? (kb (pS r) k) (sy2 (rgN X k))) := fun X => by rw [← List.append_assoc]; rfl
    have at0 : ∀ X i, i < kn (kb (pF r) k) + kn (kb (pS r) k) → nth (outN r X M) (cntN r k + i) = nth (one? (kb (pF r) k) (sy1 (rgN X k)) ++ one? (kb (pS r) k) (sy2 (rgN X k))) i := by
      intro X i hi
      rw [hpre X (cntN r k + i) (by omega), e1 X, ← outN_len r X k, nth_app_r]
    unfold wgt
    cases hb1 : kb (pF r) k <;> cases hb2 : kb (pS r) k
    · simp [kn]
    · have a0 := at0 B 0 (by rw [hb1, hb2]; decide)
      have c0 := at0 C 0 (by rw [hb1, hb2]; decide)
      rw [hb1, hb2] at a0 c0
      simp only [one?, kn, if_true, Bool.false_eq_true, if_false, Nat.add_zero, List.nil_append, Bool.false_and, Bool.true_and, Nat.zero_add] at a0 c0 ⊢
      show dfN _ _ (cntN r k) + (if nth (outN r B M) (cntN r k) = nth (outN r C M) (cntN r k) then 0 else 1) = _
      rw [a0, c0]
      simp only [nth, List.getD_cons_zero]
      by_cases e : sy2 (rgN B k ^^^ rgN C k) = 0
      · rw [if_neg (fun h => (x2.1 h) e)]; simp [e]
      · rw [if_pos (x2.2 e)]; simp [e]
    · have a0 := at0 B 0 (by rw [hb1, hb2]; decide)
      have c0 := at0 C 0 (by rw [hb1, hb2]; decide)
      rw [hb1, hb2] at a0 c0
      simp only [one?, kn, if_true, Bool.false_eq_true, if_false, Nat.add_zero, List.append_nil, Bool.false_and, Bool.true_and] at a0 c0 ⊢
      show dfN _ _ (cntN r k) + (if nth (outN r B M) (cntN r k) = nth (outN r C M) (cntN r k) then 0 else 1) = _
      rw [a0, c0]
      simp only [nth, List.getD_cons_zero]
      by_cases e : sy1 (rgN B k ^^^ rgN C k) = 1
      · rw [if_neg (fun h => (x1.1 h) e)]; simp [e]
      · rw [if_pos (x1.2 e)]; simp [e]
    · have a0 := at0 B 0 (by rw [hb1, hb2]; decide)
      have c0 := at0 C 0 (by rw [hb1, hb2]; decide)
      have a1 := at0 B 1 (by rw [hb1, hb2]; decide)
      have c1 := at0 C 1 (by rw [hb1, hb2]; decide)
      rw [hb1, hb2] at a0 c0 a1 c1
      simp only [one?, kn, if_true, Nat.add_zero, Bool.true_and] at a0 c0 a1 c1 ⊢
      show dfN _ _ (cntN r k) + (if nth (outN r B M) (cntN r k) = nth (outN r C M) (cntN r k) then 0 else 1) + (if nth (outN r B M) (cntN r k + 1) = nth (outN r C M) (cntN r k + 1) then 0 else 1) = _
      rw [a0, c0, a1, c1]
      simp only [nth, List.cons_append, List.nil_append, List.getD_cons_zero, List.getD_cons_succ]
      by_cases e : sy1 (rgN B k ^^^ rgN C k) = 1 <;> by_cases e' : sy2 (rgN B k ^^^ rgN C k) = 0
      · rw [if_neg (fun h => (x1.1 h) e), if_neg (fun h => (x2.1 h) e')]; simp [e, e']
      · rw [if_neg (fun h => (x1.1 h) e), if_pos (x2.2 e')]; simp [e, e']
      · rw [if_pos (x1.2 e), if_neg (fun h => (x2.1 h) e')]; simp [e, e']
      · rw [if_pos (x1.2 e), if_pos (x2.2 e')]; simp [e, e']
/-- spreads of different bits are far from one another -/
theorem far (r : Nat) (B C : List Nat) (n : Nat) (hn : B.length = n) (hn' : C.length = n) (hB : IsBit B) (hC : IsBit C) (h1 : 1 ≤ r) (h2 : r ≤ 5) (hne : B ≠ C) :
    2 * fewN r + 1 ≤ dfN (outN r B (n + 6)) (outN r C (n + 6)) (cntN r (n + 6)) := by
  have hl : B.length = C.length := by omega
  rw [df_steps r B C hl hB hC (n + 6) (n + 6) (Nat.le_refl _)]
  -- the first place at which they differ
  have ex : ∃ i, i < n ∧ nth B i ≠ nth C i := by
    apply Classical.byContradiction
    intro h
    apply hne
    refine list_ext hl fun i hi => ?_
    apply Classical.byContradiction
    intro h'
    exact h ⟨i, by omega, h'⟩
  have first : ∀ m, m ≤ n → (∃ i, i < m ∧ nth B i ≠ nth C i) → ∃ i, i < n ∧ nth B i ≠ nth C i ∧ ∀ j, j < i → nth B j = nth C j := by
    intro m
    induction m with
    | zero => rintro _ ⟨i, hi, _⟩; omega
    | succ m ih =>
      intro hm h
      by_cases h' : ∃ i, i < m ∧ nth B i ≠ nth C i
      · exact ih (by omega) h'
      · obtain ⟨i, hi, hd⟩ := h
        refine ⟨i, by omega, hd, fun j hj => ?_⟩
        apply Classical.byContradiction
        intro hd'
        exact h' ⟨j, by omega, hd'⟩
  obtain ⟨i, hi, hd, hpre⟩ := first n (Nat.le_refl _) ex
  refine weigh r (xorL B C) n (by rw [xorL_len, hn]) (xorL_bit B C hl hB hC) h1 h2 i hi (fun j hj => ?_) ?_
  · rw [xorL_at B C hl, (bit_xor _ (hB j) _ (hC j)).2.2 (hpre j hj)]
  · have hx := bit_xor _ (hB i) _ (hC i)
    rw [xorL_at B C hl]
    have : ¬ (nth B i ^^^ nth C i = 0) := fun h => hd (hx.2.1 h)
    omega
/-- at how many of the first i places what came is no sure symbol of these -/
def badN (S : List Int) (L : List Nat) : Nat → Nat
  | 0 => 0
  | i + 1 => badN S L i + (if nthI S i = 7 * (2 * (nth L i : Int) - 1) then 0 else 1)
theorem bad_cost (S : List Int) (L : List Nat) (m : Nat) (hS : ∀ i, i < m → nthI S i = 7 ∨ nthI S i = -7) (hL : ∀ i, nth L i < 2) : ∀ i, i ≤ m → symC S L i = 14 * (badN S L i : Nat) := by
  intro i
  induction i with
  | zero => intro _; rfl
  | succ i ih =>
    intro hi
    have h := ih (by omega)
    have hs := hS i (by omega)
    have hl := hL i
    show symC S L i + symT S L i = 14 * ((badN S L i + (if nthI S i = 7 * (2 * (nth L i : Int) - 1) then 0 else 1) : Nat) : Int)
    rw [h]
    unfold symT
    rcases (by omega : nth L i = 0 ∨ nth L i = 1) with e | e <;> rcases hs with e' | e' <;> rw [e, e'] <;> simp <;> omega
theorem df_tri (S : List Int) (A C : List Nat) (hA : ∀ i, nth A i < 2) (hC : ∀ i, nth C i < 2) : ∀ i, dfN A C i ≤ badN S A i + badN S C i := by
  intro i
  induction i with
  | zero => exact Nat.le_refl _
  | succ i ih =>
    show dfN A C i + (if nth A i = nth C i then 0 else 1) ≤ badN S A i + (if nthI S i = 7 * (2 * (nth A i : Int) - 1) then 0 else 1) + (badN S C i + (if nthI S i = 7 * (2 * (nth C i : Int) - 1) then 0 else 1))
    have h1 := hA i; have h2 := hC i
    by_cases e : nth A i = nth C i
    · rw [if_pos e]; omega
    · rw [if_neg e]
      by_cases e1 : nthI S i = 7 * (2 * (nth A i : Int) - 1)
      · rw [if_pos e1, if_neg (by omega)]; omega
      · rw [if_neg e1]; omega
theorem out_bit (r : Nat) (B : List Nat) (k : Nat) : ∀ i, nth (outN r B k) i < 2 := by
  have h : ∀ x, x ∈ outN r B k → x < 2 := by
    induction k with
    | zero => intro x hx; cases hx
    | succ k ih =>
      intro x hx
      have e : outN r B (k + 1) = outN r B k ++ one? (kb (pF r) k) (sy1 (rgN B k)) ++ one? (kb (pS r) k) (sy2 (rgN B k)) := rfl
      rw [e] at hx
      rcases List.mem_append.1 hx with h | h
      · rcases List.mem_append.1 h with h | h
        · exact ih x h
        · cases hb : kb (pF r) k <;> rw [hb] at h <;> simp [one?] at h
          rw [h]; exact sy1_lt _
      · cases hb : kb (pS r) k <;> rw [hb] at h <;> simp [one?] at h
        rw [h]; exact sy2_lt _
  intro i
  by_cases hi : i < (outN r B k).length
  · unfold nth
    rw [List.getD_eq_getElem?_getD, List.getElem?_eq_getElem hi]
    exact h _ (List.getElem_mem hi)
  · rw [nth_out _ _ (by omega)]; decide
/-- a few symbols may be turned round -/
theorem mends_fact (r : Nat) (B : List Nat) (n : Nat) (S : List Int) (hn : B.length = n) (hB : IsBit B) (h1 : 1 ≤ r) (h2 : r ≤ 5)
    (hS : ∀ i, i < cntN r (n + 6) → nthI S i = 7 ∨ nthI S i = -7) (hbad : badN S (outN r B (n + 6)) (cntN r (n + 6)) ≤ fewN r) : gotN (prV r S) n = B := by
  apply Classical.byContradiction
  intro hne
  have hf := far r (gotN (prV r S) n) B n (gotN_len _ _) hn (gotN_bit _ _) hB h1 h2 hne
  have ht := df_tri S (outN r (gotN (prV r S) n) (n + 6)) (outN r B (n + 6)) (out_bit r _ _) (out_bit r _ _) (cntN r (n + 6))
  have c1 := bad_cost S (outN r (gotN (prV r S) n) (n + 6)) (cntN r (n + 6)) hS (out_bit r _ _) _ (Nat.le_refl _)
  have c2 := bad_cost S (outN r B (n + 6)) (cntN r (n + 6)) hS (out_bit r _ _) _ (Nat.le_refl _)
  rw [sym_rest] at c1 c2
  have g := got_cost (prV r S) n (n + 6) 0 (by omega)
  have l := low_any (prV r S) n B hB hn (n + 6) 0 (by omega)
  have z : stN (gotN (prV r S) n) 0 = stN B 0 := rfl
  rw [z] at g
  omega
end Go.Proofs.Ytbgbohddkfaacaa
