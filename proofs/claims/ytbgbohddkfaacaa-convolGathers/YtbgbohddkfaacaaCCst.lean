import Derived.Test.YtbgbohddkfaacaaCMth
namespace Go.Proofs.Ytbgbohddkfaacaa
open Go.RowKit
set_option maxRecDepth 100000
set_option linter.unusedVariables false
set_option linter.unusedSimpArgs false

/-- what symbols cost, one by one -/
def symT (S : List Int) (L : List Nat) (i : Nat) : Int := if nth L i = 1 then 7 - nthI S i else 7 + nthI S i
def symC (S : List Int) (L : List Nat) : Nat → Int
  | 0 => 0
  | i + 1 => symC S L i + symT S L i
theorem symC_bd (S : List Int) (hS : ∀ i, -7 ≤ nthI S i ∧ nthI S i ≤ 7) (L : List Nat) (i : Nat) : 0 ≤ symC S L i ∧ symC S L i ≤ 14 * i := by
  induction i with
  | zero => exact ⟨Int.le_refl _, Int.le_refl _⟩
  | succ i ih =>
    have := hS i
    show 0 ≤ symC S L i + symT S L i ∧ symC S L i + symT S L i ≤ _
    unfold symT
    split <;> omega
theorem sprE_ok (B : List Nat) (r : Nat) (h1 : 1 ≤ r) (h2 : r ≤ 5) (hl : B.length ≤ 16384) (hB : IsBit B) : sprE B (r : Int) = 0 ∧ sprL B (r : Int) = outN r B (B.length + 6) := by
  have e : sprE B (r : Int) = 0 := by
    unfold sprE
    rw [if_pos ⟨by omega, by omega⟩, if_pos hl, if_pos (of_bits B (fun i _ => hB i))]
  exact ⟨e, by unfold sprL; rw [e, if_pos rfl, Int.toNat_natCast]⟩
theorem Spread_ok (a : Option Addr) (n cap r : Nat) (B : List Nat) (w : World) (hp : Rd w a n cap B) (hn : n ≤ 16384) (hB : IsBit B) (h1 : 1 ≤ r) (h2 : r ≤ 5) :
    Calls Try.prog 17 #[.slice a n cap, .int .i64 r] w fun e w' => ∃ a' c', e = .returned (.tuple #[.slice a' (cntN r (n + 6) : Nat) c', .int .i64 0]) ∧ Ans w' w.heap.size a' (cntN r (n + 6)) c' (outN r B (n + 6)) ∧ w.grownBy w' none := by
  obtain ⟨e1, e2⟩ := sprE_ok B r h1 h2 (by rw [hp.len]; exact hn) hB
  refine (Spread_all a n cap r B w hp).mono ?_
  rintro e w' ⟨a', n', c', rfl, hA, hg⟩
  rw [e2, hp.len] at hA
  have hl := hA.len
  rw [outN_len] at hl
  subst hl
  exact ⟨a', c', by rw [e1], hA, hg⟩
set_option maxHeartbeats 2000000 in
theorem cost_any (a a2 : Option Addr) (n cap m cap2 r : Nat) (B : List Nat) (S : List Int) (w : World) (hp : Rd w a n cap B) (hS : RdI w a2 m cap2 S) (hn : n ≤ 16384) (hB : IsBit B) (h1 : 1 ≤ r) (h2 : r ≤ 5) (hm : m = cntN r (n + 6)) (hSb : ∀ i, -7 ≤ nthI S i ∧ nthI S i ≤ 7) :
    Calls Try.prog 23 #[.slice a n cap, .slice a2 m cap2, .int .i64 r] w fun e w' => e = .returned (.tuple #[.int .i64 (symC S (outN r B (n + 6)) m), .bool true]) ∧ w.grownBy w' none := by
  have hcl := cntN_le r (n + 6)
  have HSp := Spread_ok a n cap r B w hp hn hB h1 h2
  have hne : (((cntN r (n + 6) : Nat) : Int) != (m : Int)) = false := by rw [hm]; simp
  have hmp : 0 < m := by rw [hm]; exact cnt_pos r n h1 h2
  rw [← hm] at HSp hcl hne
  clear hm
  generalize hL : outN r B (n + 6) = L at *
  clear hL
  go_enter Try.func23, Try.ntmps23
  go_wp2_with (go_at_call 17; refine HSp.mono ?_; rintro e w1 ⟨a1, c1, rfl, hA1, g1⟩)
  have hS1 := hS.keep g1
  obtain ⟨b, off, e, hbw, hcc⟩ := hS1.at' hmp
  subst e
  have hR := hA1.rd
  obtain ⟨bl, offl, e, hbwl, hccl⟩ := hR.at' hmp
  subst e
  have HL : Hid (∀ i, i < m → w1.cell? ⟨bl, offl + i, none⟩ = some (.int .u8 (nth L i : Nat))) := hccl
  have HSS : Hid (∀ i, i < m → w1.cell? ⟨b, off + i, none⟩ = some (.int .i64 (nthI S i))) := hcc
  clear hccl hcc
  go_loop [10, 11] (fun c i => ∃ k : Nat, k ≤ m ∧ i = .int .i64 k ∧ c = .int .i64 (symC S L k)) (fun _ i => m - (intOf i).toNat)
  case atStart => exact ⟨0, by omega, rfl, rfl⟩
  case round =>
    obtain ⟨k, hk, rfl, rfl⟩ := hrel
    by_cases hlt : k < m
    · have c0 := HL.out k hlt
      have c1 := HSS.out k hlt
      have hb := symC_bd S hSb L k
      have hs := hSb k
      have HC : Hid (symC S L (k + 1) = symC S L k + symT S L k) := rfl
      have HT : Hid (symT S L k = if nth L k = 1 then 7 - nthI S k else 7 + nthI S k) := rfl
      generalize symC S L k = c at *
      generalize nthI S k = x at *
      by_cases h : nth L k = 1
      · have hz : ((nth L k : Int) == 1) = true := by rw [h]; rfl
        rw [if_pos h] at HT
        clear h
        go_wp2
        go_round
        case rel => exact ⟨k + 1, by omega, by go_num, congrArg (Value.int .i64) (by rw [HC.out, HT.out])⟩
        case measure => simp [intOf]; omega
      · have hz : ((nth L k : Int) == 1) = false := by simp; omega
        rw [if_neg h] at HT
        clear h
        go_wp2
        go_round
        case rel => exact ⟨k + 1, by omega, by go_num, congrArg (Value.int .i64) (by rw [HC.out, HT.out])⟩
        case measure => simp [intOf]; omega
    · obtain rfl : k = m := by omega
      go_wp2
      go_ret2
      exact ⟨rfl, g1⟩
/-- one by one is step by step -/
theorem nth_app_l (A C : List Nat) (i : Nat) (h : i < A.length) : nth (A ++ C) i = nth A i := nth_append_left A C i h
theorem nth_app_r (A C : List Nat) (i : Nat) : nth (A ++ C) (A.length + i) = nth C i := by
  unfold nth
  rw [List.getD_eq_getElem?_getD, List.getD_eq_getElem?_getD, List.getElem?_append_right (by omega)]
  congr 2; omega
theorem outN_pre (r : Nat) (B : List Nat) (k : Nat) : ∀ m, k ≤ m → ∀ i, i < cntN r k → nth (outN r B m) i = nth (outN r B k) i := by
  intro m
  induction m with
  | zero => intro h i hi; obtain rfl : k = 0 := by omega
            rfl
  | succ m ih =>
    intro h i hi
    by_cases e : k = m + 1
    · subst e; rfl
    · have hk := cnt_mono r (show k ≤ m by omega)
      have e1 : outN r B (m + 1) = outN r B m ++ (one? (kb (pF r) m) (sy1 (rgN B m)) ++ one? (kb (pS r) m) (sy2 (rgN B m))) := by rw [← List.append_assoc]; rfl
      rw [e1, nth_app_l _ _ _ (by rw [outN_len]; omega)]
      exact ih (by omega) i hi
theorem symC_split (S : List Int) (L : List Nat) (i : Nat) : symC S L (i + 1) = symC S L i + symT S L i := rfl
theorem pay_eq (r : Nat) (S : List Int) (k rg : Nat) : payP (prV r S) k rg =
    (if kb (pF r) k then (if sy1 rg = 1 then 7 - nthI S (cntN r k) else 7 + nthI S (cntN r k)) else 0) +
    (if kb (pS r) k then (if sy2 rg = 1 then 7 - nthI S (cntN r k + kn (kb (pF r) k)) else 7 + nthI S (cntN r k + kn (kb (pF r) k))) else 0) := by
  have h1 := sy1_lt rg
  have h2 := sy2_lt rg
  unfold payP
  congr 1
  · rcases (by omega : sy1 rg = 0 ∨ sy1 rg = 1) with e | e <;> rw [e]
    · rw [Nat.add_zero, prV0, if_neg (show ¬ (0 = 1) by decide)]
    · rw [prV1, if_pos rfl]
  · rcases (by omega : sy2 rg = 0 ∨ sy2 rg = 1) with e | e <;> rw [e]
    · rw [Nat.add_zero, prV2, if_neg (show ¬ (0 = 1) by decide)]
    · rw [show k * 4 + 2 + 1 = k * 4 + 3 by omega, prV3, if_pos rfl]
def cstN (p : Nat → Int) (B : List Nat) : Nat → Int
  | 0 => 0
  | k + 1 => cstN p B k + payP p k (rgN B k)
theorem sym_cst (r : Nat) (S : List Int) (B : List Nat) (M : Nat) : ∀ k, k ≤ M → symC S (outN r B M) (cntN r k) = cstN (prV r S) B k := by
  intro k
  induction k with
  | zero => intro _; rfl
  | succ k ih =>
    intro hk
    have h0 := ih (by omega)
    show symC S (outN r B M) (cntN r k + kn (kb (pF r) k) + kn (kb (pS r) k)) = cstN (prV r S) B k + payP (prV r S) k (rgN B k)
    rw [← h0, pay_eq]
    have hpre := outN_pre r B (k + 1) M hk
    have hle : cntN r (k + 1) = cntN r k + kn (kb (pF r) k) + kn (kb (pS r) k) := rfl
    have e1 : outN r B (k + 1) = outN r B k ++ (one? (kb (pF r) k) (sy1 (rgN B k)) ++ one? (kb (pS r) k) (sy2 (rgN B k))) := by rw [← List.append_assoc]; rfl
    have hlen := outN_len r B k
    have at0 : ∀ i, i < kn (kb (pF r) k) + kn (kb (pS r) k) → nth (outN r B M) (cntN r k + i) = nth (one? (kb (pF r) k) (sy1 (rgN B k)) ++ one? (kb (pS r) k) (sy2 (rgN B k))) i := by
      intro i hi
      rw [hpre (cntN r k + i) (by omega), e1, ← hlen, nth_app_r]
    cases hb1 : kb (pF r) k <;> cases hb2 : kb (pS r) k
    · simp [kn]
    · have a0 := at0 0 (by rw [hb1, hb2]; decide)
      rw [hb1, hb2] at a0
      simp only [one?, kn, if_true, Bool.false_eq_true, if_false, Nat.add_zero, List.nil_append] at a0 ⊢
      rw [symC_split]
      unfold symT
      rw [a0]
      simp [nth]
    · have a0 := at0 0 (by rw [hb1, hb2]; decide)
      rw [hb1, hb2] at a0
      simp only [one?, kn, if_true, Bool.false_eq_true, if_false, Nat.add_zero, List.append_nil] at a0 ⊢
      rw [symC_split]
      unfold symT
      rw [a0]
      simp [nth]
    · have a0 := at0 0 (by rw [hb1, hb2]; decide)
      have a1 := at0 1 (by rw [hb1, hb2]; decide)
      rw [hb1, hb2] at a0 a1
      simp only [one?, kn, if_true, Nat.add_zero] at a0 a1 ⊢
      rw [symC_split, symC_split]
      unfold symT
      rw [a0, a1]
      simp [nth]
      omega
theorem cst_rest (p : Nat → Int) (B : List Nat) : ∀ k, cstN p B k = restC p B 0 k := by
  intro k
  induction k with
  | zero => rfl
  | succ k ih =>
    show cstN p B k + payP p k (rgN B k) = _
    rw [ih, restC_split p B k 0 1, Nat.zero_add]
    simp [restC]
/-- what symbols cost, as steps -/
theorem sym_rest (r : Nat) (S : List Int) (B : List Nat) (n : Nat) : symC S (outN r B (n + 6)) (cntN r (n + 6)) = restC (prV r S) B 0 (n + 6) := by
  rw [sym_cst r S B (n + 6) (n + 6) (Nat.le_refl _), cst_rest]
end Go.Proofs.Ytbgbohddkfaacaa
