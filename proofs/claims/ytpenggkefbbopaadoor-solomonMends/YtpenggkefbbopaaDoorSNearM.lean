import Derived.Test.YtpenggkefbbopaaDoorSDec2
import Derived.Test.YtpenggkefbbopaaDoorSWvM
namespace Go.Proofs.YtpenggkefbbopaaDoor
open Go.RowKit
set_option maxRecDepth 100000
set_option linter.unusedVariables false
set_option linter.unusedSimpArgs false

/-! a code word is the one that its data are encoded to -/
theorem top_pair (a : Nat) : Top [a, 1] := ⟨by simp, by simp [nth]⟩
theorem gen_top (k : Nat) (hk : k ≤ 500) : Top (genN k) := by
  induction k with
  | zero => exact ⟨by simp [genN], by simp [genN, nth]⟩
  | succ k ih => exact (top_times (isB_genN k) (isB_pair _ _ (pow2_lt _) (by decide)) (ih (by omega)) (top_pair _) (by have := genN_len k (by omega); omega) (by simp)).2
theorem at_pair (a : Nat) (ha : a < 256) : atL [a, 1] a = 0 := by
  have hB := isB_pair a 1 ha (by decide)
  rw [atL_eq hB a ha]
  show (0 ^^^ Fld.mul a (Fld.pw a 0)) ^^^ Fld.mul 1 (Fld.pw a 1) = 0
  have e0 : Fld.pw a 0 = 1 := rfl
  have e1 : Fld.pw a 1 = Fld.mul 1 a ∨ Fld.pw a 1 = Fld.mul a 1 := by first | exact .inl rfl | exact .inr rfl
  rw [Nat.zero_xor, e0, Fld.mul_one ha]
  rcases e1 with e1 | e1
  · rw [e1, Fld.one_mul ha, Fld.one_mul ha, Nat.xor_self]
  · rw [e1, Fld.mul_one ha, Fld.one_mul ha, Nat.xor_self]
theorem gen_root (k j : Nat) (hk : k ≤ 500) (hj : j < k) : atL (genN k) (pow2 ((j : Int) + 1)) = 0 := by
  induction k with
  | zero => omega
  | succ k ih =>
    have hB := isB_pair (pow2 ((k : Int) + 1)) 1 (pow2_lt _) (by decide)
    show atL (timR (genN k) [pow2 ((k : Int) + 1), 1]) _ = 0
    rw [at_times (isB_genN k) hB _ (pow2_lt _) (by have := genN_len k (by omega); omega) (by simp)]
    by_cases e : j < k
    · rw [ih (by omega) e]; exact Fld.zero_mul (atL_lt' hB _)
    · rw [show j = k by omega, at_pair _ (pow2_lt _)]; exact Fld.mul_zero _
theorem nth_rawrev (L : List Nat) (c j : Nat) (hj : j < c) : nth (rawL L c).reverse j = 0 := by
  rw [← raw_rev, nth_append_left _ _ _ (by simpa using hj), nth_zeros]
theorem enc_rev {L : List Nat} (hL : IsB L) (c : Nat) (hc : c ≤ 64) (hn : L.length + c ≤ 255) (j : Nat) : nth (encL L c).reverse j = nth (rawL L c).reverse j ^^^ nth (chkL L c) j := by
  have hs := chkL_short hL c hc hn
  by_cases hj : j < L.length + c
  · rw [nth_reverse _ _ (by rw [encL_len]; exact hj), encL_len, nth_encL _ _ _ (by omega)]
    unfold encF
    rw [show L.length + c - 1 - (L.length + c - 1 - j) = j by omega]
    by_cases e : j < (chkL L c).length
    · rw [if_pos e, nth_rawrev L c j (by omega), Nat.zero_xor]
    · rw [if_neg e, nth_out (chkL L c) j (by omega), Nat.xor_zero, nth_reverse _ _ (by rw [rawL_len]; exact hj), rawL_len]
  · rw [nth_out _ _ (by rw [List.length_reverse, encL_len]; omega), nth_out _ _ (by rw [List.length_reverse, rawL_len]; omega), nth_out (chkL L c) _ (by omega)]; rfl
theorem enc_code {L : List Nat} (hL : IsB L) (c j : Nat) (hc : c ≤ 64) (hn : L.length + c ≤ 255) (hj : j < c) : atL (encL L c).reverse (pow2 ((j : Int) + 1)) = 0 := by
  have hR := isB_reverse (isB_rawL hL c)
  have hRl : (rawL L c).reverse.length = L.length + c := by rw [List.length_reverse, rawL_len]
  have hgl := genN_len c (by omega)
  have hz := top_z (gen_top c (by omega))
  have HS := div_sum hR (isB_genN c) (by omega) (by omega) hz
  have hq := ovQ_small (P := (rawL L c).reverse) hz
  have key : ∀ i, nth (encL L c).reverse i = nth (timR (ovQ (rawL L c).reverse (genN c)) (genN c)) i := by
    intro i
    have h := congrArg (fun M => nth M i) HS
    simp only [nth_trimL, nth_sumL, nth_nil, Nat.xor_zero] at h
    rw [enc_rev hL c hc hn i, ← h, Nat.xor_assoc]
    show _ ^^^ (nth (ovT (rawL L c).reverse (genN c)) i ^^^ nth (chkL L c) i) = _
    have e : chkL L c = ovT (rawL L c).reverse (genN c) := rfl
    rw [e, Nat.xor_self, Nat.xor_zero]
  have hQB := isB_ovQ hR (isB_genN c)
  rw [atL_congr (isB_reverse (isB_encL hL c hc hn)) (isB_timR hQB (isB_genN c)) _ (pow2_lt _) key, at_times hQB (isB_genN c) _ (pow2_lt _) (by omega) (by omega), gen_root c j (by omega) hj]
  exact Fld.mul_zero _
theorem val_zero {W : List Nat} {c : Nat} (h : valL W c = []) (j : Nat) (hj : j < c) : atL W.reverse (pow2 ((j : Int) + 1)) = 0 := by
  rw [← nth_synL W c j hj, ← nth_trimL]
  show nth (valL W c) j = 0
  rw [h]; exact nth_nil j
theorem code_enc {W : List Nat} (hW : IsB W) (c : Nat) (hc : c ≤ 64) (hcn : c < W.length) (hn : W.length ≤ 255) (hv : valL W c = []) : encL (W.take (W.length - c)) c = W := by
  obtain ⟨D, hD⟩ : ∃ D, D = W.take (W.length - c) := ⟨_, rfl⟩
  have hDB : IsB D := by rw [hD]; exact isB_take hW _
  have hDl : D.length = W.length - c := by rw [hD, List.length_take]; omega
  rw [← hD]
  have hEl : (encL D c).length = W.length := by rw [encL_len]; omega
  have hEB := isB_encL hDB c hc (by omega)
  have hErB := isB_reverse hEB
  have hWrB := isB_reverse hW
  have hX : IsB ((List.range c).map fun (j : Nat) => pow2 ((j : Int) + 1)) := by
    intro x hx
    obtain ⟨p, _, rfl⟩ := List.mem_map.1 hx
    exact pow2_lt _
  have hz := roots_zero hX c (fun i j hji hi he => by
      rw [nth_map_range _ _ _ hi, nth_map_range _ _ _ (by omega)] at he
      have h1 := pow2_inj he
      omega) (fun i => nth (encL D c).reverse i ^^^ nth W.reverse i) (fun i => Fld.xor_lt (hErB.nth i) (hWrB.nth i)) (fun i hi => by
      show nth (encL D c).reverse i ^^^ nth W.reverse i = 0
      by_cases h : i < W.length
      · rw [nth_reverse _ _ (by omega), nth_reverse _ _ h, hEl, encL_front hDB c _ hc (by omega) (by omega), hD, nth_take _ _ _ (by omega), Nat.xor_self]
      · rw [nth_out _ _ (by rw [List.length_reverse]; omega), nth_out _ _ (by rw [List.length_reverse]; omega)]; rfl) (fun i hi => by
      rw [nth_map_range _ _ _ hi]
      obtain ⟨x, hx⟩ : ∃ x, x = pow2 ((i : Int) + 1) := ⟨_, rfl⟩
      have hxl : x < 256 := by rw [hx]; exact pow2_lt _
      have e1 := enc_code hDB c i hc (by omega) hi
      have e2 := val_zero hv i hi
      rw [← hx] at e1 e2 ⊢
      rw [atL_ev hErB x (c + 1 + W.length) hxl (by rw [List.length_reverse]; omega)] at e1
      rw [atL_ev hWrB x (c + 1 + W.length) hxl (by rw [List.length_reverse]; omega)] at e2
      have e3 := ev_xor (f := nth (encL D c).reverse) (g := nth W.reverse) (c + 1 + W.length) x hErB.nth hWrB.nth
      rw [e1, e2] at e3
      have e4 := ev_past (fun i => nth (encL D c).reverse i ^^^ nth W.reverse i) (c + 1) W.length x hxl (fun k hk => by
        show nth (encL D c).reverse k ^^^ nth W.reverse k = 0
        by_cases h : k < W.length
        · rw [nth_reverse _ _ (by omega), nth_reverse _ _ h, hEl, encL_front hDB c _ hc (by omega) (by omega), hD, nth_take _ _ _ (by omega), Nat.xor_self]
        · rw [nth_out _ _ (by rw [List.length_reverse]; omega), nth_out _ _ (by rw [List.length_reverse]; omega)]; rfl)
      rw [← e4]; exact e3)
  refine list_ext hEl fun i hi => ?_
  have h := hz (W.length - 1 - i)
  have h' : nth (encL D c).reverse (W.length - 1 - i) ^^^ nth W.reverse (W.length - 1 - i) = 0 := h
  have h2 := xor_eq h'
  rw [nth_reverse _ _ (by omega), nth_reverse _ _ (by omega), hEl, show W.length - 1 - (W.length - 1 - i) = i by omega] at h2
  exact h2

/-! what is answered without holes is near -/
def none_ (n : Nat) : List Bool := List.replicate n false
theorem near_of {W W' P : List Nat} (hW : IsB W) (c : Nat) (hc : c ≤ 64) (hcn : c < W.length) (hn : W.length ≤ 255) (h : decO W c (none_ W.length) = some (W', P)) :
    IsB W' ∧ W'.length = W.length ∧ valL W' c = [] ∧ P = (List.range W.length).filter (fun p => nth W p != nth W' p) ∧ 2 * P.length ≤ c := by
  have hl : (none_ W.length).length = W.length := by simp [none_]
  have hcnt : cntB (none_ W.length) (none_ W.length).length = 0 := cnt_none _ _
  unfold decO at h
  rw [hcnt, if_neg (by omega)] at h
  by_cases hv : valL W c = []
  · rw [if_pos hv] at h
    cases h
    refine ⟨hW, rfl, hv, ?_, by simp⟩
    rw [List.filter_eq_nil_iff.2]
    intro p _; simp
  · rw [if_neg hv] at h
    obtain ⟨K, hK⟩ : ∃ K, K = valL W c := ⟨_, rfl⟩
    have hKB : IsB K := by rw [hK]; exact isB_valL hW c
    rw [← hK] at h
    obtain ⟨l', b', e1, _⟩ := acc_inv hKB c hc (none_ W.length) (by rw [hcnt]; omega)
    rw [hcnt] at e1
    obtain ⟨Z, hZ⟩ : ∃ Z, Z = (accS K c (none_ W.length)).2 := ⟨_, rfl⟩
    obtain ⟨f, hf⟩ : ∃ f, f = (accS K c (none_ W.length)).1 := ⟨_, rfl⟩
    obtain ⟨A, hA⟩ : ∃ A, A = accA K c (none_ W.length) := ⟨_, rfl⟩
    have hA1 : A = timR f [1] := by rw [hA, hf]; unfold accA; rw [show holN (none_ W.length) (none_ W.length).length (none_ W.length).length = [1] from hol_none _ _ _]
    rw [← hA, ← hZ] at h
    rw [← hZ, ← hf] at e1
    have i1 := e1.sum
    have i2 := e1.big
    have h1B : IsB [1] := fun x hx => by simp at hx; omega
    have f0 := e1.tf.1
    obtain ⟨t1, t2⟩ := top_times e1.bf h1B e1.tf ⟨by simp, by simp [nth]⟩ (by omega) (by simp)
    rw [← hA1] at t1 t2
    have hAB : IsB A := by rw [hA1]; exact isB_timR e1.bf h1B
    have hZB := e1.br
    by_cases hz : valL (mendL W A Z) c = []
    · rw [if_pos hz] at h
      cases h
      have hnl : ∀ p, p < W.length → nth (mendL W A Z) p = nth W p ^^^ mby A Z W.length p := fun p hp => nth_map_range _ _ _ hp
      refine ⟨?_, by simp [mendL], hz, ?_, ?_⟩
      · intro x hx
        simp only [mendL, List.mem_map] at hx
        obtain ⟨p, _, rfl⟩ := hx
        exact Fld.xor_lt (hW.nth p) (mby_lt hZB _ _)
      · unfold mendN
        refine List.filter_congr fun p hp => ?_
        rw [hnl p (List.mem_range.1 hp)]
        by_cases e : mby A Z W.length p = 0
        · rw [e]; simp
        · have e2 : nth W p ≠ nth W p ^^^ mby A Z W.length p := fun h => e (by
            have := congrArg (nth W p ^^^ ·) h
            simp only [Nat.xor_self, ← Nat.xor_assoc, Nat.zero_xor] at this
            exact this.symm)
          rw [bne_iff_ne.2 e, bne_iff_ne.2 e2]
      · have h2 := few_roots hAB t2 W.length hn (mendN A Z W.length W.length) (List.Pairwise.filter _ List.pairwise_lt_range) (fun p hp => List.mem_range.1 (List.mem_filter.1 hp).1) (fun p hp => by
          have h3 := (List.mem_filter.1 hp).2
          have h4 : mby A Z W.length p ≠ 0 := by simpa using h3
          unfold mby at h4
          by_cases e : atL A (ptX W.length p) = 0
          · exact e
          · rw [if_neg e] at h4; exact absurd rfl h4)
        rw [t1] at h2
        simp only [List.length_cons, List.length_nil] at h2
        omega
    · rw [if_neg hz] at h; cases h
end Go.Proofs.YtpenggkefbbopaaDoor
