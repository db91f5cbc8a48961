import Derived.Test.YtpenggkefbbopaaDoorNSTur
namespace Go.Proofs.YtpenggkefbbopaaDoor
open Go.RowKit
set_option maxRecDepth 100000
set_option linter.unusedVariables false
set_option linter.unusedSimpArgs false

theorem dif_cn (W V : List Nat) (i : Nat) : (difN W V i).length = cn (fun p => nth W p != nth V p) i := by
  induction i with
  | zero => rfl
  | succ i ih =>
    by_cases h : nth W i = nth V i
    · rw [dif_skip h, ih]; simp [cn, h]
    · rw [dif_step h, List.length_append, ih]; simp [cn, h]
/-- two lists of places turned, one after the other, and what the decoder makes of it -/
theorem mends_math [Add GF] [Mul GF] [OfNat GF 0] [OfNat GF 1] [L : Nonempty GL] {D S1 S2 P1 P2 : List Nat} {T1 T2 : List (Int × Int)} {c n m1 m2 : Nat} (hD : IsB D) (hc : c ≤ 64) (hn : D.length + c = n) (hn2 : n ≤ 255) (hc1 : 1 ≤ c) (hD0 : 0 < D.length)
    (s1 : Spo (encL D c) S1 P1 T1 n m1) (s2 : Spo S1 S2 P2 T2 n m2) (h2 : m2 = T2.length) (hfree : ∀ i, i < T2.length → has P1 (pk (tA T2 i) n) P1.length = false) (hle : 2 * P2.length + P1.length ≤ c) :
    decO S2 c (mkN P1 n P1.length) = some (encL D c, difN S2 (encL D c) n) ∧ (difN S2 (encL D c) n).length = P1.length + P2.length ∧ (encL D c).take (n - c) = D := by
  have hEB := isB_encL hD c hc (by omega)
  have hEl : (encL D c).length = n := by rw [encL_len]; omega
  have hb1 := fun p => bat_mk P1 n s1.lt P1.length (Nat.le_refl _) p
  have hb2 := fun p => bat_mk P2 n s2.lt P2.length (Nat.le_refl _) p
  have hdis : ∀ p, bat (mkN P2 n P2.length) p = true → bat (mkN P1 n P1.length) p = false := by
    intro p h
    obtain ⟨j, hj, e⟩ := (hb2 p).1 h
    obtain ⟨q, hq, e2⟩ := s2.of j hj
    have h3 := hfree q (by omega)
    rw [← e2, e] at h3
    by_cases h4 : bat (mkN P1 n P1.length) p = true
    · rw [hb1 p, ← has_iff, h3] at h4; cases h4
    · simpa using h4
  have hdif : ∀ p, p < n → (nth S2 p != nth (encL D c) p) = (bat (mkN P2 n P2.length) p || bat (mkN P1 n P1.length) p) := by
    intro p hp
    rw [Bool.eq_iff_iff, bne_iff_ne, Bool.or_eq_true, hb1 p, hb2 p, ← s1.dif p hp, ← s2.dif p hp]
    constructor
    · intro h
      by_cases h4 : nth S2 p = nth S1 p
      · exact .inr (by rw [← h4]; exact h)
      · exact .inl h4
    · rintro (h | h)
      · have h5 : bat (mkN P2 n P2.length) p = true := by rw [hb2 p, ← s2.dif p hp]; exact h
        have h6 := hdis p h5
        have h7 : nth S1 p = nth (encL D c) p := by
          by_cases h8 : nth S1 p = nth (encL D c) p
          · exact h8
          · have h9 := (hb1 p).2 ((s1.dif p hp).1 h8)
            rw [h6] at h9; cases h9
        rw [← h7]; exact h
      · have h5 : bat (mkN P1 n P1.length) p = true := by rw [hb1 p, ← s1.dif p hp]; exact h
        have h7 : nth S2 p = nth S1 p := by
          by_cases h8 : nth S2 p = nth S1 p
          · exact h8
          · have h9 := (hb2 p).2 ((s2.dif p hp).1 h8)
            rw [hdis p h9] at h5; cases h5
        rw [h7]; exact h
  have hwr : cn (wrU S2 (encL D c) (mkN P1 n P1.length)) n = P2.length := by
    rw [← cnt_mk s2.lt s2.dist P2.length (Nat.le_refl _), cnt_cn]
    refine cn_congr n fun p hp => ?_
    unfold wrU
    rw [hdif p hp]
    by_cases h : bat (mkN P2 n P2.length) p = true
    · rw [h, hdis p h]; rfl
    · have h' : bat (mkN P2 n P2.length) p = false := by simpa using h
      rw [h']
      cases bat (mkN P1 n P1.length) p <;> rfl
  have hcnt := cnt_mk s1.lt s1.dist P1.length (Nat.le_refl _)
  refine ⟨?_, ?_, ?_⟩
  · exact dec_complete s2.byte hEB (mkN P1 n P1.length) n c s2.len hEl (mkN_len _ _ _) hn2 hc (enc_val hD c hc (by omega)) (by rw [hwr, hcnt]; exact hle)
  · rw [dif_cn, cn_congr n hdif, cn_or _ _ n hdis, ← cnt_cn, ← cnt_cn, hcnt, cnt_mk s2.lt s2.dist P2.length (Nat.le_refl _), Nat.add_comm]
  · refine list_ext (by rw [List.length_take, hEl]; omega) fun i hi => ?_
    rw [List.length_take, hEl] at hi
    rw [nth_take _ _ _ (by omega)]
    exact encL_front hD c i hc (by omega) (by omega)
end Go.Proofs.YtpenggkefbbopaaDoor
