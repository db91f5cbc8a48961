import Derived.Test.YtpenggkefbbopaaDoorFDivM
import Derived.Test.YtpenggkefbbopaaDoorFOvers
namespace Go.Proofs.YtpenggkefbbopaaDoor
set_option linter.unusedVariables false

theorem nth_sumL (P M : List Nat) (j : Nat) : nth (sumL P M) j = nth P j ^^^ nth M j := by
  by_cases h : j < max P.length M.length
  · unfold sumL; rw [nth_map_range _ _ _ h]
  · rw [nth_out P j (by omega), nth_out M j (by omega), nth_out _ _ (by simp [sumL]; omega)]; rfl
theorem xor_eq {a b : Nat} (h : a ^^^ b = 0) : a = b := by
  have : (a ^^^ b) ^^^ b = b := by rw [h, Nat.zero_xor]
  rwa [Nat.xor_assoc, Nat.xor_self, Nat.xor_zero] at this
theorem nth_nil (j : Nat) : nth [] j = 0 := nth_out [] j (Nat.zero_le _)
theorem trim_self (P : List Nat) : trimL (sumL P []) = trimL P := trimL_congr (fun j => by rw [nth_sumL, nth_nil, Nat.xor_zero])
theorem top_ne (Q : List Nat) (h : trimN Q Q.length ≠ 0) : nth (trimL Q) ((trimL Q).length - 1) ≠ 0 := by
  rw [trimL_len, nth_trimL]
  exact trimN_top Q Q.length _ (by omega)
theorem trimL_nil {A : List Nat} (h : ∀ j, nth A j = 0) : trimL A = [] := List.eq_nil_of_length_eq_zero (Nat.le_zero.1 (trimL_short 0 (fun j _ => h j)))
theorem nth_timR {P Q : List Nat} (hP : IsB P) (hQ : IsB Q) (h1 : P.length ≤ 512) (h2 : Q.length ≤ 512) (j : Nat) : nth (timR P Q) j = pc (nth P) (nth Q) P.length j := by
  unfold timR; rw [if_pos ⟨h1, h2⟩, nth_trimL, nth_timL hP hQ]
theorem ovQ_eq {P Q : List Nat} (h1 : P.length ≤ 512) (h2 : Q.length ≤ 512) (hz : trimN Q Q.length ≠ 0) : ovQ P Q = trimL (ovS P (trimL Q) (P.length + 1 - (trimL Q).length) (P.length + 1 - (trimL Q).length)) := by
  unfold ovQ; rw [if_pos ⟨h1, h2, hz⟩, trimL_len]
theorem ovT_eq {P Q : List Nat} (h1 : P.length ≤ 512) (h2 : Q.length ≤ 512) (hz : trimN Q Q.length ≠ 0) : ovT P Q = trimL (ovR P (trimL Q) (P.length + 1 - (trimL Q).length) (P.length + 1 - (trimL Q).length)) := by
  unfold ovT; rw [if_pos ⟨h1, h2, hz⟩, trimL_len]
theorem ovQ_small {P Q : List Nat} (hz : trimN Q Q.length ≠ 0) : (ovQ P Q).length ≤ P.length := by
  unfold ovQ; split
  · have h := trimL_le (ovS P (trimL Q) (P.length + 1 - trimN Q Q.length) (P.length + 1 - trimN Q Q.length))
    rw [ovS_length] at h
    omega
  · simp
theorem isB_ovQ {P Q : List Nat} (hP : IsB P) (hQ : IsB Q) : IsB (ovQ P Q) := by
  unfold ovQ; split
  · exact isB_trimL (ovS_isB hP (isB_trimL hQ) _ _)
  · intro x hx; cases hx
theorem div_sum {P Q : List Nat} (hP : IsB P) (hQ : IsB Q) (h1 : P.length ≤ 512) (h2 : Q.length ≤ 512) (hz : trimN Q Q.length ≠ 0) : trimL (sumL (timR (ovQ P Q) Q) (ovT P Q)) = trimL (sumL P []) := by
  refine trimL_congr fun j => ?_
  have hl0 : 0 < (trimL Q).length := by rw [trimL_len]; omega
  rw [nth_sumL, nth_sumL, nth_nil, Nat.xor_zero, nth_timR (isB_ovQ hP hQ) hQ (by have := ovQ_small (P := P) hz; omega) h2]
  rw [ov_inv hP (isB_trimL hQ) _ _ (Nat.le_refl _) rfl hl0 j, Nat.xor_comm]
  congr 1
  · rw [ovT_eq h1 h2 hz, nth_trimL]
  · have hle : (ovQ P Q).length ≤ P.length + 1 - (trimL Q).length := by
      rw [ovQ_eq h1 h2 hz]
      have h := trimL_le (ovS P (trimL Q) (P.length + 1 - (trimL Q).length) (P.length + 1 - (trimL Q).length))
      rw [ovS_length] at h
      exact h
    have e : P.length + 1 - (trimL Q).length = (ovQ P Q).length + (P.length + 1 - (trimL Q).length - (ovQ P Q).length) := by omega
    have hv : ∀ i, nth (ovQ P Q) i = nth (ovS P (trimL Q) (P.length + 1 - (trimL Q).length) (P.length + 1 - (trimL Q).length)) i := by
      intro i; rw [ovQ_eq h1 h2 hz, nth_trimL]
    rw [← pc_past (ovQ P Q).length (P.length + 1 - (trimL Q).length - (ovQ P Q).length) j (fun i hi => nth_out _ i hi), ← e]
    exact pc_congr _ _ hv (fun i => (nth_trimL Q i).symm)
theorem div_rest {P Q : List Nat} (hP : IsB P) (hQ : IsB Q) (h1 : P.length ≤ 512) (h2 : Q.length ≤ 512) (hz : trimN Q Q.length ≠ 0) : (ovT P Q).length < (trimL Q).length := by
  have hl0 : 0 < (trimL Q).length := by rw [trimL_len]; omega
  rw [ovT_eq h1 h2 hz]
  have := trimL_short ((trimL Q).length - 1) (fun j hj => ov_top hP (isB_trimL hQ) _ _ (Nat.le_refl _) rfl hl0 (top_ne Q hz) j (by omega))
  omega
theorem isB_timR {P Q : List Nat} (hP : IsB P) (hQ : IsB Q) : IsB (timR P Q) := by
  unfold timR; split
  · exact isB_trimL (timN_isB hP hQ _)
  · intro x hx; cases hx
theorem div_back {P Q : List Nat} (hP : IsB P) (hQ : IsB Q) (h1 : P.length ≤ 512) (h2 : Q.length ≤ 512) (hc : (timR P Q).length ≤ 512) (hz : trimN Q Q.length ≠ 0) : ovQ (timR P Q) Q = trimL (sumL P []) ∧ ovT (timR P Q) Q = [] := by
  have hl0 : 0 < (trimL Q).length := by rw [trimL_len]; omega
  obtain ⟨C, hC⟩ : ∃ C, C = timR P Q := ⟨_, rfl⟩
  have hCb : IsB C := by rw [hC]; exact isB_timR hP hQ
  have hCv : ∀ j, nth C j = pc (nth P) (nth Q) P.length j := fun j => by rw [hC]; exact nth_timR hP hQ h1 h2 j
  rw [← hC] at hc ⊢
  obtain ⟨st, hst⟩ : ∃ st, st = C.length + 1 - (trimL Q).length := ⟨_, rfl⟩
  have hinv := fun j => ov_inv hCb (isB_trimL hQ) st st (Nat.le_refl _) hst hl0 j
  have htop := fun j hj => ov_top hCb (isB_trimL hQ) st st (Nat.le_refl _) hst hl0 (top_ne Q hz) j hj
  have hS : ∀ i, nth (ovS C (trimL Q) st st) i < 256 := (ovS_isB hCb (isB_trimL hQ) st st).nth
  obtain ⟨N, hN⟩ : ∃ N, N = max st P.length := ⟨_, rfl⟩
  have hpcS : ∀ j, pc (nth (ovS C (trimL Q) st st)) (nth (trimL Q)) N j = pc (nth (ovS C (trimL Q) st st)) (nth (trimL Q)) st j := by
    intro j
    rw [show N = st + (N - st) by omega]
    exact pc_past st _ j (fun i hi => nth_out _ i (by rw [ovS_length]; exact hi))
  have hpcP : ∀ j, pc (nth P) (nth (trimL Q)) N j = pc (nth P) (nth Q) P.length j := by
    intro j
    rw [show N = P.length + (N - P.length) by omega, pc_past P.length _ j (fun i hi => nth_out _ i hi)]
    exact pc_congr _ _ (fun _ => rfl) (nth_trimL Q)
  have hR : ∀ j, pc (fun i => nth (ovS C (trimL Q) st st) i ^^^ nth P i) (nth (trimL Q)) N j = nth (ovR C (trimL Q) st st) j := by
    intro j
    rw [pc_xor, hpcS j, hpcP j, ← hCv j, hinv j, Nat.xor_comm, Nat.xor_assoc, Nat.xor_self, Nat.xor_zero]
  have hf0 := pc_uniq (f := fun i => nth (ovS C (trimL Q) st st) i ^^^ nth P i) (g := nth (trimL Q)) (fun i => Fld.xor_lt (hS i) (hP.nth i)) (isB_trimL hQ).nth N (trimL Q).length hl0 (top_ne Q hz)
    (fun i hi => nth_out _ i hi) (fun i hi => by rw [nth_out _ i (by rw [ovS_length]; omega), nth_out P i (by omega)]; rfl) (fun j hj => by rw [hR j]; exact htop j (by omega))
  constructor
  · rw [ovQ_eq hc h2 hz, ← hst, trim_self]
    refine trimL_congr fun i => ?_
    have := hf0 i
    have h3 : nth (ovS C (trimL Q) st st) i ^^^ nth P i = 0 := this
    exact xor_eq h3
  · rw [ovT_eq hc h2 hz, ← hst]
    refine trimL_nil fun j => ?_
    rw [← hR j]
    unfold pc
    refine xsum_zero N (fun i _ => ?_)
    show (if i ≤ j then Fld.mul (nth (trimL Q) (j - i)) (nth (ovS C (trimL Q) st st) i ^^^ nth P i) else 0) = 0
    rw [hf0 i, Fld.mul_zero]; split <;> rfl
end Go.Proofs.YtpenggkefbbopaaDoor
