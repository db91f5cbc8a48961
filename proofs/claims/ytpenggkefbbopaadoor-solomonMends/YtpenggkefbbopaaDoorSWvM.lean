import Derived.Test.YtpenggkefbbopaaDoorSWv
namespace Go.Proofs.YtpenggkefbbopaaDoor
open Go.RowKit
set_option maxRecDepth 100000
set_option linter.unusedVariables false
set_option linter.unusedSimpArgs false

theorem dm (i d at_ : Nat) (h : at_ < d) : (i * d + at_) / d = i ∧ (i * d + at_) % d = at_ := by
  have hd : 0 < d := by omega
  constructor
  · rw [Nat.add_comm, Nat.add_mul_div_right _ _ hd, Nat.div_eq_of_lt h, Nat.zero_add]
  · rw [Nat.add_comm, Nat.add_mul_mod_self_right, Nat.mod_eq_of_lt h]
theorem dm_eq (p d : Nat) : p = p / d * d + p % d := by
  have := Nat.div_add_mod p d
  rw [Nat.mul_comm] at this; exact this.symm
/-- row 'at_' of a list that was laid into d rows -/
def pickL (L : List Nat) (at_ d : Nat) : List Nat := (List.range (L.length / d)).map fun i => nth L (i * d + at_)
theorem pickL_len (L : List Nat) (at_ d : Nat) : (pickL L at_ d).length = L.length / d := by simp [pickL]
theorem nth_pickL (L : List Nat) (at_ d i : Nat) (h : i < L.length / d) : nth (pickL L at_ d) i = nth L (i * d + at_) := nth_map_range _ _ _ h
theorem isB_pickL {L : List Nat} (h : IsB L) (at_ d : Nat) : IsB (pickL L at_ d) := by
  intro x hx
  simp only [pickL, List.mem_map] at hx
  obtain ⟨i, _, rfl⟩ := hx
  exact h.nth _
/-- a row is put into its places: k rounds -/
def layN (D R : List Nat) (at_ d : Nat) : Nat → List Nat
  | 0 => D
  | k + 1 => (layN D R at_ d k).set (k * d + at_) (nth R k)
theorem layN_len (D R : List Nat) (at_ d k : Nat) : (layN D R at_ d k).length = D.length := by
  induction k with
  | zero => rfl
  | succ k ih => simp only [layN, List.length_set]; exact ih
theorem isB_layN {D R : List Nat} (hD : IsB D) (hR : IsB R) (at_ d k : Nat) : IsB (layN D R at_ d k) := by
  induction k with
  | zero => exact hD
  | succ k ih => exact isB_set ih _ _ (hR.nth _)
theorem nth_layN (D R : List Nat) (at_ d k p : Nat) (h : at_ < d) (hk : ∀ i, i < k → i * d + at_ < D.length) :
    nth (layN D R at_ d k) p = if p % d = at_ ∧ p / d < k then nth R (p / d) else nth D p := by
  induction k with
  | zero => rw [if_neg (fun h => Nat.not_lt_zero _ h.2)]; rfl
  | succ k ih =>
    show nth ((layN D R at_ d k).set (k * d + at_) (nth R k)) p = _
    rw [nth_set _ _ _ _ (by rw [layN_len]; exact hk k (by omega)), ih (fun i hi => hk i (by omega))]
    obtain ⟨h1, h2⟩ := dm k d at_ h
    by_cases e : k * d + at_ = p
    · rw [if_pos e, ← e, h1, h2, if_pos ⟨rfl, by omega⟩]
    · rw [if_neg e]
      by_cases e2 : p % d = at_ ∧ p / d < k
      · rw [if_pos e2, if_pos ⟨e2.1, by omega⟩]
      · rw [if_neg e2, if_neg ?_]
        rintro ⟨e3, e4⟩
        have e5 : p / d = k := by
          by_cases e6 : p / d < k
          · exact absurd ⟨e3, e6⟩ e2
          · omega
        apply e
        rw [← e3, ← e5]
        exact (dm_eq p d).symm
/-- the block of the data L, in d rows -/
def weaveL (L : List Nat) (d c : Nat) : List Nat := (List.range (L.length + c * d)).map fun p => nth (encL (pickL L (p % d) d) c) (p / d)
theorem weaveL_len (L : List Nat) (d c : Nat) : (weaveL L d c).length = L.length + c * d := by simp [weaveL]
theorem nth_weaveL (L : List Nat) (d c p : Nat) (h : p < L.length + c * d) : nth (weaveL L d c) p = nth (encL (pickL L (p % d) d) c) (p / d) := nth_map_range _ _ _ h

/-! the rest of a division is no longer than the checks -/
theorem xsum_zero' {f : Nat → Nat} (n : Nat) (h : ∀ i, i < n → f i = 0) : xsum f n = 0 := xsum_zero n h
theorem isB_genN (k : Nat) : IsB (genN k) := by
  induction k with
  | zero => intro x hx; simp [genN] at hx; omega
  | succ k ih => exact isB_timR ih (isB_pair _ _ (pow2_lt _) (by decide))
theorem genN_len (k : Nat) (hk : k ≤ 500) : (genN k).length ≤ k + 1 := by
  induction k with
  | zero => simp [genN]
  | succ k ih =>
    have h1 := ih (by omega)
    have hB := isB_pair (pow2 ((k : Int) + 1)) 1 (pow2_lt _) (by decide)
    show (timR (genN k) [pow2 ((k : Int) + 1), 1]).length ≤ _
    unfold timR
    rw [if_pos ⟨by omega, by simp⟩]
    refine trimL_short _ (fun j hj => ?_)
    rw [nth_timL (isB_genN k) hB]
    refine xsum_zero _ (fun i hi => ?_)
    show (if i ≤ j then Fld.mul (nth [pow2 ((k : Int) + 1), 1] (j - i)) (nth (genN k) i) else 0) = 0
    rw [if_pos (by omega), nth_out _ (j - i) (by simp; omega)]
    exact Fld.zero_mul ((isB_genN k).nth i)
theorem chkL_short {L : List Nat} (hL : IsB L) (c : Nat) (hc : c ≤ 64) (hn : L.length + c ≤ 255) : (chkL L c).length ≤ c := by
  unfold chkL
  by_cases hz : trimN (genN c) (genN c).length = 0
  · unfold ovT; rw [if_neg (by simp [hz])]; simp
  · have h := div_rest (isB_reverse (isB_rawL hL c)) (isB_genN c) (by rw [List.length_reverse, rawL_len]; omega) (by have := genN_len c (by omega); omega) hz
    have h2 := trimL_le (genN c)
    have h3 := genN_len c (by omega)
    omega
theorem encL_front {L : List Nat} (hL : IsB L) (c i : Nat) (hc : c ≤ 64) (hn : L.length + c ≤ 255) (hi : i < L.length) : nth (encL L c) i = nth L i := by
  rw [nth_encL _ _ _ (by omega)]
  unfold encF
  have := chkL_short hL c hc hn
  rw [if_neg (by omega)]
  unfold rawL
  exact nth_append_left _ _ _ hi
theorem isB_encL {L : List Nat} (hL : IsB L) (c : Nat) (hc : c ≤ 64) (hn : L.length + c ≤ 255) : IsB (encL L c) := by
  intro x hx
  simp only [encL, List.mem_map] at hx
  obtain ⟨i, _, rfl⟩ := hx
  unfold encF
  split
  · have hB : IsB (chkL L c) := by
      unfold chkL ovT
      split
      · exact isB_trimL (ovR_isB (isB_reverse (isB_rawL hL c)) (isB_trimL (isB_genN c)) _ _)
      · intro x hx; cases hx
    exact hB.nth _
  · exact (isB_rawL hL c).nth _
theorem weave_front {L : List Nat} (hL : IsB L) (d c p k : Nat) (hd : 0 < d) (hk : L.length = k * d) (hc : c ≤ 64) (hn : k + c ≤ 255) (hp : p < L.length) : nth (encL (pickL L (p % d) d) c) (p / d) = nth L p := by
  have hkk : L.length / d = k := by rw [hk, Nat.mul_div_cancel _ hd]
  have hpk : p / d < k := (Nat.div_lt_iff_lt_mul hd).2 (by rw [← hk]; exact hp)
  rw [encL_front (isB_pickL hL _ _) c _ hc (by rw [pickL_len, hkk]; exact hn) (by rw [pickL_len, hkk]; exact hpk), nth_pickL _ _ _ _ (by rw [hkk]; exact hpk)]
  rw [← dm_eq p d]
end Go.Proofs.YtpenggkefbbopaaDoor
