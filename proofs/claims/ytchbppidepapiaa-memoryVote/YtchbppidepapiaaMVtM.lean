import Derived.Test.YtchbppidepapiaaMBl
namespace Go.Proofs.Ytchbppidepapiaa
open Go.RowKit
set_option maxRecDepth 100000
set_option linter.unusedVariables false
set_option linter.unusedSimpArgs false

/-- of three values two at least are x; whether one is another -/
structure Two (x a b c : Nat) (h : Bool) : Prop where
  two : (a = x ∧ b = x) ∨ (a = x ∧ c = x) ∨ (b = x ∧ c = x)
  hit : h = (a != x || b != x || c != x)
theorem voB_two {x a b c : Nat} {h : Bool} (t : Two x a b c h) : voB a b c = x := by
  have e1 : ∀ z, (x &&& x) ||| (x &&& z) ||| (x &&& z) = x := by
    intro z
    refine Nat.eq_of_testBit_eq fun i => ?_
    simp only [Nat.testBit_or, Nat.testBit_and]
    cases x.testBit i <;> cases z.testBit i <;> rfl
  have e2 : ∀ z, (x &&& z) ||| (x &&& x) ||| (z &&& x) = x := by
    intro z
    refine Nat.eq_of_testBit_eq fun i => ?_
    simp only [Nat.testBit_or, Nat.testBit_and]
    cases x.testBit i <;> cases z.testBit i <;> rfl
  have e3 : ∀ z, (z &&& x) ||| (z &&& x) ||| (x &&& x) = x := by
    intro z
    refine Nat.eq_of_testBit_eq fun i => ?_
    simp only [Nat.testBit_or, Nat.testBit_and]
    cases x.testBit i <;> cases z.testBit i <;> rfl
  unfold voB
  rcases t.two with ⟨rfl, rfl⟩ | ⟨rfl, rfl⟩ | ⟨rfl, rfl⟩
  · exact e1 c
  · exact e2 b
  · exact e3 a
theorem un_two {x a b c : Nat} {h : Bool} (t : Two x a b c h) : (a != b || a != c) = h := by
  rw [t.hit, Bool.eq_iff_iff]
  simp only [Bool.or_eq_true, bne_iff_ne, ne_eq]
  rcases t.two with ⟨h1, h2⟩ | ⟨h1, h2⟩ | ⟨h1, h2⟩ <;> omega
/-- three copies, of which two at each place are right -/
structure Cop (B X0 X1 X2 : List Nat) (H : List Bool) (n : Nat) : Prop where
  hl : H.length = n
  at' : ∀ p, p < n → Two (nth B p) (nth X0 p) (nth X1 p) (nth X2 p) (hat H p)
theorem cop_start (B : List Nat) (n : Nat) : Cop B B B B (List.replicate n false) n :=
  ⟨by simp, fun p hp => ⟨.inl ⟨rfl, rfl⟩, by rw [hat_none]; simp⟩⟩
theorem xor_other (a d : Nat) (h : d ≠ 0) : a ^^^ d ≠ a := by
  intro e
  have : a ^^^ (a ^^^ d) = a ^^^ a := by rw [e]
  rw [← Nat.xor_assoc, Nat.xor_self, Nat.zero_xor] at this
  exact h this
theorem two_hit0 {x a b c d : Nat} (t : Two x a b c false) (hd : d ≠ 0) : Two x (a ^^^ d) b c true := by
  have h := t.hit
  simp at h
  obtain ⟨⟨rfl, rfl⟩, rfl⟩ := h
  exact ⟨.inr (.inr ⟨rfl, rfl⟩), by simp [xor_other _ _ hd]⟩
theorem two_hit1 {x a b c d : Nat} (t : Two x a b c false) (hd : d ≠ 0) : Two x a (b ^^^ d) c true := by
  have h := t.hit
  simp at h
  obtain ⟨⟨rfl, rfl⟩, rfl⟩ := h
  exact ⟨.inr (.inl ⟨rfl, rfl⟩), by simp [xor_other _ _ hd]⟩
theorem two_hit2 {x a b c d : Nat} (t : Two x a b c false) (hd : d ≠ 0) : Two x a b (c ^^^ d) true := by
  have h := t.hit
  simp at h
  obtain ⟨⟨rfl, rfl⟩, rfl⟩ := h
  exact ⟨.inl ⟨rfl, rfl⟩, by simp [xor_other _ _ hd]⟩
theorem cop_hit0 {B X0 X1 X2 : List Nat} {H : List Bool} {n p d : Nat} (h : Cop B X0 X1 X2 H n) (hp : p < n) (hx : X0.length = n) (hh : hat H p = false) (hd : d ≠ 0) : Cop B (X0.set p (nth X0 p ^^^ d)) X1 X2 (H.set p true) n := by
  refine ⟨by rw [List.length_set]; exact h.hl, fun q hq => ?_⟩
  rw [nth_set _ _ _ _ (by omega), hat_set _ _ _ (by rw [h.hl]; exact hp)]
  by_cases e : p = q
  · subst e
    have t := h.at' p hp
    rw [hh] at t
    simpa using two_hit0 t hd
  · simpa [e] using h.at' q hq
theorem cop_hit1 {B X0 X1 X2 : List Nat} {H : List Bool} {n p d : Nat} (h : Cop B X0 X1 X2 H n) (hp : p < n) (hx : X1.length = n) (hh : hat H p = false) (hd : d ≠ 0) : Cop B X0 (X1.set p (nth X1 p ^^^ d)) X2 (H.set p true) n := by
  refine ⟨by rw [List.length_set]; exact h.hl, fun q hq => ?_⟩
  rw [nth_set _ _ _ _ (by omega), hat_set _ _ _ (by rw [h.hl]; exact hp)]
  by_cases e : p = q
  · subst e
    have t := h.at' p hp
    rw [hh] at t
    simpa using two_hit1 t hd
  · simpa [e] using h.at' q hq
theorem cop_hit2 {B X0 X1 X2 : List Nat} {H : List Bool} {n p d : Nat} (h : Cop B X0 X1 X2 H n) (hp : p < n) (hx : X2.length = n) (hh : hat H p = false) (hd : d ≠ 0) : Cop B X0 X1 (X2.set p (nth X2 p ^^^ d)) (H.set p true) n := by
  refine ⟨by rw [List.length_set]; exact h.hl, fun q hq => ?_⟩
  rw [nth_set _ _ _ _ (by omega), hat_set _ _ _ (by rw [h.hl]; exact hp)]
  by_cases e : p = q
  · subst e
    have t := h.at' p hp
    rw [hh] at t
    simpa using two_hit2 t hd
  · simpa [e] using h.at' q hq
/-- the places that were hit -/
def hiL (H : List Bool) : Nat → List Int
  | 0 => []
  | k + 1 => if hat H k then hiL H k ++ [(k : Int)] else hiL H k
theorem cop_vote {B X0 X1 X2 : List Nat} {H : List Bool} {n : Nat} (h : Cop B X0 X1 X2 H n) (hB : B.length = n) : tab n (voF X0 X1 X2) = B := by
  refine list_ext (by rw [tab_len, hB]) fun i hi => ?_
  rw [tab_len] at hi
  rw [tab_nth _ _ _ hi]
  exact voB_two (h.at' i hi)
theorem cop_un {B X0 X1 X2 : List Nat} {H : List Bool} {n : Nat} (h : Cop B X0 X1 X2 H n) (k : Nat) (hk : k ≤ n) : unL X0 X1 X2 k = hiL H k := by
  induction k with
  | zero => rfl
  | succ k ih =>
    have e : unB X0 X1 X2 k = hat H k := un_two (h.at' k (by omega))
    unfold unL hiL
    rw [ih (by omega), e]
theorem hiL_yes (H : List Bool) (k : Nat) (h : hat H k = true) : hiL H (k + 1) = hiL H k ++ [(k : Int)] := if_pos h
theorem hiL_no (H : List Bool) (k : Nat) (h : hat H k = false) : hiL H (k + 1) = hiL H k := by simp [hiL, h]
theorem hiL_pre (H : List Bool) (k d : Nat) : ∃ R, hiL H (k + d) = hiL H k ++ R := by
  induction d with
  | zero => exact ⟨[], by simp⟩
  | succ d ih =>
    obtain ⟨R, hR⟩ := ih
    cases h : hat H (k + d)
    · exact ⟨R, by rw [← Nat.add_assoc, hiL_no _ _ h, hR]⟩
    · exact ⟨R ++ [((k + d : Nat) : Int)], by rw [← Nat.add_assoc, hiL_yes _ _ h, hR, List.append_assoc]⟩
theorem hiL_at (H : List Bool) (k n : Nat) (h : k < n) (hk : hat H k = true) : (hiL H k).length < (hiL H n).length ∧ nthI (hiL H n) (hiL H k).length = (k : Int) := by
  obtain ⟨d, rfl⟩ : ∃ d, n = k + 1 + d := ⟨n - (k + 1), by omega⟩
  obtain ⟨R, hR⟩ := hiL_pre H (k + 1) d
  rw [hR, hiL_yes _ _ hk]
  constructor
  · simp
  · unfold nthI
    rw [List.getD_eq_getElem?_getD, List.append_assoc, List.getElem?_append_right (Nat.le_refl _), Nat.sub_self]
    rfl
theorem hiL_len (H : List Bool) (k : Nat) : (hiL H k).length ≤ k := by
  induction k with
  | zero => exact Nat.le_refl _
  | succ k ih =>
    unfold hiL
    split
    · rw [List.length_append]; simp; omega
    · omega
theorem hiL_none (n k : Nat) : (hiL (List.replicate n false) k).length = 0 := by
  induction k with
  | zero => rfl
  | succ k ih => rw [hiL_no _ _ (hat_none n k)]; exact ih
theorem hiL_set (H : List Bool) (p k : Nat) (hp : p < H.length) : (hiL (H.set p true) k).length ≤ (hiL H k).length + (if p < k then 1 else 0) := by
  induction k with
  | zero => simp [hiL]
  | succ k ih =>
    have e := hat_set H p k hp
    by_cases h : p = k
    · subst h
      rw [if_neg (Nat.lt_irrefl p)] at ih
      have e1 : hat (H.set p true) p = true := by rw [e]; simp
      rw [hiL_yes _ _ e1, if_pos (Nat.lt_succ_self p), List.length_append, List.length_singleton]
      cases h2 : hat H p
      · rw [hiL_no _ _ h2]; omega
      · rw [hiL_yes _ _ h2, List.length_append, List.length_singleton]; omega
    · have e1 : hat (H.set p true) k = hat H k := by rw [e]; simp [h]
      have e2 : (if p < k + 1 then 1 else 0) = (if p < k then 1 else 0) := by
        by_cases h3 : p < k
        · rw [if_pos h3, if_pos (by omega)]
        · rw [if_neg h3, if_neg (by omega)]
      rw [e2]
      cases h2 : hat H k
      · rw [hiL_no _ _ h2, hiL_no _ _ (e1.trans h2)]; exact ih
      · rw [hiL_yes _ _ h2, hiL_yes _ _ (e1.trans h2), List.length_append, List.length_append, List.length_singleton]; omega
theorem hiL_set1 (H : List Bool) (p k i : Nat) (hp : p < H.length) (h : (hiL H k).length ≤ i) : (hiL (H.set p true) k).length ≤ i + 1 := by
  have := hiL_set H p k hp
  split at this <;> omega
end Go.Proofs.Ytchbppidepapiaa
