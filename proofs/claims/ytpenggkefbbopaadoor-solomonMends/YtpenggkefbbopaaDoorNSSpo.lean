import Derived.Test.YtpenggkefbbopaaDoorNSMark2
namespace Go.Proofs.YtpenggkefbbopaaDoor
open Go.RowKit
set_option maxRecDepth 100000
set_option linter.unusedVariables false
set_option linter.unusedSimpArgs false

/-! lists of turns: a place and what is added there -/
def tA (T : List (Int × Int)) (i : Nat) : Int := (T.getD i (0, 0)).1
def tB (T : List (Int × Int)) (i : Nat) : Int := (T.getD i (0, 0)).2
def inI (x : Int) : Prop := -9223372036854775808 ≤ x ∧ x ≤ 9223372036854775807
structure RdT [Add GF] [Mul GF] [OfNat GF 0] [OfNat GF 1] [L : Nonempty GL] (w : World) (a : Option Addr) (m cap : Nat) (T : List (Int × Int)) : Prop where
  len : T.length = m
  le : m ≤ cap
  max : cap ≤ maxLen
  inA : ∀ i, inI (tA T i)
  inB : ∀ i, inI (tB T i)
  at' : 0 < m → ∃ b off, a = some ⟨b, off, none⟩ ∧ b < w.heap.size ∧ ∀ i, i < m → w.cell? ⟨b, off + i * 2, none⟩ = some (.int .i64 (tA T i)) ∧ w.cell? ⟨b, off + i * 2 + 1, none⟩ = some (.int .i64 (tB T i))
theorem RdT.far [Add GF] [Mul GF] [OfNat GF 0] [OfNat GF 1] [L : Nonempty GL] {w w' : World} {a : Option Addr} {m cap : Nat} {T : List (Int × Int)} {r : Option Nat} (h : RdT w a m cap T) (hg : w.grownBy w' r) (hne : ∀ x, a = some x → some x.block ≠ r) : RdT w' a m cap T := by
  refine ⟨h.len, h.le, h.max, h.inA, h.inB, fun h0 => ?_⟩
  obtain ⟨b, off, rfl, hb, hc⟩ := h.at' h0
  refine ⟨b, off, rfl, Nat.lt_of_lt_of_le hb hg.size, fun i hi => ?_⟩
  have e := hg.block b hb (hne _ rfl)
  exact ⟨(World.cell?_of_block (w := w) e).trans (hc i hi).1, (World.cell?_of_block (w := w) e).trans (hc i hi).2⟩
theorem RdT.keep [Add GF] [Mul GF] [OfNat GF 0] [OfNat GF 1] [L : Nonempty GL] {w w' : World} {a : Option Addr} {m cap : Nat} {T : List (Int × Int)} (h : RdT w a m cap T) (hg : w.grownBy w' none) : RdT w' a m cap T := h.far hg (fun _ _ => by simp)
/-- does x stand among the first k of P? -/
def has (P : List Nat) (x : Nat) : Nat → Bool
  | 0 => false
  | k + 1 => has P x k || (nth P k == x)
theorem has_iff (P : List Nat) (x k : Nat) : has P x k = true ↔ ∃ i, i < k ∧ nth P i = x := by
  induction k with
  | zero => simp [has]
  | succ k ih =>
    simp only [has, Bool.or_eq_true, ih, beq_iff_eq]
    constructor
    · rintro (⟨i, hi, e⟩ | e)
      · exact ⟨i, by omega, e⟩
      · exact ⟨k, by omega, e⟩
    · rintro ⟨i, hi, e⟩
      by_cases h : i = k
      · subst h; exact .inr e
      · exact .inl ⟨i, by omega, e⟩
/-- the state of 'spoilt': which places have been turned, and what has come of the bytes -/
structure Spo (L D P : List Nat) (T : List (Int × Int)) (n i : Nat) : Prop where
  len : D.length = n
  byte : IsB D
  dist : Dist P
  lt : ∀ j, j < P.length → nth P j < n
  of : ∀ j, j < P.length → ∃ q, q < i ∧ nth P j = pk (tA T q) n
  dif : ∀ p, p < n → (nth D p ≠ nth L p ↔ ∃ j, j < P.length ∧ nth P j = p)
theorem spo_start {L : List Nat} (hL : IsB L) (T : List (Int × Int)) (n : Nat) (hn : L.length = n) : Spo L L [] T n 0 :=
  ⟨hn, hL, fun i j _ h => by simp at h, fun j h => by simp at h, fun j h => by simp at h, fun p _ => ⟨fun h => absurd rfl h, fun ⟨j, h, _⟩ => by simp at h⟩⟩
theorem Spo.skip {L D P : List Nat} {T : List (Int × Int)} {n i : Nat} (s : Spo L D P T n i) : Spo L D P T n (i + 1) :=
  ⟨s.len, s.byte, s.dist, s.lt, fun j h => by obtain ⟨q, h1, h2⟩ := s.of j h; exact ⟨q, by omega, h2⟩, s.dif⟩
theorem nth_app (A : List Nat) (v i : Nat) : nth (A ++ [v]) i = if i < A.length then nth A i else if i = A.length then v else 0 := by
  unfold nth
  rw [List.getD_eq_getElem?_getD, List.getD_eq_getElem?_getD]
  by_cases h : i < A.length
  · rw [if_pos h, List.getElem?_append_left h]
  · rw [if_neg h, List.getElem?_append_right (by omega)]
    by_cases e : i = A.length
    · rw [if_pos e, e]; simp
    · rw [if_neg e, List.getElem?_eq_none (by simp; omega)]; rfl
theorem Spo.turn {L D P : List Nat} {T : List (Int × Int)} {n i : Nat} (s : Spo L D P T n i) (x y : Nat) (hx : x < n) (hxe : x = pk (tA T i) n) (hy : y < 256) (hy0 : y ≠ 0) (hnew : has P x P.length = false) :
    Spo L (D.set x (nth D x ^^^ y)) (P ++ [x]) T n (i + 1) := by
  have hno : ¬ ∃ j, j < P.length ∧ nth P j = x := fun h => by rw [← has_iff, hnew] at h; cases h
  refine ⟨by rw [List.length_set]; exact s.len, isB_set s.byte _ _ (Fld.xor_lt (s.byte.nth x) hy), ?_, ?_, ?_, ?_⟩
  · intro a b hba ha
    simp at ha
    rw [nth_app, nth_app, if_pos (show b < P.length by omega)]
    by_cases e : a < P.length
    · rw [if_pos e]; exact s.dist a b hba e
    · rw [if_neg e, if_pos (by omega)]
      exact fun h => hno ⟨b, by omega, h⟩
  · intro j hj
    simp at hj
    rw [nth_app]
    by_cases e : j < P.length
    · rw [if_pos e]; exact s.lt j e
    · rw [if_neg e, if_pos (by omega)]; exact hx
  · intro j hj
    simp at hj
    rw [nth_app]
    by_cases e : j < P.length
    · rw [if_pos e]; obtain ⟨q, h1, h2⟩ := s.of j e; exact ⟨q, by omega, h2⟩
    · rw [if_neg e, if_pos (by omega)]; exact ⟨i, by omega, hxe⟩
  · intro p hp
    rw [nth_set _ _ _ _ (by rw [s.len]; exact hx)]
    by_cases e : x = p
    · subst e
      rw [if_pos rfl]
      refine ⟨fun _ => ⟨P.length, by simp, by rw [nth_app, if_neg (by omega), if_pos rfl]⟩, fun _ h => ?_⟩
      have hD : nth D x = nth L x := by
        by_cases h2 : nth D x = nth L x
        · exact h2
        · exact absurd ((s.dif x hx).1 h2) hno
      rw [hD] at h
      have := congrArg (nth L x ^^^ ·) h
      simp only [← Nat.xor_assoc, Nat.xor_self, Nat.zero_xor] at this
      exact hy0 this
    · rw [if_neg e, s.dif p hp]
      constructor
      · rintro ⟨j, hj, e2⟩
        exact ⟨j, by simp; omega, by rw [nth_app, if_pos hj]; exact e2⟩
      · rintro ⟨j, hj, e2⟩
        simp at hj
        rw [nth_app] at e2
        by_cases e3 : j < P.length
        · rw [if_pos e3] at e2; exact ⟨j, e3, e2⟩
        · rw [if_neg e3, if_pos (by omega)] at e2; exact absurd e2 e
end Go.Proofs.YtpenggkefbbopaaDoor
