import Derived.Test.YtnjdbbjhplebhaaProg
import Derived.WalkKit
namespace Go.Proofs.Ytnjdbbjhplebhaa
open Go.RowKit
set_option maxRecDepth 100000
set_option linter.unusedVariables false
set_option linter.unusedSimpArgs false

section
/-- a job: from when, by when, how many bytes -/
structure Jb where
  fr : Nat
  by' : Nat
  by8 : Nat
/-- a sum over the first n places -/
def sumF (f : Nat → Nat) : Nat → Nat
  | 0 => 0
  | n + 1 => sumF f n + f n
theorem sumF_le (f g : Nat → Nat) : ∀ n, (∀ i, i < n → f i ≤ g i) → sumF f n ≤ sumF g n
  | 0, _ => Nat.le_refl _
  | n + 1, h => by
    have h1 := sumF_le f g n (fun i hi => h i (by omega))
    have h2 := h n (by omega)
    show sumF f n + f n ≤ sumF g n + g n
    omega
theorem sumF_eq (f g : Nat → Nat) : ∀ n, (∀ i, i < n → f i = g i) → sumF f n = sumF g n
  | 0, _ => rfl
  | n + 1, h => by
    show sumF f n + f n = sumF g n + g n
    rw [sumF_eq f g n (fun i hi => h i (by omega)), h n (by omega)]
theorem sumF_add (f g : Nat → Nat) : ∀ n, sumF (fun i => f i + g i) n = sumF f n + sumF g n
  | 0 => rfl
  | n + 1 => by
    show sumF (fun i => f i + g i) n + (f n + g n) = sumF f n + f n + (sumF g n + g n)
    rw [sumF_add f g n]
    omega
theorem sumF_lt (f g : Nat → Nat) : ∀ n, (∀ i, i < n → f i ≤ g i) → (∃ i, i < n ∧ f i < g i) → sumF f n < sumF g n
  | 0, _, ⟨i, hi, _⟩ => by omega
  | n + 1, h, ⟨i, hi, hlt⟩ => by
    show sumF f n + f n < sumF g n + g n
    have h2 := h n (by omega)
    by_cases e : i = n
    · subst e
      have h1 := sumF_le f g i (fun j hj => h j (by omega))
      omega
    · have h1 := sumF_lt f g n (fun j hj => h j (by omega)) ⟨i, by omega, hlt⟩
      omega
theorem sumF_zero : ∀ n, sumF (fun _ => 0) n = 0
  | 0 => rfl
  | n + 1 => sumF_zero n
/-- one place alone -/
theorem sumF_one (k m : Nat) : ∀ n, k < n → sumF (fun i => if i = k then m else 0) n = m
  | 0, h => by omega
  | n + 1, h => by
    show sumF _ n + (if n = k then m else 0) = m
    by_cases e : n = k
    · subst e
      rw [if_pos rfl, sumF_eq _ (fun _ => 0) n (fun i hi => if_neg (by omega)), sumF_zero]
      omega
    · rw [if_neg e, sumF_one k m n (by omega)]
      omega
/-- is a job waiting in tick t? -/
def wt (J : Nat → Jb) (t : Nat) (L : Nat → Nat) (i : Nat) : Bool := decide (0 < L i) && decide ((J i).fr ≤ t)
/-- the one that goes next, of the first n: the earliest By, the first of those -/
def nxt (J : Nat → Jb) (t : Nat) (L : Nat → Nat) : Nat → Option Nat
  | 0 => none
  | n + 1 => match nxt J t L n with
    | none => if wt J t L n then some n else none
    | some k => if wt J t L n && decide ((J n).by' < (J k).by') then some n else some k
/-- what it is -/
theorem nxt_some {J : Nat → Jb} {t : Nat} {L : Nat → Nat} : ∀ {n k : Nat}, nxt J t L n = some k → k < n ∧ wt J t L k = true ∧ ∀ i, i < n → wt J t L i = true → (J k).by' < (J i).by' ∨ ((J k).by' = (J i).by' ∧ k ≤ i)
  | 0, k, h => by cases h
  | n + 1, k, h => by
    unfold nxt at h
    split at h
    · rename_i hn
      split at h
      · rename_i hw
        cases h
        refine ⟨by omega, hw, fun i hi hwi => ?_⟩
        by_cases e : i = n
        · subst e
          exact .inr ⟨rfl, Nat.le_refl _⟩
        · exact absurd hwi (by rw [nxt_none hn i (by omega)]; decide)
      · cases h
    · rename_i k' hn
      obtain ⟨h1, h2, h3⟩ := nxt_some hn
      split at h
      · rename_i hw
        cases h
        rw [Bool.and_eq_true] at hw
        have hlt := of_decide_eq_true hw.2
        refine ⟨by omega, hw.1, fun i hi hwi => ?_⟩
        by_cases e : i = n
        · subst e
          exact .inr ⟨rfl, Nat.le_refl _⟩
        · rcases h3 i (by omega) hwi with h | h <;> exact .inl (by omega)
      · rename_i hw
        cases h
        refine ⟨by omega, h2, fun i hi hwi => ?_⟩
        by_cases e : i = n
        · subst e
          rw [hwi, Bool.true_and, decide_eq_true_iff] at hw
          by_cases e2 : (J k).by' = (J i).by'
          · exact .inr ⟨e2, by omega⟩
          · exact .inl (by omega)
        · exact h3 i (by omega) hwi
where
  nxt_none {J : Nat → Jb} {t : Nat} {L : Nat → Nat} : ∀ {n : Nat}, nxt J t L n = none → ∀ i, i < n → wt J t L i = false
  | 0, _, i, hi => by omega
  | n + 1, h, i, hi => by
    unfold nxt at h
    split at h
    · rename_i hn
      split at h
      · cases h
      · rename_i hw
        by_cases e : i = n
        · subst e
          simpa using hw
        · exact nxt_none hn i (by omega)
    · split at h <;> cases h
theorem nxt_none {J : Nat → Jb} {t : Nat} {L : Nat → Nat} {n : Nat} (h : nxt J t L n = none) (i : Nat) (hi : i < n) : wt J t L i = false := nxt_some.nxt_none h i hi
/-- whoever is so is the one -/
theorem nxt_is {J : Nat → Jb} {t : Nat} {L : Nat → Nat} {n k : Nat} (hk : k < n) (hw : wt J t L k = true) (hb : ∀ i, i < n → wt J t L i = true → (J k).by' < (J i).by' ∨ ((J k).by' = (J i).by' ∧ k ≤ i)) : nxt J t L n = some k := by
  cases h : nxt J t L n with
  | none => rw [nxt_none h k hk] at hw; cases hw
  | some j =>
    obtain ⟨h1, h2, h3⟩ := nxt_some h
    have a := h3 k hk hw
    have b := hb j h1 h2
    have : j = k := by omega
    rw [this]
/-- less of one -/
def less (L : Nat → Nat) (k m : Nat) : Nat → Nat := fun i => if i = k then L i - m else L i
/-- when one is gone -/
def atG (G : Nat → Int) (k : Nat) (g : Int) : Nat → Int := fun i => if i = k then g else G i
/-- what goes in a tick: fuel, room, what is left, when which was gone -/
def sendJ (J : Nat → Jb) (n t : Nat) : Nat → Nat → (Nat → Nat) → (Nat → Int) → (Nat → Nat) × (Nat → Int)
  | 0, _, L, G => (L, G)
  | f + 1, R, L, G => if R = 0 then (L, G) else match nxt J t L n with
    | none => (L, G)
    | some k => sendJ J n t f (R - min (L k) R) (less L k (min (L k) R)) (if L k ≤ R then atG G k (t + 1) else G)
theorem sendJ_zero (J : Nat → Jb) (n t f : Nat) (L : Nat → Nat) (G : Nat → Int) : sendJ J n t f 0 L G = (L, G) := by
  cases f with
  | zero => rfl
  | succ f => unfold sendJ; rw [if_pos rfl]
/-- the room is fuel enough -/
theorem sendJ_fuel (J : Nat → Jb) (n t : Nat) : ∀ (f g R : Nat) (L : Nat → Nat) (G : Nat → Int), R ≤ f → R ≤ g → sendJ J n t f R L G = sendJ J n t g R L G
  | 0, g, R, L, G, h, _ => by
    have : R = 0 := by omega
    subst this
    rw [sendJ_zero, sendJ_zero]
  | f + 1, 0, R, L, G, _, h => by
    have : R = 0 := by omega
    subst this
    rw [sendJ_zero, sendJ_zero]
  | f + 1, g + 1, R, L, G, hf, hg => by
    unfold sendJ
    split
    · rfl
    · rename_i hR
      split
      · rfl
      · rename_i k hk
        have hw := (nxt_some hk).2.1
        unfold wt at hw
        rw [Bool.and_eq_true, decide_eq_true_iff] at hw
        exact sendJ_fuel J n t f g _ _ _ (by omega) (by omega)
end

section
/-- is a job's end at b at the latest? -/
def inD (J : Nat → Jb) (b i : Nat) : Bool := decide ((J i).by' ≤ b)
/-- what went of those that end by b at the latest -/
def went (J : Nat → Jb) (b : Nat) (L L' : Nat → Nat) : Nat → Nat := fun i => if inD J b i then L i - L' i else 0
theorem less_le (L : Nat → Nat) (k m i : Nat) : less L k m i ≤ L i := by
  unfold less
  split <;> omega
theorem went_add {J : Nat → Jb} {b : Nat} {L M L' : Nat → Nat} (h1 : ∀ i, M i ≤ L i) (h2 : ∀ i, L' i ≤ M i) (i : Nat) : went J b L L' i = went J b L M i + went J b M L' i := by
  unfold went
  have := h1 i
  have := h2 i
  split <;> omega
theorem went_less {J : Nat → Jb} {b k m : Nat} {L : Nat → Nat} (hm : m ≤ L k) (i : Nat) : went J b L (less L k m) i = if i = k then (if inD J b k then m else 0) else 0 := by
  unfold went less
  by_cases e : i = k
  · subst e
    rw [if_pos rfl, if_pos rfl]
    split <;> omega
  · rw [if_neg e, if_neg e, Nat.sub_self]
    split <;> rfl
theorem sum_less {J : Nat → Jb} {b k m n : Nat} {L : Nat → Nat} (hk : k < n) (hm : m ≤ L k) : sumF (went J b L (less L k m)) n = if inD J b k then m else 0 := by
  rw [sumF_eq _ _ n (fun i _ => went_less hm i), sumF_one k _ n hk]
/-- WHAT A TICK DOES: nothing grows; no more than the room goes; who is not yet there keeps all; and either all the room is taken by those that end by b, or none of them is waiting any more. -/
structure TkS (J : Nat → Jb) (n t R b : Nat) (L L' : Nat → Nat) : Prop where
  le : ∀ i, L' i ≤ L i
  keep : ∀ i, t < (J i).fr → L' i = L i
  all : sumF (fun i => L i - L' i) n ≤ R
  out : ∀ i, n ≤ i → L' i = L i
  some' : sumF (went J b L L') n ≤ R
  full : sumF (went J b L L') n = R ∨ ∀ i, i < n → inD J b i = true → (J i).fr ≤ t → L' i = 0
theorem send_tick (J : Nat → Jb) (n t b : Nat) : ∀ (f R : Nat) (L : Nat → Nat) (G : Nat → Int), R ≤ f → TkS J n t R b L (sendJ J n t f R L G).1
  | 0, R, L, G, h => by
    have : R = 0 := by omega
    subst this
    refine ⟨fun i => Nat.le_refl _, fun i _ => rfl, ?_, fun i _ => rfl, ?_, .inl ?_⟩
    · show sumF (fun i => L i - L i) n ≤ 0
      rw [sumF_eq _ (fun _ => 0) n (fun i _ => Nat.sub_self _), sumF_zero]
      exact Nat.le_refl _
    · show sumF (went J b L L) n ≤ 0
      rw [sumF_eq _ (fun _ => 0) n (fun i _ => by unfold went; split <;> simp), sumF_zero]
      exact Nat.le_refl _
    · show sumF (went J b L L) n = 0
      rw [sumF_eq _ (fun _ => 0) n (fun i _ => by unfold went; split <;> simp), sumF_zero]
  | f + 1, R, L, G, h => by
    have w0 : sumF (went J b L L) n = 0 := by rw [sumF_eq _ (fun _ => 0) n (fun i _ => by unfold went; split <;> simp), sumF_zero]
    have a0 : sumF (fun i => L i - L i) n = 0 := by rw [sumF_eq _ (fun _ => 0) n (fun i _ => Nat.sub_self _), sumF_zero]
    unfold sendJ
    by_cases hR : R = 0
    · rw [if_pos hR]
      exact ⟨fun i => Nat.le_refl _, fun i _ => rfl, by show sumF (fun i => L i - L i) n ≤ R; omega, fun i _ => rfl, by show sumF (went J b L L) n ≤ R; omega, .inl (by show sumF (went J b L L) n = R; omega)⟩
    · rw [if_neg hR]
      cases hn : nxt J t L n with
      | none =>
        refine ⟨fun i => Nat.le_refl _, fun i _ => rfl, by show sumF (fun i => L i - L i) n ≤ R; omega, fun i _ => rfl, by show sumF (went J b L L) n ≤ R; omega, .inr fun i hi _ hf => ?_⟩
        have := nxt_none hn i hi
        unfold wt at this
        rw [decide_eq_true hf, Bool.and_true, decide_eq_false_iff_not] at this
        show L i = 0
        omega
      | some k =>
        obtain ⟨hk, hw, hb⟩ := nxt_some hn
        have hw' := hw
        unfold wt at hw'
        rw [Bool.and_eq_true, decide_eq_true_iff, decide_eq_true_iff] at hw'
        dsimp only
        obtain ⟨m, hm⟩ : ∃ m, m = min (L k) R := ⟨_, rfl⟩
        rw [← hm]
        have hmL : m ≤ L k := by omega
        have hmR : m ≤ R := by omega
        have ih := send_tick J n t b f (R - m) (less L k m) (if L k ≤ R then atG G k (t + 1) else G) (by omega)
        generalize (sendJ J n t f (R - m) (less L k m) (if L k ≤ R then atG G k (t + 1) else G)).1 = L' at ih
        have hsum : sumF (went J b L L') n = (if inD J b k then m else 0) + sumF (went J b (less L k m) L') n := by
          rw [← sum_less hk hmL, ← sumF_add]
          exact sumF_eq _ _ n (fun i _ => went_add (less_le L k m) ih.le i)
        have hall : sumF (fun i => L i - L' i) n = m + sumF (fun i => less L k m i - L' i) n := by
          have e1 : sumF (fun i => if i = k then m else 0) n = m := sumF_one k m n hk
          rw [← e1, ← sumF_add, e1]
          refine sumF_eq _ _ n (fun i _ => ?_)
          have h1 := ih.le i
          have h2 := less_le L k m i
          by_cases e : i = k
          · subst e
            rw [if_pos rfl]
            unfold less at h1 ⊢
            rw [if_pos rfl] at h1 ⊢
            omega
          · rw [if_neg e]
            unfold less at h1 ⊢
            rw [if_neg e] at h1 ⊢
            omega
        refine ⟨fun i => Nat.le_trans (ih.le i) (less_le L k m i), fun i hi => ?_, ?_, fun i hi => ?_, ?_, ?_⟩
        · rw [ih.keep i hi]
          unfold less
          rw [if_neg (fun e => by subst e; omega)]
        · have := ih.all
          omega
        · rw [ih.out i hi]
          unfold less
          rw [if_neg (by omega)]
        · have := ih.some'
          rw [hsum]
          split <;> omega
        · rcases ih.full with hf | hf
          · by_cases hd : inD J b k = true
            · left
              rw [hsum, if_pos hd, hf]
              omega
            · right
              intro i hi hdi hfr
              have hz : L i = 0 := by
                refine Nat.eq_zero_of_not_pos fun hp => ?_
                have hwi : wt J t L i = true := by unfold wt; rw [decide_eq_true hp, decide_eq_true hfr]; rfl
                have h1 := hb i hi hwi
                unfold inD at hd hdi
                rw [decide_eq_true_iff] at hd hdi
                omega
              have h1 := ih.le i
              have h2 := less_le L k m i
              omega
          · exact .inr hf
end

section
/-- when a job is gone ahead of all ticks -/
def g0J (J : Nat → Jb) : Nat → Int := fun i => if (J i).by8 = 0 then ((J i).fr : Int) else -1
/-- what is left of which job ahead of tick t, and which are gone -/
def runJ (J : Nat → Jb) (n : Nat) (r : Nat → Nat) : Nat → (Nat → Nat) × (Nat → Int)
  | 0 => (fun i => (J i).by8, g0J J)
  | t + 1 => sendJ J n t (r t) (r t) (runJ J n r t).1 (runJ J n r t).2
abbrev lf (J : Nat → Jb) (n : Nat) (r : Nat → Nat) (t : Nat) : Nat → Nat := (runJ J n r t).1
theorem run_tick (J : Nat → Jb) (n : Nat) (r : Nat → Nat) (b t : Nat) : TkS J n t (r t) b (lf J n r t) (lf J n r (t + 1)) := send_tick J n t b (r t) (r t) _ _ (Nat.le_refl _)
theorem run_le (J : Nat → Jb) (n : Nat) (r : Nat → Nat) (i : Nat) : ∀ (a d : Nat), lf J n r (a + d) i ≤ lf J n r a i
  | a, 0 => Nat.le_refl _
  | a, d + 1 => Nat.le_trans ((run_tick J n r 0 (a + d)).le i) (run_le J n r i a d)
theorem run_le' (J : Nat → Jb) (n : Nat) (r : Nat → Nat) (i a b : Nat) (h : a ≤ b) : lf J n r b i ≤ lf J n r a i := by
  have := run_le J n r i a (b - a)
  rwa [show a + (b - a) = b by omega] at this
theorem run_keep (J : Nat → Jb) (n : Nat) (r : Nat → Nat) (i : Nat) : ∀ t, t ≤ (J i).fr → lf J n r t i = (J i).by8
  | 0, _ => rfl
  | t + 1, h => ((run_tick J n r 0 t).keep i (by omega)).trans (run_keep J n r i t (by omega))
theorem run_sum (J : Nat → Jb) (n : Nat) (r : Nat → Nat) (a : Nat) : ∀ d, sumF (fun i => lf J n r a i - lf J n r (a + d) i) n + sumF r a ≤ sumF r (a + d)
  | 0 => by
    show sumF (fun i => lf J n r a i - lf J n r a i) n + sumF r a ≤ sumF r a
    rw [sumF_eq _ (fun _ => 0) n (fun i _ => Nat.sub_self _), sumF_zero]
    omega
  | d + 1 => by
    have ih := run_sum J n r a d
    have h1 := (run_tick J n r 0 (a + d)).all
    have e : sumF (fun i => lf J n r a i - lf J n r (a + (d + 1)) i) n = sumF (fun i => lf J n r a i - lf J n r (a + d) i) n + sumF (fun i => lf J n r (a + d) i - lf J n r (a + d + 1) i) n := by
      rw [← sumF_add]
      refine sumF_eq _ _ n (fun i _ => ?_)
      have h2 := run_le J n r i a d
      have h3 := (run_tick J n r 0 (a + d)).le i
      show _ - lf J n r (a + d + 1) i = _
      omega
    rw [e]
    show _ ≤ sumF r (a + d) + r (a + d)
    omega
/-- what has to go between a and b -/
def need (J : Nat → Jb) (n a b : Nat) : Nat := sumF (fun i => if a ≤ (J i).fr ∧ (J i).by' ≤ b then (J i).by8 else 0) n
/-- WHERE ALL ARE GONE IN TIME EACH STRETCH HAS ROOM -/
theorem edf_need (J : Nat → Jb) (n : Nat) (r : Nat → Nat) (h : ∀ i, i < n → lf J n r (J i).by' i = 0) (a b : Nat) (hab : a ≤ b) : need J n a b + sumF r a ≤ sumF r b := by
  have h1 := run_sum J n r a (b - a)
  rw [show a + (b - a) = b by omega] at h1
  have h2 : need J n a b ≤ sumF (fun i => lf J n r a i - lf J n r b i) n := by
    refine sumF_le _ _ n (fun i hi => ?_)
    split
    · rename_i hc
      have e1 := run_keep J n r i a hc.1
      have e2 := run_le' J n r i _ b hc.2
      rw [h i hi] at e2
      rw [e1]
      omega
    · exact Nat.zero_le _
  omega
/-- from b back: as long as all the room was taken by those that end by b -/
theorem busy_back (J : Nat → Jb) (n : Nat) (r : Nat → Nat) (b : Nat) : ∀ a, a ≤ b → sumF (went J b (lf J n r a) (lf J n r b)) n + sumF r a = sumF r b →
    ∃ a', a' ≤ a ∧ sumF (went J b (lf J n r a') (lf J n r b)) n + sumF r a' = sumF r b ∧ ∀ i, i < n → inD J b i = true → (J i).fr < a' → lf J n r a' i = 0
  | 0, _, h => ⟨0, Nat.le_refl _, h, fun i _ _ hf => by omega⟩
  | a + 1, hab, h => by
    have hT := run_tick J n r b a
    rcases hT.full with hf | hf
    · have e : sumF (went J b (lf J n r a) (lf J n r b)) n = sumF (went J b (lf J n r a) (lf J n r (a + 1))) n + sumF (went J b (lf J n r (a + 1)) (lf J n r b)) n := by
        rw [← sumF_add]
        exact sumF_eq _ _ n (fun i _ => went_add hT.le (fun i => run_le' J n r i _ _ hab) i)
      obtain ⟨a', h1, h2, h3⟩ := busy_back J n r b a (by omega) (by
        rw [e, hf]
        have : sumF r (a + 1) = sumF r a + r a := rfl
        omega)
      exact ⟨a', by omega, h2, h3⟩
    · exact ⟨a + 1, Nat.le_refl _, h, fun i hi hd hfr => hf i hi hd (by omega)⟩
/-- WHERE ONE IS NOT GONE IN TIME SOME STRETCH HAS NOT ENOUGH -/
theorem edf_miss (J : Nat → Jb) (n : Nat) (r : Nat → Nat) (j : Nat) (hj : j < n) (h : 0 < lf J n r (J j).by' j) : ∃ a, a ≤ (J j).by' ∧ sumF r (J j).by' < need J n a (J j).by' + sumF r a := by
  obtain ⟨b, hb⟩ : ∃ b, b = (J j).by' := ⟨_, rfl⟩
  rw [← hb] at h ⊢
  obtain ⟨a, h1, h2, h3⟩ := busy_back J n r b b (Nat.le_refl _) (by
    rw [sumF_eq _ (fun _ => 0) n (fun i _ => by unfold went; split <;> simp), sumF_zero]
    omega)
  refine ⟨a, h1, ?_⟩
  have hlt : sumF (went J b (lf J n r a) (lf J n r b)) n < need J n a b := by
    refine sumF_lt _ _ n (fun i hi => ?_) ⟨j, hj, ?_⟩
    · unfold went
      by_cases hd : inD J b i = true
      · rw [if_pos hd]
        have hd' := hd
        unfold inD at hd'
        rw [decide_eq_true_iff] at hd'
        by_cases hf : (J i).fr < a
        · rw [h3 i hi hd hf]
          omega
        · rw [if_pos ⟨by omega, hd'⟩, run_keep J n r i a (by omega)]
          omega
      · rw [if_neg hd]
        exact Nat.zero_le _
    · have hd : inD J b j = true := by unfold inD; rw [decide_eq_true_iff]; omega
      have hf : ¬ (J j).fr < a := fun hf => by
        have := h3 j hj hd hf
        have := run_le' J n r j a b h1
        omega
      unfold went
      rw [if_pos hd, if_pos ⟨by omega, by omega⟩, run_keep J n r j a (by omega)]
      have h4 := run_le' J n r j 0 b (by omega)
      have h5 : lf J n r 0 j = (J j).by8 := rfl
      omega
  omega
theorem sumF_mono (r : Nat → Nat) (a : Nat) : ∀ d, sumF r a ≤ sumF r (a + d)
  | 0 => Nat.le_refl _
  | d + 1 => Nat.le_trans (sumF_mono r a d) (Nat.le_add_right _ _)
/-- the least of those from when a job is there -/
theorem least_fr (J : Nat → Jb) (p : Nat → Prop) [DecidablePred p] : ∀ n, (∃ i, i < n ∧ p i) → ∃ i, i < n ∧ p i ∧ ∀ k, k < n → p k → (J i).fr ≤ (J k).fr
  | 0, ⟨i, hi, _⟩ => by omega
  | n + 1, ⟨i, hi, hp⟩ => by
    by_cases h : ∃ i, i < n ∧ p i
    · obtain ⟨m, h1, h2, h3⟩ := least_fr J p n h
      by_cases hn : p n ∧ (J n).fr < (J m).fr
      · refine ⟨n, by omega, hn.1, fun k hk hpk => ?_⟩
        by_cases e : k = n
        · subst e; exact Nat.le_refl _
        · have := h3 k (by omega) hpk
          omega
      · refine ⟨m, by omega, h2, fun k hk hpk => ?_⟩
        by_cases e : k = n
        · subst e
          exact Nat.le_of_not_lt fun h => hn ⟨hpk, h⟩
        · exact h3 k (by omega) hpk
    · have e : i = n := by
        refine Nat.le_antisymm (by omega) (Nat.le_of_not_lt fun hl => h ⟨i, hl, hp⟩)
      subst e
      refine ⟨i, by omega, hp, fun k hk hpk => ?_⟩
      by_cases e : k = i
      · subst e; exact Nat.le_refl _
      · exact absurd ⟨k, by omega, hpk⟩ h
/-- a stretch that begins with a job -/
theorem edf_from (J : Nat → Jb) (n : Nat) (r : Nat → Nat) (hJ : ∀ i, i < n → (J i).fr ≤ (J i).by') (a b : Nat) (hab : a ≤ b) (h : sumF r b < need J n a b + sumF r a) :
    ∃ i, i < n ∧ (J i).fr ≤ b ∧ sumF r b < need J n (J i).fr b + sumF r (J i).fr := by
  have hex : ∃ i, i < n ∧ (a ≤ (J i).fr ∧ (J i).by' ≤ b) := by
    refine Classical.byContradiction fun hno => ?_
    have e : need J n a b = 0 := by
      unfold need
      rw [sumF_eq _ (fun _ => 0) n (fun i hi => if_neg fun hc => hno ⟨i, hi, hc⟩), sumF_zero]
    have := sumF_mono r a (b - a)
    rw [show a + (b - a) = b by omega] at this
    omega
  obtain ⟨i, hi, ⟨h1, h2⟩, h3⟩ := least_fr J (fun i => a ≤ (J i).fr ∧ (J i).by' ≤ b) n hex
  have hib := hJ i hi
  refine ⟨i, hi, by omega, ?_⟩
  have e : need J n (J i).fr b = need J n a b := by
    refine sumF_eq _ _ n (fun k hk => ?_)
    by_cases hc : a ≤ (J k).fr ∧ (J k).by' ≤ b
    · rw [if_pos hc, if_pos ⟨h3 k hk hc, hc.2⟩]
    · rw [if_neg hc, if_neg (fun h => hc ⟨by omega, h.2⟩)]
  have h4 := sumF_mono r a ((J i).fr - a)
  rw [show a + ((J i).fr - a) = (J i).fr by omega] at h4
  rw [e]
  omega
/-- when those are gone that a tick sends -/
theorem send_gone (J : Nat → Jb) (n t : Nat) : ∀ (f R : Nat) (L : Nat → Nat) (G : Nat → Int), R ≤ f → ∀ i,
    (L i = 0 → (sendJ J n t f R L G).2 i = G i) ∧ (0 < L i → (0 < (sendJ J n t f R L G).1 i → (sendJ J n t f R L G).2 i = G i) ∧ ((sendJ J n t f R L G).1 i = 0 → (sendJ J n t f R L G).2 i = (t : Int) + 1))
  | 0, R, L, G, h, i => ⟨fun _ => rfl, fun hp => ⟨fun _ => rfl, fun e => by have e : L i = 0 := e; omega⟩⟩
  | f + 1, R, L, G, h, i => by
    unfold sendJ
    by_cases hR : R = 0
    · rw [if_pos hR]
      exact ⟨fun _ => rfl, fun hp => ⟨fun _ => rfl, fun e => by have e : L i = 0 := e; omega⟩⟩
    · rw [if_neg hR]
      cases hn : nxt J t L n with
      | none => exact ⟨fun _ => rfl, fun hp => ⟨fun _ => rfl, fun e => by have e : L i = 0 := e; omega⟩⟩
      | some k =>
        obtain ⟨hk, hw, _⟩ := nxt_some hn
        unfold wt at hw
        rw [Bool.and_eq_true, decide_eq_true_iff, decide_eq_true_iff] at hw
        dsimp only
        obtain ⟨h1, h2⟩ := send_gone J n t f (R - min (L k) R) (less L k (min (L k) R)) (if L k ≤ R then atG G k (t + 1) else G) (by omega) i
        have hle := (send_tick J n t 0 f (R - min (L k) R) (less L k (min (L k) R)) (if L k ≤ R then atG G k (t + 1) else G) (by omega)).le i
        generalize sendJ J n t f (R - min (L k) R) (less L k (min (L k) R)) (if L k ≤ R then atG G k (t + 1) else G) = X at h1 h2 hle
        by_cases e : i = k
        · subst e
          have el : less L i (min (L i) R) i = L i - min (L i) R := by unfold less; rw [if_pos rfl]
          rw [el] at h1 h2 hle
          refine ⟨fun h0 => by omega, fun hp => ?_⟩
          by_cases hc : L i ≤ R
          · rw [if_pos hc] at h1 h2
            have h3 := h1 (by omega)
            have e2 : atG G i ((t : Int) + 1) i = (t : Int) + 1 := by unfold atG; rw [if_pos rfl]
            rw [e2] at h3
            exact ⟨fun h => by omega, fun _ => h3⟩
          · rw [if_neg hc] at h1 h2
            obtain ⟨h4, h5⟩ := h2 (by omega)
            exact ⟨h4, h5⟩
        · have el : less L k (min (L k) R) i = L i := by unfold less; rw [if_neg e]
          rw [el] at h1 h2
          have eg : (if L k ≤ R then atG G k (t + 1) else G) i = G i := by
            split
            · unfold atG; rw [if_neg e]
            · rfl
          rw [eg] at h1 h2
          exact ⟨h1, h2⟩
/-- WHEN WHICH IS GONE -/
theorem run_gone (J : Nat → Jb) (n : Nat) (r : Nat → Nat) (i : Nat) : ∀ t, ((J i).by8 = 0 → (runJ J n r t).2 i = ((J i).fr : Int)) ∧ (0 < (J i).by8 → (0 < lf J n r t i → (runJ J n r t).2 i = -1) ∧
    (lf J n r t i = 0 → ∃ s, s < t ∧ (runJ J n r t).2 i = (s : Int) + 1 ∧ 0 < lf J n r s i ∧ lf J n r (s + 1) i = 0))
  | 0 => by
    refine ⟨fun h => if_pos h, fun h => ⟨fun _ => if_neg (by omega), fun e => ?_⟩⟩
    have e : (J i).by8 = 0 := e
    omega
  | t + 1 => by
    obtain ⟨h1, h2⟩ := run_gone J n r i t
    obtain ⟨s1, s2⟩ := send_gone J n t (r t) (r t) (runJ J n r t).1 (runJ J n r t).2 (Nat.le_refl _) i
    have hle := (run_tick J n r 0 t).le i
    refine ⟨fun h0 => ?_, fun hp => ?_⟩
    · have e : lf J n r t i = 0 := by
        have := run_le' J n r i 0 t (Nat.zero_le _)
        have e0 : lf J n r 0 i = (J i).by8 := rfl
        omega
      exact (s1 e).trans (h1 h0)
    · obtain ⟨h3, h4⟩ := h2 hp
      by_cases e : lf J n r t i = 0
      · obtain ⟨s, hs, h5, h6, h7⟩ := h4 e
        exact ⟨fun h => by omega, fun _ => ⟨s, by omega, (s1 e).trans h5, h6, h7⟩⟩
      · obtain ⟨s3, s4⟩ := s2 (by show 0 < lf J n r t i; omega)
        exact ⟨fun h => (s3 h).trans (h3 (by omega)), fun h => ⟨t, by omega, s4 h, by omega, h⟩⟩
/-- a job is gone in time if nothing of it is left when its time ends -/
theorem in_time (J : Nat → Jb) (n : Nat) (r : Nat → Nat) (i T : Nat) (hf : (J i).fr ≤ (J i).by') (hT : (J i).by' ≤ T) : ((runJ J n r T).2 i ≠ -1 ∧ (runJ J n r T).2 i ≤ ((J i).by' : Int)) ↔ lf J n r (J i).by' i = 0 := by
  obtain ⟨h1, h2⟩ := run_gone J n r i T
  by_cases h0 : (J i).by8 = 0
  · rw [h1 h0]
    have := run_le' J n r i 0 (J i).by' (Nat.zero_le _)
    have e0 : lf J n r 0 i = (J i).by8 := rfl
    exact ⟨fun _ => by omega, fun _ => ⟨by omega, by omega⟩⟩
  · obtain ⟨h3, h4⟩ := h2 (by omega)
    have hm := run_le' J n r i (J i).by' T hT
    constructor
    · rintro ⟨k1, k2⟩
      by_cases e : lf J n r T i = 0
      · obtain ⟨s, hs, h5, h6, h7⟩ := h4 e
        rw [h5] at k2
        have := run_le' J n r i (s + 1) (J i).by' (by omega)
        omega
      · exact absurd (h3 (by omega)) k1
    · intro e
      obtain ⟨s, hs, h5, h6, h7⟩ := h4 (by omega)
      rw [h5]
      refine ⟨by omega, ?_⟩
      refine Int.le_of_not_gt fun hgt => ?_
      have := run_le' J n r i (J i).by' s (by omega)
      omega
end

section
/-- two places of a row change -/
def swL {α : Type} (d : α) (H : List α) (i j : Nat) : List α := (H.set i (H.getD j d)).set j (H.getD i d)
theorem swL_len {α : Type} (d : α) (H : List α) (i j : Nat) : (swL d H i j).length = H.length := by
  unfold swL
  rw [List.length_set, List.length_set]
theorem getD_set {α : Type} (d x : α) (H : List α) (i j : Nat) (hi : i < H.length) : (H.set i x).getD j d = if j = i then x else H.getD j d := by
  rw [List.getD_eq_getElem?_getD, List.getElem?_set]
  by_cases e : i = j
  · subst e
    rw [if_pos rfl, if_pos hi, if_pos rfl]
    rfl
  · rw [if_neg e, if_neg (fun h => e h.symm), List.getD_eq_getElem?_getD]
theorem swL_get {α : Type} (d : α) (H : List α) (i j k : Nat) (hi : i < H.length) (hj : j < H.length) : (swL d H i j).getD k d = if k = j then H.getD i d else if k = i then H.getD j d else H.getD k d := by
  unfold swL
  rw [getD_set d _ _ _ _ (by rw [List.length_set]; exact hj), getD_set d _ _ _ _ hi]
/-- it is the same row but for the order -/
theorem swL_perm {α : Type} (d : α) (H : List α) (i j : Nat) (hi : i < H.length) (hj : j < H.length) : (swL d H i j).Perm H := by
  unfold swL
  rw [List.getD_eq_getElem?_getD, List.getD_eq_getElem?_getD, List.getElem?_eq_getElem hi, List.getElem?_eq_getElem hj]
  exact List.set_set_perm hi hj
/-- a heap's order over the first n -/
def HpO {α : Type} (lt : α → α → Bool) (d : α) (H : List α) (n : Nat) : Prop := ∀ i, 0 < i → i < n → lt (H.getD i d) (H.getD ((i - 1) / 2) d) = false
/-- an order of which of two unlike ones one is the less -/
structure LtO {α : Type} (lt : α → α → Bool) : Prop where
  asym : ∀ a b, lt a b = true → lt b a = false
  tr : ∀ a b c, lt b a = false → lt c b = false → lt c a = false
theorem LtO.irr {α : Type} {lt : α → α → Bool} (o : LtO lt) (a : α) : lt a a = false := by
  cases h : lt a a
  · rfl
  · have := o.asym a a h
    rw [h] at this
    exact this
/-- the first is the least -/
theorem HpO.least {α : Type} {lt : α → α → Bool} {d : α} {H : List α} {n : Nat} (o : LtO lt) (h : HpO lt d H n) : ∀ i, i < n → lt (H.getD i d) (H.getD 0 d) = false := by
  intro i
  induction i using Nat.strongRecOn with
  | _ i ih =>
    intro hi
    by_cases h0 : i = 0
    · subst h0
      exact o.irr _
    · have h1 := h i (by omega) hi
      have h2 := ih ((i - 1) / 2) (by omega) (by omega)
      exact o.tr _ _ _ h2 h1
/-- one goes up from place j -/
def upH {α : Type} (lt : α → α → Bool) (d : α) : Nat → List α → Nat → List α
  | 0, H, _ => H
  | f + 1, H, j => if (j - 1) / 2 = j then H else if lt (H.getD j d) (H.getD ((j - 1) / 2) d) = true then upH lt d f (swL d H ((j - 1) / 2) j) ((j - 1) / 2) else H
/-- all is in order but for place j with the one above it -/
structure UpI {α : Type} (lt : α → α → Bool) (d : α) (H : List α) (n j : Nat) : Prop where
  ord : ∀ i, 0 < i → i < n → i ≠ j → lt (H.getD i d) (H.getD ((i - 1) / 2) d) = false
  gr : ∀ i, 0 < i → i < n → (i - 1) / 2 = j → 0 < j → lt (H.getD i d) (H.getD ((j - 1) / 2) d) = false
theorem upH_ok {α : Type} {lt : α → α → Bool} {d : α} (o : LtO lt) : ∀ (f : Nat) (H : List α) (j : Nat), j ≤ f → j < H.length → UpI lt d H H.length j → HpO lt d (upH lt d f H j) H.length ∧ (upH lt d f H j).Perm H
  | 0, H, j, hf, hj, h => by
    have e : j = 0 := by omega
    subst e
    exact ⟨fun i hi hl => h.ord i hi hl (by omega), List.Perm.refl _⟩
  | f + 1, H, j, hf, hj, h => by
    unfold upH
    by_cases e : (j - 1) / 2 = j
    · rw [if_pos e]
      exact ⟨fun i hi hl => h.ord i hi hl (by omega), List.Perm.refl _⟩
    · rw [if_neg e]
      by_cases hl : lt (H.getD j d) (H.getD ((j - 1) / 2) d) = true
      · rw [if_pos hl]
        obtain ⟨p, hp⟩ : ∃ p, p = (j - 1) / 2 := ⟨_, rfl⟩
        rw [← hp] at hl e ⊢
        have hpj : p < j := by omega
        have hpl : p < H.length := by omega
        have gt := fun k => swL_get d H p j k hpl hj
        have hle : ∀ a b, lt a b = true → lt b a = false := o.asym
        have ih := upH_ok (d := d) o f (swL d H p j) p (by omega) (by rw [swL_len]; exact hpl) (by
          rw [swL_len]
          constructor
          · intro i hi hin hip
            rw [gt i, gt ((i - 1) / 2)]
            by_cases h1 : i = j
            · subst h1
              rw [if_pos rfl, ← hp, if_neg (by omega), if_pos rfl]
              exact hle _ _ hl
            · rw [if_neg h1, if_neg hip]
              by_cases h2 : (i - 1) / 2 = j
              · rw [if_pos h2, hp]
                exact h.gr i hi hin h2 (by omega)
              · rw [if_neg h2]
                by_cases h3 : (i - 1) / 2 = p
                · rw [if_pos h3]
                  have h4 := h.ord i hi hin h1
                  rw [h3] at h4
                  exact o.tr _ _ _ (hle _ _ hl) h4
                · rw [if_neg h3]
                  exact h.ord i hi hin h1
          · intro i hi hin hpar hp0
            rw [gt i, gt ((p - 1) / 2), if_neg (by omega : ¬ (p - 1) / 2 = j), if_neg (by omega : ¬ (p - 1) / 2 = p)]
            have h5 := h.ord p hp0 (by omega) (by omega)
            by_cases h1 : i = j
            · subst h1
              rw [if_pos rfl]
              exact h5
            · rw [if_neg h1, if_neg (by omega)]
              have h4 := h.ord i hi hin h1
              rw [hpar] at h4
              exact o.tr _ _ _ h5 h4)
        rw [swL_len] at ih
        exact ⟨ih.1, ih.2.trans (swL_perm d H p j hpl hj)⟩
      · rw [if_neg hl]
        refine ⟨fun i hi hin => ?_, List.Perm.refl _⟩
        by_cases h1 : i = j
        · subst h1
          simpa using hl
        · exact h.ord i hi hin h1
/-- which of the two below place i is the less (of the first n) -/
def chH {α : Type} (lt : α → α → Bool) (d : α) (H : List α) (n i : Nat) : Nat := if 2 * i + 2 < n ∧ lt (H.getD (2 * i + 2) d) (H.getD (2 * i + 1) d) = true then 2 * i + 2 else 2 * i + 1
/-- one goes down from place i, among the first n -/
def dnH {α : Type} (lt : α → α → Bool) (d : α) (n : Nat) : Nat → List α → Nat → List α
  | 0, H, _ => H
  | f + 1, H, i => if n ≤ 2 * i + 1 then H else if lt (H.getD (chH lt d H n i) d) (H.getD i d) = true then dnH lt d n f (swL d H i (chH lt d H n i)) (chH lt d H n i) else H
structure DnI {α : Type} (lt : α → α → Bool) (d : α) (H : List α) (n i : Nat) : Prop where
  ord : ∀ k, 0 < k → k < n → (k - 1) / 2 ≠ i → lt (H.getD k d) (H.getD ((k - 1) / 2) d) = false
  gr : ∀ k, 0 < k → k < n → (k - 1) / 2 = i → 0 < i → lt (H.getD k d) (H.getD ((i - 1) / 2) d) = false
theorem chH_is {α : Type} {lt : α → α → Bool} {d : α} {H : List α} {n i : Nat} (o : LtO lt) (hn : 2 * i + 1 < n) : (chH lt d H n i = 2 * i + 1 ∨ chH lt d H n i = 2 * i + 2) ∧ chH lt d H n i < n ∧ ∀ k, 0 < k → k < n → (k - 1) / 2 = i → lt (H.getD k d) (H.getD (chH lt d H n i) d) = false := by
  unfold chH
  split
  · rename_i h
    refine ⟨.inr rfl, h.1, fun k hk hkn hp => ?_⟩
    have : k = 2 * i + 1 ∨ k = 2 * i + 2 := by omega
    rcases this with rfl | rfl
    · exact o.asym _ _ h.2
    · exact o.irr _
  · rename_i h
    refine ⟨.inl rfl, hn, fun k hk hkn hp => ?_⟩
    have : k = 2 * i + 1 ∨ k = 2 * i + 2 := by omega
    rcases this with rfl | rfl
    · exact o.irr _
    · cases hc : lt (H.getD (2 * i + 2) d) (H.getD (2 * i + 1) d)
      · rfl
      · exact absurd ⟨hkn, hc⟩ h
theorem dnH_ok {α : Type} {lt : α → α → Bool} {d : α} (o : LtO lt) (n : Nat) : ∀ (f : Nat) (H : List α) (i : Nat), n ≤ i + f → n ≤ H.length → i < H.length → DnI lt d H n i → HpO lt d (dnH lt d n f H i) n ∧ (dnH lt d n f H i).Perm H ∧ (∀ k, n ≤ k → (dnH lt d n f H i).getD k d = H.getD k d)
  | 0, H, i, hf, hn, hi, h => ⟨fun k hk hkn => h.ord k hk hkn (by omega), List.Perm.refl _, fun _ _ => rfl⟩
  | f + 1, H, i, hf, hn, hi, h => by
    unfold dnH
    by_cases h1 : n ≤ 2 * i + 1
    · rw [if_pos h1]
      exact ⟨fun k hk hkn => h.ord k hk hkn (by omega), List.Perm.refl _, fun _ _ => rfl⟩
    · rw [if_neg h1]
      obtain ⟨hc1, hc2, hc3⟩ := chH_is (d := d) (H := H) o (show 2 * i + 1 < n by omega)
      generalize chH lt d H n i = c at hc1 hc2 hc3 ⊢
      have hci : (c - 1) / 2 = i := by omega
      by_cases hl : lt (H.getD c d) (H.getD i d) = true
      · rw [if_pos hl]
        have gt := fun k => swL_get d H i c k hi (by omega : c < H.length)
        have ih := dnH_ok (d := d) o n f (swL d H i c) c (by omega) (by rw [swL_len]; exact hn) (by rw [swL_len]; omega) (by
          constructor
          · intro k hk hkn hp
            rw [gt k, gt ((k - 1) / 2), if_neg hp]
            by_cases h2 : k = c
            · subst h2
              rw [if_pos rfl, if_pos hci]
              exact o.asym _ _ hl
            · rw [if_neg h2]
              by_cases h3 : k = i
              · subst h3
                rw [if_pos rfl, if_neg (by omega)]
                exact h.gr c (by omega) hc2 hci hk
              · rw [if_neg h3]
                by_cases h4 : (k - 1) / 2 = i
                · rw [if_pos h4]
                  exact hc3 k hk hkn h4
                · rw [if_neg h4]
                  exact h.ord k hk hkn h4
          · intro k hk hkn hp _
            rw [gt k, gt ((c - 1) / 2), hci, if_neg (by omega), if_neg (by omega), if_neg (by omega), if_pos rfl]
            have := h.ord k hk hkn (by omega)
            rwa [hp] at this)
        exact ⟨ih.1, ih.2.1.trans (swL_perm d H i c hi (by omega)), fun k hk => by rw [ih.2.2 k hk, gt k, if_neg (by omega), if_neg (by omega)]⟩
      · rw [if_neg hl]
        refine ⟨fun k hk hkn => ?_, List.Perm.refl _, fun _ _ => rfl⟩
        by_cases h4 : (k - 1) / 2 = i
        · have h5 := hc3 k hk hkn h4
          rw [h4]
          have h6 : lt (H.getD c d) (H.getD i d) = false := by simpa using hl
          exact o.tr _ _ _ h6 h5
        · exact h.ord k hk hkn h4
end
end Go.Proofs.Ytnjdbbjhplebhaa
