import Derived.Test.YtnnohgllnfmoeaaPBk1
namespace Go.Proofs.Ytnnohgllnfmoeaa
open Go.RowKit
set_option maxRecDepth 100000
set_option linter.unusedVariables false
set_option linter.unusedSimpArgs false

/-! packets one behind the other -/
def enP (p : Pk) : List Nat := encP p.up p.se p.ap p.pt p.ct p.D
abbrev okP (p : Pk) : Prop := mayE p.ap p.pt p.ct p.D.length = 0
def gdP (F : Nat → Pk) : Nat → List Pk
  | 0 => []
  | k + 1 => if okP (F k) then gdP F k ++ [F k] else gdP F k
def flB (ps : List Pk) : List Nat := ps.flatMap enP
theorem flB_add (ps : List Pk) (p : Pk) : flB (ps ++ [p]) = flB ps ++ enP p := by simp [flB]
theorem flB_cons (p : Pk) (ps : List Pk) : flB (p :: ps) = enP p ++ flB ps := by simp [flB]
theorem enP_len (p : Pk) (h : okP p) : (enP p).length = p.D.length + 6 := by
  unfold enP encP
  rw [if_pos h, List.length_append, hdL_len]; omega
theorem okP_len (p : Pk) (h : okP p) : 1 ≤ p.D.length ∧ p.D.length ≤ 65536 := (mayE_ok h).2
theorem gdP_ok (F : Nat → Pk) (k : Nat) : ∀ p, p ∈ gdP F k → okP p ∧ ∃ i, i < k ∧ p = F i := by
  induction k with
  | zero => intro p h; cases h
  | succ k ih =>
    intro p h
    by_cases ho : okP (F k)
    · rw [show gdP F (k + 1) = gdP F k ++ [F k] from if_pos ho] at h
      rcases List.mem_append.1 h with h | h
      · obtain ⟨h1, i, hi, e⟩ := ih p h
        exact ⟨h1, i, by omega, e⟩
      · have e : p = F k := by simpa using h
        exact ⟨by rw [e]; exact ho, k, by omega, e⟩
    · rw [show gdP F (k + 1) = gdP F k from if_neg ho] at h
      obtain ⟨h1, i, hi, e⟩ := ih p h
      exact ⟨h1, i, by omega, e⟩
theorem gdP_len (F : Nat → Pk) (k : Nat) : (gdP F k).length ≤ k := by
  induction k with
  | zero => exact Nat.le_refl _
  | succ k ih =>
    by_cases ho : okP (F k)
    · rw [show gdP F (k + 1) = gdP F k ++ [F k] from if_pos ho, List.length_append]; simp; exact ih
    · rw [show gdP F (k + 1) = gdP F k from if_neg ho]; omega
theorem flB_le (ps : List Pk) (h : ∀ p, p ∈ ps → okP p) : (flB ps).length ≤ ps.length * 65542 := by
  induction ps with
  | nil => exact Nat.le_refl _
  | cons p ps ih =>
    rw [flB_cons, List.length_append, enP_len p (h p (List.mem_cons_self ..)), List.length_cons]
    have := (okP_len p (h p (List.mem_cons_self ..))).2
    have := ih (fun q hq => h q (List.mem_cons_of_mem _ hq))
    omega
/-- what is left of the row behind k packets -/
def rsP (ps : List Pk) (J : List Nat) (k : Nat) : List Nat := flB (ps.drop k) ++ J
theorem rsP_step (ps : List Pk) (J : List Nat) (k : Nat) (h : k < ps.length) : rsP ps J k = enP ps[k] ++ rsP ps J (k + 1) := by
  unfold rsP
  rw [List.drop_eq_getElem_cons h, flB_cons, List.append_assoc]
theorem rsP_drop (ps : List Pk) (J : List Nat) (k : Nat) (h : k < ps.length) (ho : okP ps[k]) : (rsP ps J k).drop (ps[k].D.length + 6) = rsP ps J (k + 1) := by
  rw [rsP_step ps J k h, ← enP_len _ ho, List.drop_left]
theorem rsP_end (ps : List Pk) (J : List Nat) : rsP ps J ps.length = J := by
  unfold rsP
  rw [List.drop_length]; rfl
theorem rsP_len (ps : List Pk) (J : List Nat) (k : Nat) (h : k < ps.length) (ho : okP ps[k]) : (rsP ps J k).length = ps[k].D.length + 6 + (rsP ps J (k + 1)).length := by
  rw [rsP_step ps J k h, List.length_append, enP_len _ ho]
/-- rows of bytes and of packets never share a block -/
theorem apart_bp {w : World} {lo lo' : Nat} {a b : Option Addr} {n m cap cap' : Nat} {L : List Nat} {ps : List Pk} (h : Ans w lo a n cap L) (k : OwP w lo' b m cap' ps) :
    (Value.slice a n cap).ownBlock = none ∨ (Value.slice a n cap).ownBlock ≠ (Value.slice b m cap').ownBlock := by
  rcases h.own.2 with ⟨h1, h2⟩ | ⟨g, c1, cur, h1, _, h3, _⟩
  · simp only [Value.slice.injEq] at h1
    obtain ⟨rfl, rfl, rfl⟩ := h1
    exact .inl rfl
  · simp only [Value.slice.injEq] at h1
    obtain ⟨rfl, _, _⟩ := h1
    refine .inr fun e => ?_
    rcases k.own.2 with ⟨k1, k2⟩ | ⟨g', c2, cur', k1, _, k3, _⟩
    · simp only [Value.slice.injEq] at k1
      obtain ⟨rfl, rfl, rfl⟩ := k1
      simp [Value.ownBlock] at e
    · simp only [Value.slice.injEq] at k1
      obtain ⟨rfl, _, _⟩ := k1
      have e' : g = g' := Option.some.inj e
      subst e'
      rw [h3] at k3
      have := Option.some.inj k3
      injection this with _ ht
      exact absurd ht (by decide)
end Go.Proofs.Ytnnohgllnfmoeaa
