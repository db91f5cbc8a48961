import Derived.Test.YtlaiocefbhoccaaDoorYCv
import Derived.Test.YtlaiocefbhoccaaDoorYTd
namespace Go.Proofs.YtlaiocefbhoccaaDoor
set_option maxRecDepth 100000
set_option linter.unusedVariables false
set_option linter.unusedSimpArgs false
/-- chunk k under block x -/
def hdC (W : Nat → Nat) (c : Nat) (B : List Nat) (k x : Nat) : List Nat := (List.range (chL B.length 64 k)).map fun i => nth B (64 * k + i) ^^^ padB W c x i
/-- what is hidden behind the chunks l: the bytes, and how many chunks they were -/
def hdP (W : Nat → Nat) (c : Nat) (B : List Nat) (l : List Nat) : List Nat × Nat := l.foldl (fun s k => (s.1 ++ hdC W c B k (s.2 + 1), s.2 + 1)) ([], 0)
theorem hdP_snoc (W : Nat → Nat) (c : Nat) (B : List Nat) (l : List Nat) (k : Nat) : hdP W c B (l ++ [k]) = ((hdP W c B l).1 ++ hdC W c B k ((hdP W c B l).2 + 1), (hdP W c B l).2 + 1) := by
  unfold hdP
  rw [List.foldl_append]; rfl
theorem hdP_two (W : Nat → Nat) (c : Nat) (B : List Nat) (l : List Nat) : (hdP W c B l).2 = l.length := by
  unfold hdP
  have : ∀ (l : List Nat) (s : List Nat × Nat), (l.foldl (fun s k => (s.1 ++ hdC W c B k (s.2 + 1), s.2 + 1)) s).2 = s.2 + l.length := by
    intro l
    induction l with
    | nil => intro s; rfl
    | cons x l ih => intro s; rw [List.foldl_cons, ih, List.length_cons]; simp only; omega
  rw [this]; simp
theorem hdP_range (W : Nat → Nat) (c : Nat) (B : List Nat) (k : Nat) : (hdP W c B (List.range k)).1 = (List.range (min (64 * k) B.length)).map (cvB W c B) := by
  induction k with
  | zero => simp [hdP]
  | succ k ih =>
    rw [List.range_succ, hdP_snoc]
    simp only
    rw [ih, hdP_two, List.length_range]
    unfold hdC
    have e : min (64 * (k + 1)) B.length = min (64 * k) B.length + chL B.length 64 k := by unfold chL; omega
    rw [e, List.range_add, List.map_append, List.map_map]
    congr 1
    apply List.map_congr_left
    intro i hi
    have hi' := List.mem_range.1 hi
    unfold chL at hi'
    show _ = cvB W c B (min (64 * k) B.length + i)
    unfold cvB
    rw [show min (64 * k) B.length + i = 64 * k + i by omega, show (64 * k + i) / 64 = k by omega, show (64 * k + i) % 64 = i by omega, Nat.add_comm 1 k]
theorem hdP_all (W : Nat → Nat) (c : Nat) (B : List Nat) (m : Nat) (hm : B.length ≤ 64 * m) : (hdP W c B (List.range m)).1 = cvL W c B := by
  rw [hdP_range, show min (64 * m) B.length = B.length by omega]; rfl
theorem hdC_len (W : Nat → Nat) (c : Nat) (B : List Nat) (k x : Nat) : (hdC W c B k x).length = chL B.length 64 k := by simp [hdC]
theorem hdC_isB (W : Nat → Nat) (c : Nat) {B : List Nat} (hB : IsB B) (k x : Nat) : IsB (hdC W c B k x) := by
  intro y hy
  obtain ⟨i, _, rfl⟩ := List.mem_map.1 hy
  exact Nat.xor_lt_two_pow (n := 8) (hB.nth _) (padB_lt _ _ _ _)
theorem hdP_isB (W : Nat → Nat) (c : Nat) {B : List Nat} (hB : IsB B) (l : List Nat) : IsB (hdP W c B l).1 := by
  rcases List.eq_nil_or_concat l with rfl | ⟨i, x, rfl⟩
  · intro y hy; cases hy
  · rw [List.concat_eq_append, hdP_snoc]
    have : ∀ (l : List Nat) (s : List Nat × Nat), IsB s.1 → IsB (l.foldl (fun s k => (s.1 ++ hdC W c B k (s.2 + 1), s.2 + 1)) s).1 := by
      intro l
      induction l with
      | nil => intro s h; exact h
      | cons x l ih => intro s h; rw [List.foldl_cons]; exact ih _ (isB_append h (hdC_isB W c hB x _))
    exact isB_append (this i ([], 0) (fun y hy => by cases hy)) (hdC_isB W c hB x _)
/-- what of a chunk is hidden behind j of its bytes -/
def hdJ (W : Nat → Nat) (c : Nat) (B : List Nat) (k x j : Nat) : List Nat := (List.range j).map fun i => nth B (64 * k + i) ^^^ padB W c x i
theorem hdJ_succ (W : Nat → Nat) (c : Nat) (B : List Nat) (k x j : Nat) : hdJ W c B k x (j + 1) = hdJ W c B k x j ++ [nth B (64 * k + j) ^^^ padB W c x j] := by unfold hdJ; rw [List.range_succ]; simp
theorem hdJ_all (W : Nat → Nat) (c : Nat) (B : List Nat) (k x : Nat) : hdJ W c B k x (chL B.length 64 k) = hdC W c B k x := rfl
end Go.Proofs.YtlaiocefbhoccaaDoor
