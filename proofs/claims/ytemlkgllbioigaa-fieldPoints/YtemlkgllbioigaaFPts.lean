import Derived.Test.YtemlkgllbioigaaFPtsM
import Derived.Test.YtemlkgllbioigaaFThr
namespace Go.Proofs.Ytemlkgllbioigaa
open Go.RowKit
set_option maxRecDepth 100000
set_option linter.unusedVariables false
set_option linter.unusedSimpArgs false

theorem pts_big (a b : Option Addr) (n m cap cap' x fr : Nat) (w : World) (hn : n ≤ 9223372036854775807) (hm : m ≤ 9223372036854775807) (h : 60 < n ∨ 60 < m) :
    Calls Try.prog 10 #[.slice a n cap, .slice b m cap', .int .u8 x, .int .u8 fr] w fun e w' => e = .returned (.bool true) ∧ Below w.heap.size w w' := by
  by_cases h1 : 60 < n
  · go_enter Try.func10, Try.ntmps10
    go_wp2
    go_ret
    exact ⟨rfl, Below.refl _ _⟩
  · have h2 : 60 < m := by omega
    go_enter Try.func10, Try.ntmps10
    go_wp2
    go_ret
    exact ⟨rfl, Below.refl _ _⟩
def pt (fr k : Nat) : Nat := (fr + k * 3) % 256
theorem pt_lt (fr k : Nat) : pt fr k < 256 := Nat.mod_lt _ (by decide)
def ptsX (fr : Nat) : Nat → List Nat
  | 0 => []
  | k + 1 => ptsX fr k ++ [pt fr k]
def ptsY (P : List Nat) (fr : Nat) : Nat → List Nat
  | 0 => []
  | k + 1 => ptsY P fr k ++ [atL P (pt fr k)]
theorem ptsX_len (fr k : Nat) : (ptsX fr k).length = k := by induction k with | zero => rfl | succ k ih => simp [ptsX, ih]
theorem ptsY_len (P : List Nat) (fr k : Nat) : (ptsY P fr k).length = k := by induction k with | zero => rfl | succ k ih => simp [ptsY, ih]
theorem isB_ptsX (fr k : Nat) : IsB (ptsX fr k) := by
  induction k with
  | zero => intro y hy; cases hy
  | succ k ih => exact isB_append ih (fun y hy => by simp at hy; rw [hy]; exact pt_lt _ _)
theorem isB_ptsY {P : List Nat} (hP : IsB P) (fr k : Nat) : IsB (ptsY P fr k) := by
  induction k with
  | zero => intro y hy; cases hy
  | succ k ih => exact isB_append ih (fun y hy => by simp at hy; rw [hy]; exact atL_lt hP _)
theorem nth_snoc (A : List Nat) (v i : Nat) : nth (A ++ [v]) i = if i < A.length then nth A i else if i = A.length then v else 0 := by
  unfold nth
  rw [List.getD_eq_getElem?_getD, List.getD_eq_getElem?_getD]
  by_cases h : i < A.length
  · rw [if_pos h, List.getElem?_append_left h]
  · rw [if_neg h, List.getElem?_append_right (by omega)]
    by_cases e : i = A.length
    · rw [if_pos e, e]; simp
    · rw [if_neg e, List.getElem?_eq_none (by simp; omega)]; rfl
theorem nth_ptsX (fr k i : Nat) (h : i < k) : nth (ptsX fr k) i = pt fr i := by
  induction k with
  | zero => omega
  | succ k ih =>
    show nth (ptsX fr k ++ [pt fr k]) i = _
    rw [nth_snoc, ptsX_len]
    by_cases e : i < k
    · rw [if_pos e, ih e]
    · rw [if_neg e, if_pos (by omega), show i = k by omega]
theorem nth_ptsY (P : List Nat) (fr k i : Nat) (h : i < k) : nth (ptsY P fr k) i = atL P (pt fr i) := by
  induction k with
  | zero => omega
  | succ k ih =>
    show nth (ptsY P fr k ++ [atL P (pt fr k)]) i = _
    rw [nth_snoc, ptsY_len]
    by_cases e : i < k
    · rw [if_pos e, ih e]
    · rw [if_neg e, if_pos (by omega), show i = k by omega]
theorem pts_th {P : List Nat} (hP : IsB P) (fr : Nat) (hf : fr < 256) (hn : P.length ≤ 60) : thL (ptsX fr P.length) (ptsY P fr P.length) = trimL P ∧ dupB (ptsX fr P.length) P.length = false := by
  have hd : ∀ i j, j < i → i < P.length → nth (ptsX fr P.length) j ≠ nth (ptsX fr P.length) i := by
    intro i j h1 h2
    rw [nth_ptsX _ _ _ (by omega), nth_ptsX _ _ _ h2]
    exact step3 fr i j hf h1 (by omega)
  constructor
  · refine th_own (isB_ptsX fr _) (isB_ptsY hP fr _) hP (ptsX_len fr _).symm (by rw [ptsX_len]; exact hd) (fun i hi => ?_)
    rw [ptsX_len] at hi
    rw [nth_ptsY _ _ _ _ hi, nth_ptsX _ _ _ hi]
  · exact dup_of _ hd
theorem pt_val (fr k : Nat) (hk : k < 60) (hf : fr < 256) : ((fr : Int) + (k : Int) * 3) % 256 = (pt fr k : Nat) := by unfold pt; omega
theorem one_cell (w : World) (v : Value) (j : Nat) (u : Value) (h : [v][j]? = some u) : (w.alloc (.cells #[v] 5)).cell? ((⟨w.heap.size, 0, none⟩ : Addr).add j) = some u := by
  rw [addr_add, cell_of_row _ _ _ _ _ _ (heap_alloc_new w _)]
  simpa using h
theorem bys_snoc (A : List Nat) (v : Nat) : bys A ++ [Value.int .u8 (v : Int)] = bys (A ++ [v]) := by simp [bys]
end Go.Proofs.Ytemlkgllbioigaa
