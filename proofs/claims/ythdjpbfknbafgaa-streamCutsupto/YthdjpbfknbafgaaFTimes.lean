import Derived.Test.YthdjpbfknbafgaaFRSum
namespace Go.Proofs.Ythdjpbfknbafgaa
open Go.RowKit
set_option maxRecDepth 100000
set_option linter.unusedVariables false
set_option linter.unusedSimpArgs false

/-- the product, not yet trimmed: k rounds -/
def timN (P Q : List Nat) : Nat → List Nat
  | 0 => List.replicate (P.length + Q.length) 0
  | k + 1 => addN (timN P Q k) k Q (nth P k) Q.length
def timL (P Q : List Nat) : List Nat := timN P Q P.length
theorem timN_length (P Q : List Nat) (k : Nat) : (timN P Q k).length = P.length + Q.length := by
  induction k with
  | zero => simp [timN]
  | succ k ih => simp only [timN]; rw [addN_length]; exact ih
theorem timN_isB {P Q : List Nat} (hP : IsB P) (hQ : IsB Q) (k : Nat) : IsB (timN P Q k) := by
  induction k with
  | zero => exact isB_zeros _
  | succ k ih => exact addN_isB ih hQ _ _ _

theorem add_stepN {w wr : World} {g o c k x : Nat} {L Q : List Nat} (hB : Blk wr g (addN L o Q c k)) (hL : IsB L) (hQ : IsB Q) (hc : c < 256) (hgr : w.grownBy wr (some g)) :
    Blk (wr.setCell ⟨g, o + k, none⟩ (.int .u8 (bits .xor .u8 (nth (addN L o Q c k) (o + k) : Nat) (Fld.mul c (nth Q k) : Nat)))).drew g (addN L o Q c (k + 1)) ∧
    w.grownBy (wr.setCell ⟨g, o + k, none⟩ (.int .u8 (bits .xor .u8 (nth (addN L o Q c k) (o + k) : Nat) (Fld.mul c (nth Q k) : Nat)))).drew (some g) := by
  rw [Fld.mul_comm hc (hQ.nth _)]
  exact add_step hB hL hQ hgr

end Go.Proofs.Ythdjpbfknbafgaa
