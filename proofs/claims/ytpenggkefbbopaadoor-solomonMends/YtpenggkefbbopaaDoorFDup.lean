import Derived.Test.YtpenggkefbbopaaDoorFAt
namespace Go.Proofs.YtpenggkefbbopaaDoor
open Go.RowKit
set_option maxRecDepth 100000
set_option linter.unusedVariables false
set_option linter.unusedSimpArgs false

def seenB (X : List Nat) : Nat → Nat → Bool
  | 0, _ => false
  | k + 1, v => (nth X k == v) || seenB X k v
def dupB (X : List Nat) : Nat → Bool
  | 0 => false
  | k + 1 => dupB X k || seenB X k (nth X k)
theorem dupB_mono (X : List Nat) (k n : Nat) (h : k ≤ n) (hd : dupB X k = true) : dupB X n = true := by
  induction n with
  | zero => obtain rfl : k = 0 := by omega
            exact hd
  | succ n ih =>
    by_cases e : k = n + 1
    · subst e; exact hd
    · simp only [dupB, Bool.or_eq_true]; exact .inl (ih (by omega))
def boolZ : Array Value := Array.replicate 256 (.bool false)
theorem zero_bools (w : World) : (zeroValue 67).run Tryd.prog w = .ok (.agg boolZ) w := by kernel_rfl
/-- block g: which numbers have come -/
structure Seen (w : World) (g : Nat) (X : List Nat) (k : Nat) (A : Array Value) : Prop where
  blk : w.heap[g]? = some (.cells A 67)
  size : A.size = 256
  val : ∀ v, v < 256 → A[v]? = some (.bool (seenB X k v))
end Go.Proofs.YtpenggkefbbopaaDoor
