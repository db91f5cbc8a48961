import Derived.Test.YtlaiocefbhoccaaDoorYNu
import Derived.Test.YtlaiocefbhoccaaDoorYBm
namespace Go.Proofs.YtlaiocefbhoccaaDoor
set_option maxRecDepth 100000
set_option linter.unusedVariables false
/-- how long chunk k of n bytes by s is -/
def chL (n s k : Nat) : Nat := min s (n - s * k)
/-- the bytes of chunk k -/
def chB (B : List Nat) (s k : Nat) : List Nat := (B.drop (s * k)).take s
theorem chB_len (B : List Nat) (s k : Nat) : (chB B s k).length = chL B.length s k := by unfold chB chL; simp
/-- a group's number, with the one ahead of it -/
def grV (B : List Nat) (k : Nat) : Nat := nuN (chB B 7 k) (chB B 7 k).length + 256 ^ (chB B 7 k).length
def tgN (B : List Nat) (r : Nat) : Nat → Nat
  | 0 => 0
  | k + 1 => (tgN B r k + grV B k) * r % 2305843009213693951
theorem tgN_lt (B : List Nat) (r k : Nat) : tgN B r k < 2305843009213693951 := by
  cases k with
  | zero => exact (by decide : (0 : Nat) < 2305843009213693951)
  | succ k => exact Nat.mod_lt _ (by decide)
/-- the two numbers of a tag's block -/
def tgR (W : Nat → Nat) (c : Nat) : Nat := nuN ((List.range 8).map fun i => padB W c 0 (0 + i)) 8 % 2305843009213693951
def tgS (W : Nat → Nat) (c : Nat) : Nat := nuN ((List.range 8).map fun i => padB W c 0 (8 + i)) 8 % 2305843009213693951
def tagV (W : Nat → Nat) (c : Nat) (B : List Nat) : Nat := (tgN B (tgR W c) ((B.length + 6) / 7) + tgS W c) % 2305843009213693951
def tagL (W : Nat → Nat) (c : Nat) (B : List Nat) : List Nat := beT 8 (tagV W c B) 8
end Go.Proofs.YtlaiocefbhoccaaDoor
