import Derived.Test.YtncpignmijgghaaTRow
namespace Go.Proofs.Ytncpignmijgghaa
open Go.RowKit
set_option maxRecDepth 100000
set_option linter.unusedVariables false
set_option linter.unusedSimpArgs false

theorem bitL_len (L : List Nat) : (bitL L).length = 8 * L.length := tab_len _ _
def mkN (j : Nat) : Nat := 449838109 / 2 ^ (31 - j) % 2
theorem mkN_lt (j : Nat) : mkN j < 2 := Nat.mod_lt _ (by decide)
theorem mark_bits : bitL [26, 207, 252, 29] = tab 32 mkN := by decide +kernel
theorem mark_fact : ∀ p : Nat, p < 32 → bits .and .i64 (449838109 / (2 : Int) ^ p) 1 % 256 = ((449838109 / 2 ^ p % 2 : Nat) : Int) := by decide +kernel
def frmL (L : List Nat) : List Nat := tab 32 mkN ++ bitL (scrL L)
def frmE (L : List Nat) : Int := if L.length = 0 ∨ 2048 < L.length then 1 else 0
def frmR (L : List Nat) : List Nat := if L.length = 0 ∨ 2048 < L.length then [] else frmL L
end Go.Proofs.Ytncpignmijgghaa
