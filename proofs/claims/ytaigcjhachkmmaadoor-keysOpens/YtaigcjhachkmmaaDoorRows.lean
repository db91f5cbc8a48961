/-
  NARROWER THAN 'FOR EVERY INPUT', by the rows' own cells (each row's printed sentence says how): KeysOpens: laid · KeysBack: laid · KeysOnce: laid.
  DERIVED. THE GIVEN ROWS OF THIS SEAT. 3 by the template 'for every input the law returns true; each argument reads behind the call as it read before'; 0 by the template 'total and deterministic' (their statements: YtaigcjhachkmmaaDoorTotals.lean).
  GIVEN WITH THE SEED: the statements are not yours to turn. If you find one false, say at which input.
  Laid BY PROGRAM, IN A SANDBOX (cutbox-rows.mjs): the forced cells as the released guide's own fill.sh prints them over the translation 81ec0de06fc92d81… (all of the seat's roots in one cut). By AI agents, Wed Nov 11 2026. No macro, syntax, notation, axiom, sorry.
-/
import Derived.Test.YtaigcjhachkmmaaDoorChecked
import GoSem.Claim
import GoSem.ClaimJoined
import GoSem.ClaimMapViews
import Derived.JoinedTies
import Derived.KernelRfl
namespace Go.Proofs.YtaigcjhachkmmaaDoor
/- THE CELL 'sum', in the pinned program and in every row, IS THE sha256 OF THE DUMP (.gsa) THAT YtaigcjhachkmmaaDoorProg.lean LOADS. Nothing in Lean hashes anything: it is a label: what it is worth is what the hold of that sum in a sandbox is worth. -/
noncomputable def Tryd.pinned : Pinned := { name := "ytaigcjhachkmmaadoor", sum := "81ec0de06fc92d8155506bf523aac3781a02048bae72fb8c708ce6cad0dd1db0", checked := Tryd.checked }
namespace Rows
def none {H : Type} : Left H := { results := [], args := [] }

/- WHAT THE LISTED PACKAGE-LEVEL VARIABLES READ AS WHEN THE CALL BEGINS. Each datum BY PROGRAM (the guide's laid-datum.mjs) off the statement by which the dump's own 'gosem.cut.vars' lays the variable. In a bare row this is a premise. The card (YtaigcjhachkmmaaDoorCards.lean) ties it to the program's text. -/
def laid_farhail_keys_lines {H : Type} : DataW H := .agg [.agg [.lit (.int .i64 0), .lit (.int .i64 4), .lit (.int .i64 8), .lit (.int .i64 12)], .agg [.lit (.int .i64 1), .lit (.int .i64 5), .lit (.int .i64 9), .lit (.int .i64 13)], .agg [.lit (.int .i64 2), .lit (.int .i64 6), .lit (.int .i64 10), .lit (.int .i64 14)], .agg [.lit (.int .i64 3), .lit (.int .i64 7), .lit (.int .i64 11), .lit (.int .i64 15)], .agg [.lit (.int .i64 0), .lit (.int .i64 5), .lit (.int .i64 10), .lit (.int .i64 15)], .agg [.lit (.int .i64 1), .lit (.int .i64 6), .lit (.int .i64 11), .lit (.int .i64 12)], .agg [.lit (.int .i64 2), .lit (.int .i64 7), .lit (.int .i64 8), .lit (.int .i64 13)], .agg [.lit (.int .i64 3), .lit (.int .i64 4), .lit (.int .i64 9), .lit (.int .i64 14)]]

/-- 'farhaillaw.KeysOpens': WHATEVER THE INPUT: true; the input reads as it did. -/
def keysOpensSpec : ChangeSpec := { name := "keysOpens", fn := fun _ => fun
  | [d1, d2] => { results := [.lit (.bool true)], args := [d1, d2] }
  | _ => none }
def keysOpensRow : OpenClaim := { program := "ytaigcjhachkmmaadoor", sum := "81ec0de06fc92d8155506bf523aac3781a02048bae72fb8c708ce6cad0dd1db0", func := "farhail/farhaillaw.KeysOpens", spec := "keysOpens", unfollowed := true, recurses := true, named := ["farhail/keys.lines", "math/bits.divideError", "math/bits.overflowError"], apart := false, laid := [("farhail/keys.lines", laid_farhail_keys_lines)] }
def KeysOpensSaid : Prop := keysOpensRow.holds Tryd.pinned (OpenSpec.ofChange keysOpensSpec)

/-- ITS FALSE NEIGHBOUR: 'it returns false'. Refute it at one input. -/
def keysOpensWrong : ChangeSpec := { name := "keysOpens", fn := fun _ => fun
  | [d1, d2] => { results := [.lit (.bool false)], args := [d1, d2] }
  | _ => none }
def KeysOpensWrongFalsely : Prop := keysOpensRow.holds Tryd.pinned (OpenSpec.ofChange keysOpensWrong)

/-- 'farhailkeep.KeysBack': WHATEVER THE INPUT: true; the input reads as it did. -/
def keysBackSpec : ChangeSpec := { name := "keysBack", fn := fun _ => fun
  | [d1, d2, d3, d4, d5, d6] => { results := [.lit (.bool true)], args := [d1, d2, d3, d4, d5, d6] }
  | _ => none }
def keysBackRow : OpenClaim := { program := "ytaigcjhachkmmaadoor", sum := "81ec0de06fc92d8155506bf523aac3781a02048bae72fb8c708ce6cad0dd1db0", func := "farhail/farhailkeep.KeysBack", spec := "keysBack", unfollowed := true, recurses := true, named := ["farhail/keys.lines", "math/bits.divideError", "math/bits.overflowError"], apart := false, laid := [("farhail/keys.lines", laid_farhail_keys_lines)] }
def KeysBackSaid : Prop := keysBackRow.holds Tryd.pinned (OpenSpec.ofChange keysBackSpec)

/-- ITS FALSE NEIGHBOUR: 'it returns false'. Refute it at one input. -/
def keysBackWrong : ChangeSpec := { name := "keysBack", fn := fun _ => fun
  | [d1, d2, d3, d4, d5, d6] => { results := [.lit (.bool false)], args := [d1, d2, d3, d4, d5, d6] }
  | _ => none }
def KeysBackWrongFalsely : Prop := keysBackRow.holds Tryd.pinned (OpenSpec.ofChange keysBackWrong)

/-- 'farhailkeep.KeysOnce': WHATEVER THE INPUT: true; the input reads as it did. -/
def keysOnceSpec : ChangeSpec := { name := "keysOnce", fn := fun _ => fun
  | [d1, d2, d3] => { results := [.lit (.bool true)], args := [d1, d2, d3] }
  | _ => none }
def keysOnceRow : OpenClaim := { program := "ytaigcjhachkmmaadoor", sum := "81ec0de06fc92d8155506bf523aac3781a02048bae72fb8c708ce6cad0dd1db0", func := "farhail/farhailkeep.KeysOnce", spec := "keysOnce", unfollowed := true, recurses := true, named := ["farhail/keys.lines", "math/bits.divideError", "math/bits.overflowError"], apart := false, laid := [("farhail/keys.lines", laid_farhail_keys_lines)] }
def KeysOnceSaid : Prop := keysOnceRow.holds Tryd.pinned (OpenSpec.ofChange keysOnceSpec)

/-- ITS FALSE NEIGHBOUR: 'it returns false'. Refute it at one input. -/
def keysOnceWrong : ChangeSpec := { name := "keysOnce", fn := fun _ => fun
  | [d1, d2, d3] => { results := [.lit (.bool false)], args := [d1, d2, d3] }
  | _ => none }
def KeysOnceWrongFalsely : Prop := keysOnceRow.holds Tryd.pinned (OpenSpec.ofChange keysOnceWrong)

/- THE SECOND FORM. 'bulk': how many values and letters a reading holds, each counted each time it is reached (what is shared counts as often as it is met; a slice's spare places count too). A statement '..UptoSaid' is the law's where the arguments, and the package variables that the reading takes, are together of bulk at most 1048576: NARROWER than '..Said'. Prove '..Said' where nothing that the law and all that it calls make is longer than what came in: it says more and counts as full. Else prove '..UptoSaid'. A law counts once. -/
mutual
def uptoBulk {H : Type} : DataW H → Nat
  | .lit (.string bytes) => bytes.length + 1
  | .lit _ => 1
  | .nil => 1
  | .ptr d => uptoBulk d + 1
  | .slice elems spare => uptoBulkAll elems + uptoBulkAll spare + 1
  | .agg parts => uptoBulkAll parts + 1
  | .iface _ d => uptoBulk d + 1
  | .map entries => uptoBulkEntries entries + 1
  | .held _ => 1
def uptoBulkAll {H : Type} : List (DataW H) → Nat
  | [] => 0
  | d :: r => uptoBulk d + uptoBulkAll r
def uptoBulkEntries {H : Type} : List (Lit × DataW H) → Nat
  | [] => 0
  | x :: r => uptoBulkEntry x + uptoBulkEntries r
def uptoBulkEntry {H : Type} : Lit × DataW H → Nat
  | (.string bytes, d) => bytes.length + uptoBulk d + 1
  | (_, d) => uptoBulk d + 1
 end
def uptoSmall : (H : Type) → List (DataW H) → Bool := fun _ ds => decide (uptoBulkAll ds ≤ 1048576)
def OpenSpec.upto (s : _root_.Go.ChangeSpec) : _root_.Go.OpenSpec := { _root_.Go.OpenSpec.ofChange s with cond := some uptoSmall }

/-- 'farhaillaw.KeysOpens', WHERE WHAT IT READS IS OF BULK AT MOST 1048576: true; the input reads as it did. -/
def keysOpensUptoRow : OpenClaim := { program := "ytaigcjhachkmmaadoor", sum := "81ec0de06fc92d8155506bf523aac3781a02048bae72fb8c708ce6cad0dd1db0", func := "farhail/farhaillaw.KeysOpens", spec := "keysOpens", unfollowed := true, recurses := true, named := ["farhail/keys.lines", "math/bits.divideError", "math/bits.overflowError"], apart := false, laid := [("farhail/keys.lines", laid_farhail_keys_lines)], narrowed := true }
def KeysOpensUptoSaid : Prop := keysOpensUptoRow.holds Tryd.pinned (OpenSpec.upto keysOpensSpec)

/-- 'farhailkeep.KeysBack', WHERE WHAT IT READS IS OF BULK AT MOST 1048576: true; the input reads as it did. -/
def keysBackUptoRow : OpenClaim := { program := "ytaigcjhachkmmaadoor", sum := "81ec0de06fc92d8155506bf523aac3781a02048bae72fb8c708ce6cad0dd1db0", func := "farhail/farhailkeep.KeysBack", spec := "keysBack", unfollowed := true, recurses := true, named := ["farhail/keys.lines", "math/bits.divideError", "math/bits.overflowError"], apart := false, laid := [("farhail/keys.lines", laid_farhail_keys_lines)], narrowed := true }
def KeysBackUptoSaid : Prop := keysBackUptoRow.holds Tryd.pinned (OpenSpec.upto keysBackSpec)

/-- 'farhailkeep.KeysOnce', WHERE WHAT IT READS IS OF BULK AT MOST 1048576: true; the input reads as it did. -/
def keysOnceUptoRow : OpenClaim := { program := "ytaigcjhachkmmaadoor", sum := "81ec0de06fc92d8155506bf523aac3781a02048bae72fb8c708ce6cad0dd1db0", func := "farhail/farhailkeep.KeysOnce", spec := "keysOnce", unfollowed := true, recurses := true, named := ["farhail/keys.lines", "math/bits.divideError", "math/bits.overflowError"], apart := false, laid := [("farhail/keys.lines", laid_farhail_keys_lines)], narrowed := true }
def KeysOnceUptoSaid : Prop := keysOnceUptoRow.holds Tryd.pinned (OpenSpec.upto keysOnceSpec)

end Rows
end Go.Proofs.YtaigcjhachkmmaaDoor
