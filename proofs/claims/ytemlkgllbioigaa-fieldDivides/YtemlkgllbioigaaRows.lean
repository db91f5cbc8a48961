/-
  No cell of these rows narrows 'for every input' (looked for: loops, veiled, ifaces, maps, wideKeys, modest, calm, conditions, laid).
  DERIVED. THE GIVEN ROWS OF THIS SEAT. 10 by the template 'for every input the law returns true; each argument reads behind the call as it read before'; 0 by the template 'total and deterministic' (their statements: YtemlkgllbioigaaTotals.lean).
  GIVEN WITH THE SEED: the statements are not yours to turn. If you find one false, say at which input.
  Laid BY PROGRAM, IN A SANDBOX (cutbox-rows.mjs): the forced cells as the released guide's own fill.sh prints them over the translation 657268045874f315… (all of the seat's roots in one cut). By AI agents, Wed Nov 11 2026. No macro, syntax, notation, axiom, sorry.
-/
import Derived.Test.YtemlkgllbioigaaChecked
import GoSem.Claim
import GoSem.ClaimJoined
import GoSem.ClaimMapViews
import Derived.JoinedTies
import Derived.KernelRfl
namespace Go.Proofs.Ytemlkgllbioigaa
/- THE CELL 'sum', in the pinned program and in every row, IS THE sha256 OF THE DUMP (.gsa) THAT YtemlkgllbioigaaProg.lean LOADS. Nothing in Lean hashes anything: it is a label: what it is worth is what the hold of that sum in a sandbox is worth. -/
noncomputable def Try.pinned : Pinned := { name := "ytemlkgllbioigaa", sum := "657268045874f31543bd5a3788471aa6dc775a1c028339cf7acd34f7740959d6", checked := Try.checked }
namespace Rows
def none {H : Type} : Left H := { results := [], args := [] }

/-- 'farhaillaw.FieldNumbers': WHATEVER THE INPUT: true; the input reads as it did. -/
def fieldNumbersSpec : ChangeSpec := { name := "fieldNumbers", fn := fun _ => fun
  | [d1, d2, d3] => { results := [.lit (.bool true)], args := [d1, d2, d3] }
  | _ => none }
def fieldNumbersRow : OpenClaim := { program := "ytemlkgllbioigaa", sum := "657268045874f31543bd5a3788471aa6dc775a1c028339cf7acd34f7740959d6", func := "farhail/farhaillaw.FieldNumbers", spec := "fieldNumbers", apart := false }
def FieldNumbersSaid : Prop := fieldNumbersRow.holds Try.pinned (OpenSpec.ofChange fieldNumbersSpec)

/-- ITS FALSE NEIGHBOUR: 'it returns false'. Refute it at one input. -/
def fieldNumbersWrong : ChangeSpec := { name := "fieldNumbers", fn := fun _ => fun
  | [d1, d2, d3] => { results := [.lit (.bool false)], args := [d1, d2, d3] }
  | _ => none }
def FieldNumbersWrongFalsely : Prop := fieldNumbersRow.holds Try.pinned (OpenSpec.ofChange fieldNumbersWrong)

/-- 'farhaillaw.FieldSums': WHATEVER THE INPUT: true; the input reads as it did. -/
def fieldSumsSpec : ChangeSpec := { name := "fieldSums", fn := fun _ => fun
  | [d1, d2] => { results := [.lit (.bool true)], args := [d1, d2] }
  | _ => none }
def fieldSumsRow : OpenClaim := { program := "ytemlkgllbioigaa", sum := "657268045874f31543bd5a3788471aa6dc775a1c028339cf7acd34f7740959d6", func := "farhail/farhaillaw.FieldSums", spec := "fieldSums", apart := false }
def FieldSumsSaid : Prop := fieldSumsRow.holds Try.pinned (OpenSpec.ofChange fieldSumsSpec)

/-- ITS FALSE NEIGHBOUR: 'it returns false'. Refute it at one input. -/
def fieldSumsWrong : ChangeSpec := { name := "fieldSums", fn := fun _ => fun
  | [d1, d2] => { results := [.lit (.bool false)], args := [d1, d2] }
  | _ => none }
def FieldSumsWrongFalsely : Prop := fieldSumsRow.holds Try.pinned (OpenSpec.ofChange fieldSumsWrong)

/-- 'farhaillaw.FieldOver': WHATEVER THE INPUT: true; the input reads as it did. -/
def fieldOverSpec : ChangeSpec := { name := "fieldOver", fn := fun _ => fun
  | [d1, d2, d3] => { results := [.lit (.bool true)], args := [d1, d2, d3] }
  | _ => none }
def fieldOverRow : OpenClaim := { program := "ytemlkgllbioigaa", sum := "657268045874f31543bd5a3788471aa6dc775a1c028339cf7acd34f7740959d6", func := "farhail/farhaillaw.FieldOver", spec := "fieldOver", apart := false }
def FieldOverSaid : Prop := fieldOverRow.holds Try.pinned (OpenSpec.ofChange fieldOverSpec)

/-- ITS FALSE NEIGHBOUR: 'it returns false'. Refute it at one input. -/
def fieldOverWrong : ChangeSpec := { name := "fieldOver", fn := fun _ => fun
  | [d1, d2, d3] => { results := [.lit (.bool false)], args := [d1, d2, d3] }
  | _ => none }
def FieldOverWrongFalsely : Prop := fieldOverRow.holds Try.pinned (OpenSpec.ofChange fieldOverWrong)

/-- 'farhaillaw.FieldThrough': WHATEVER THE INPUT: true; the input reads as it did. -/
def fieldThroughSpec : ChangeSpec := { name := "fieldThrough", fn := fun _ => fun
  | [d1, d2] => { results := [.lit (.bool true)], args := [d1, d2] }
  | _ => none }
def fieldThroughRow : OpenClaim := { program := "ytemlkgllbioigaa", sum := "657268045874f31543bd5a3788471aa6dc775a1c028339cf7acd34f7740959d6", func := "farhail/farhaillaw.FieldThrough", spec := "fieldThrough", apart := false }
def FieldThroughSaid : Prop := fieldThroughRow.holds Try.pinned (OpenSpec.ofChange fieldThroughSpec)

/-- ITS FALSE NEIGHBOUR: 'it returns false'. Refute it at one input. -/
def fieldThroughWrong : ChangeSpec := { name := "fieldThrough", fn := fun _ => fun
  | [d1, d2] => { results := [.lit (.bool false)], args := [d1, d2] }
  | _ => none }
def FieldThroughWrongFalsely : Prop := fieldThroughRow.holds Try.pinned (OpenSpec.ofChange fieldThroughWrong)

/-- 'farhailkeep.FieldRing': WHATEVER THE INPUT: true; the input reads as it did. -/
def fieldRingSpec : ChangeSpec := { name := "fieldRing", fn := fun _ => fun
  | [d1, d2, d3] => { results := [.lit (.bool true)], args := [d1, d2, d3] }
  | _ => none }
def fieldRingRow : OpenClaim := { program := "ytemlkgllbioigaa", sum := "657268045874f31543bd5a3788471aa6dc775a1c028339cf7acd34f7740959d6", func := "farhail/farhailkeep.FieldRing", spec := "fieldRing", apart := false }
def FieldRingSaid : Prop := fieldRingRow.holds Try.pinned (OpenSpec.ofChange fieldRingSpec)

/-- ITS FALSE NEIGHBOUR: 'it returns false'. Refute it at one input. -/
def fieldRingWrong : ChangeSpec := { name := "fieldRing", fn := fun _ => fun
  | [d1, d2, d3] => { results := [.lit (.bool false)], args := [d1, d2, d3] }
  | _ => none }
def FieldRingWrongFalsely : Prop := fieldRingRow.holds Try.pinned (OpenSpec.ofChange fieldRingWrong)

/-- 'farhailkeep.FieldLogs': WHATEVER THE INPUT: true; the input reads as it did. -/
def fieldLogsSpec : ChangeSpec := { name := "fieldLogs", fn := fun _ => fun
  | [d1, d2] => { results := [.lit (.bool true)], args := [d1, d2] }
  | _ => none }
def fieldLogsRow : OpenClaim := { program := "ytemlkgllbioigaa", sum := "657268045874f31543bd5a3788471aa6dc775a1c028339cf7acd34f7740959d6", func := "farhail/farhailkeep.FieldLogs", spec := "fieldLogs", apart := false }
def FieldLogsSaid : Prop := fieldLogsRow.holds Try.pinned (OpenSpec.ofChange fieldLogsSpec)

/-- ITS FALSE NEIGHBOUR: 'it returns false'. Refute it at one input. -/
def fieldLogsWrong : ChangeSpec := { name := "fieldLogs", fn := fun _ => fun
  | [d1, d2] => { results := [.lit (.bool false)], args := [d1, d2] }
  | _ => none }
def FieldLogsWrongFalsely : Prop := fieldLogsRow.holds Try.pinned (OpenSpec.ofChange fieldLogsWrong)

/-- 'farhailkeep.FieldDivides': WHATEVER THE INPUT: true; the input reads as it did. -/
def fieldDividesSpec : ChangeSpec := { name := "fieldDivides", fn := fun _ => fun
  | [d1, d2] => { results := [.lit (.bool true)], args := [d1, d2] }
  | _ => none }
def fieldDividesRow : OpenClaim := { program := "ytemlkgllbioigaa", sum := "657268045874f31543bd5a3788471aa6dc775a1c028339cf7acd34f7740959d6", func := "farhail/farhailkeep.FieldDivides", spec := "fieldDivides", apart := false }
def FieldDividesSaid : Prop := fieldDividesRow.holds Try.pinned (OpenSpec.ofChange fieldDividesSpec)

/-- ITS FALSE NEIGHBOUR: 'it returns false'. Refute it at one input. -/
def fieldDividesWrong : ChangeSpec := { name := "fieldDivides", fn := fun _ => fun
  | [d1, d2] => { results := [.lit (.bool false)], args := [d1, d2] }
  | _ => none }
def FieldDividesWrongFalsely : Prop := fieldDividesRow.holds Try.pinned (OpenSpec.ofChange fieldDividesWrong)

/-- 'farhailkeep.FieldPoints': WHATEVER THE INPUT: true; the input reads as it did. -/
def fieldPointsSpec : ChangeSpec := { name := "fieldPoints", fn := fun _ => fun
  | [d1, d2, d3, d4] => { results := [.lit (.bool true)], args := [d1, d2, d3, d4] }
  | _ => none }
def fieldPointsRow : OpenClaim := { program := "ytemlkgllbioigaa", sum := "657268045874f31543bd5a3788471aa6dc775a1c028339cf7acd34f7740959d6", func := "farhail/farhailkeep.FieldPoints", spec := "fieldPoints", apart := false }
def FieldPointsSaid : Prop := fieldPointsRow.holds Try.pinned (OpenSpec.ofChange fieldPointsSpec)

/-- ITS FALSE NEIGHBOUR: 'it returns false'. Refute it at one input. -/
def fieldPointsWrong : ChangeSpec := { name := "fieldPoints", fn := fun _ => fun
  | [d1, d2, d3, d4] => { results := [.lit (.bool false)], args := [d1, d2, d3, d4] }
  | _ => none }
def FieldPointsWrongFalsely : Prop := fieldPointsRow.holds Try.pinned (OpenSpec.ofChange fieldPointsWrong)

/-- 'farhaillaw.SolomonEncodes': WHATEVER THE INPUT: true; the input reads as it did. -/
def solomonEncodesSpec : ChangeSpec := { name := "solomonEncodes", fn := fun _ => fun
  | [d1, d2] => { results := [.lit (.bool true)], args := [d1, d2] }
  | _ => none }
def solomonEncodesRow : OpenClaim := { program := "ytemlkgllbioigaa", sum := "657268045874f31543bd5a3788471aa6dc775a1c028339cf7acd34f7740959d6", func := "farhail/farhaillaw.SolomonEncodes", spec := "solomonEncodes", apart := false }
def SolomonEncodesSaid : Prop := solomonEncodesRow.holds Try.pinned (OpenSpec.ofChange solomonEncodesSpec)

/-- ITS FALSE NEIGHBOUR: 'it returns false'. Refute it at one input. -/
def solomonEncodesWrong : ChangeSpec := { name := "solomonEncodes", fn := fun _ => fun
  | [d1, d2] => { results := [.lit (.bool false)], args := [d1, d2] }
  | _ => none }
def SolomonEncodesWrongFalsely : Prop := solomonEncodesRow.holds Try.pinned (OpenSpec.ofChange solomonEncodesWrong)

/-- 'farhaillaw.SolomonWeaves': WHATEVER THE INPUT: true; the input reads as it did. -/
def solomonWeavesSpec : ChangeSpec := { name := "solomonWeaves", fn := fun _ => fun
  | [d1, d2, d3] => { results := [.lit (.bool true)], args := [d1, d2, d3] }
  | _ => none }
def solomonWeavesRow : OpenClaim := { program := "ytemlkgllbioigaa", sum := "657268045874f31543bd5a3788471aa6dc775a1c028339cf7acd34f7740959d6", func := "farhail/farhaillaw.SolomonWeaves", spec := "solomonWeaves", apart := false }
def SolomonWeavesSaid : Prop := solomonWeavesRow.holds Try.pinned (OpenSpec.ofChange solomonWeavesSpec)

/-- ITS FALSE NEIGHBOUR: 'it returns false'. Refute it at one input. -/
def solomonWeavesWrong : ChangeSpec := { name := "solomonWeaves", fn := fun _ => fun
  | [d1, d2, d3] => { results := [.lit (.bool false)], args := [d1, d2, d3] }
  | _ => none }
def SolomonWeavesWrongFalsely : Prop := solomonWeavesRow.holds Try.pinned (OpenSpec.ofChange solomonWeavesWrong)

/- THE SECOND FORM. 'bulk': how many values and letters a reading holds, each counted each time it is reached (what is shared counts as often as it is met; a slice's spare places count too). A statement '..UptoSaid' is the law's where the arguments, and the package variables that the reading takes, are together of bulk at most 1048576: NARROWER than '..Said'. Prove '..Said' where nothing that the law and all that it calls make is longer than what came in: it says more and counts as full. Else prove '..UptoSaid'. A law counts once. -/
mutual
def uptoBulk {H : Type} : DataW H → Nat
  | .lit (.string bytes) => bytes.length + 1
  | .lit _ => 1
  | .nil => 1
  | .ptr d => uptoBulk d + 1
  | .slice elems spare => uptoBulkAll elems + uptoBulkAll spare + 1
  | .agg parts => uptoBulkAll parts + 1
  | .iface _ d => uptoBulk d + 1
  | .map entries => uptoBulkEntries entries + 1
  | .held _ => 1
def uptoBulkAll {H : Type} : List (DataW H) → Nat
  | [] => 0
  | d :: r => uptoBulk d + uptoBulkAll r
def uptoBulkEntries {H : Type} : List (Lit × DataW H) → Nat
  | [] => 0
  | x :: r => uptoBulkEntry x + uptoBulkEntries r
def uptoBulkEntry {H : Type} : Lit × DataW H → Nat
  | (.string bytes, d) => bytes.length + uptoBulk d + 1
  | (_, d) => uptoBulk d + 1
 end
def uptoSmall : (H : Type) → List (DataW H) → Bool := fun _ ds => decide (uptoBulkAll ds ≤ 1048576)
def OpenSpec.upto (s : _root_.Go.ChangeSpec) : _root_.Go.OpenSpec := { _root_.Go.OpenSpec.ofChange s with cond := some uptoSmall }

/-- 'farhaillaw.FieldNumbers', WHERE WHAT IT READS IS OF BULK AT MOST 1048576: true; the input reads as it did. -/
def fieldNumbersUptoRow : OpenClaim := { program := "ytemlkgllbioigaa", sum := "657268045874f31543bd5a3788471aa6dc775a1c028339cf7acd34f7740959d6", func := "farhail/farhaillaw.FieldNumbers", spec := "fieldNumbers", apart := false, narrowed := true }
def FieldNumbersUptoSaid : Prop := fieldNumbersUptoRow.holds Try.pinned (OpenSpec.upto fieldNumbersSpec)

/-- 'farhaillaw.FieldSums', WHERE WHAT IT READS IS OF BULK AT MOST 1048576: true; the input reads as it did. -/
def fieldSumsUptoRow : OpenClaim := { program := "ytemlkgllbioigaa", sum := "657268045874f31543bd5a3788471aa6dc775a1c028339cf7acd34f7740959d6", func := "farhail/farhaillaw.FieldSums", spec := "fieldSums", apart := false, narrowed := true }
def FieldSumsUptoSaid : Prop := fieldSumsUptoRow.holds Try.pinned (OpenSpec.upto fieldSumsSpec)

/-- 'farhaillaw.FieldOver', WHERE WHAT IT READS IS OF BULK AT MOST 1048576: true; the input reads as it did. -/
def fieldOverUptoRow : OpenClaim := { program := "ytemlkgllbioigaa", sum := "657268045874f31543bd5a3788471aa6dc775a1c028339cf7acd34f7740959d6", func := "farhail/farhaillaw.FieldOver", spec := "fieldOver", apart := false, narrowed := true }
def FieldOverUptoSaid : Prop := fieldOverUptoRow.holds Try.pinned (OpenSpec.upto fieldOverSpec)

/-- 'farhaillaw.FieldThrough', WHERE WHAT IT READS IS OF BULK AT MOST 1048576: true; the input reads as it did. -/
def fieldThroughUptoRow : OpenClaim := { program := "ytemlkgllbioigaa", sum := "657268045874f31543bd5a3788471aa6dc775a1c028339cf7acd34f7740959d6", func := "farhail/farhaillaw.FieldThrough", spec := "fieldThrough", apart := false, narrowed := true }
def FieldThroughUptoSaid : Prop := fieldThroughUptoRow.holds Try.pinned (OpenSpec.upto fieldThroughSpec)

/-- 'farhailkeep.FieldRing', WHERE WHAT IT READS IS OF BULK AT MOST 1048576: true; the input reads as it did. -/
def fieldRingUptoRow : OpenClaim := { program := "ytemlkgllbioigaa", sum := "657268045874f31543bd5a3788471aa6dc775a1c028339cf7acd34f7740959d6", func := "farhail/farhailkeep.FieldRing", spec := "fieldRing", apart := false, narrowed := true }
def FieldRingUptoSaid : Prop := fieldRingUptoRow.holds Try.pinned (OpenSpec.upto fieldRingSpec)

/-- 'farhailkeep.FieldLogs', WHERE WHAT IT READS IS OF BULK AT MOST 1048576: true; the input reads as it did. -/
def fieldLogsUptoRow : OpenClaim := { program := "ytemlkgllbioigaa", sum := "657268045874f31543bd5a3788471aa6dc775a1c028339cf7acd34f7740959d6", func := "farhail/farhailkeep.FieldLogs", spec := "fieldLogs", apart := false, narrowed := true }
def FieldLogsUptoSaid : Prop := fieldLogsUptoRow.holds Try.pinned (OpenSpec.upto fieldLogsSpec)

/-- 'farhailkeep.FieldDivides', WHERE WHAT IT READS IS OF BULK AT MOST 1048576: true; the input reads as it did. -/
def fieldDividesUptoRow : OpenClaim := { program := "ytemlkgllbioigaa", sum := "657268045874f31543bd5a3788471aa6dc775a1c028339cf7acd34f7740959d6", func := "farhail/farhailkeep.FieldDivides", spec := "fieldDivides", apart := false, narrowed := true }
def FieldDividesUptoSaid : Prop := fieldDividesUptoRow.holds Try.pinned (OpenSpec.upto fieldDividesSpec)

/-- 'farhailkeep.FieldPoints', WHERE WHAT IT READS IS OF BULK AT MOST 1048576: true; the input reads as it did. -/
def fieldPointsUptoRow : OpenClaim := { program := "ytemlkgllbioigaa", sum := "657268045874f31543bd5a3788471aa6dc775a1c028339cf7acd34f7740959d6", func := "farhail/farhailkeep.FieldPoints", spec := "fieldPoints", apart := false, narrowed := true }
def FieldPointsUptoSaid : Prop := fieldPointsUptoRow.holds Try.pinned (OpenSpec.upto fieldPointsSpec)

/-- 'farhaillaw.SolomonEncodes', WHERE WHAT IT READS IS OF BULK AT MOST 1048576: true; the input reads as it did. -/
def solomonEncodesUptoRow : OpenClaim := { program := "ytemlkgllbioigaa", sum := "657268045874f31543bd5a3788471aa6dc775a1c028339cf7acd34f7740959d6", func := "farhail/farhaillaw.SolomonEncodes", spec := "solomonEncodes", apart := false, narrowed := true }
def SolomonEncodesUptoSaid : Prop := solomonEncodesUptoRow.holds Try.pinned (OpenSpec.upto solomonEncodesSpec)

/-- 'farhaillaw.SolomonWeaves', WHERE WHAT IT READS IS OF BULK AT MOST 1048576: true; the input reads as it did. -/
def solomonWeavesUptoRow : OpenClaim := { program := "ytemlkgllbioigaa", sum := "657268045874f31543bd5a3788471aa6dc775a1c028339cf7acd34f7740959d6", func := "farhail/farhaillaw.SolomonWeaves", spec := "solomonWeaves", apart := false, narrowed := true }
def SolomonWeavesUptoSaid : Prop := solomonWeavesUptoRow.holds Try.pinned (OpenSpec.upto solomonWeavesSpec)

end Rows
end Go.Proofs.Ytemlkgllbioigaa
