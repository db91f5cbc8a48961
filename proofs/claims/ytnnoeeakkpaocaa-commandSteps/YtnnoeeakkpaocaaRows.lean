/-
  No cell of these rows narrows 'for every input' (looked for: loops, veiled, ifaces, maps, wideKeys, modest, calm, conditions, laid).
  DERIVED. THE GIVEN ROWS OF THIS SEAT. 10 by the template 'for every input the law returns true; each argument reads behind the call as it read before'; 0 by the template 'total and deterministic' (their statements: YtnnoeeakkpaocaaTotals.lean).
  GIVEN WITH THE SEED: the statements are not yours to turn. If you find one false, say at which input.
  Laid BY PROGRAM, IN A SANDBOX (cutbox-rows.mjs): the forced cells as the released guide's own fill.sh prints them over the translation 095b6aa992beaf16… (all of the seat's roots in one cut). By AI agents, Wed Nov 11 2026. No macro, syntax, notation, axiom, sorry.
-/
import Derived.Test.YtnnoeeakkpaocaaChecked
import GoSem.Claim
import GoSem.ClaimJoined
import GoSem.ClaimMapViews
import Derived.JoinedTies
import Derived.KernelRfl
namespace Go.Proofs.Ytnnoeeakkpaocaa
/- THE CELL 'sum', in the pinned program and in every row, IS THE sha256 OF THE DUMP (.gsa) THAT YtnnoeeakkpaocaaProg.lean LOADS. Nothing in Lean hashes anything: it is a label: what it is worth is what the hold of that sum in a sandbox is worth. -/
noncomputable def Try.pinned : Pinned := { name := "ytnnoeeakkpaocaa", sum := "095b6aa992beaf16217e3c4d79ae111e2d1b5f7b93edd299fbb6911426504e63", checked := Try.checked }
namespace Rows
def none {H : Type} : Left H := { results := [], args := [] }

/-- 'farhaillaw.CommandEncodes': WHATEVER THE INPUT: true; the input reads as it did. -/
def commandEncodesSpec : ChangeSpec := { name := "commandEncodes", fn := fun _ => fun
  | [d] => { results := [.lit (.bool true)], args := [d] }
  | _ => none }
def commandEncodesRow : OpenClaim := { program := "ytnnoeeakkpaocaa", sum := "095b6aa992beaf16217e3c4d79ae111e2d1b5f7b93edd299fbb6911426504e63", func := "farhail/farhaillaw.CommandEncodes", spec := "commandEncodes", apart := false }
def CommandEncodesSaid : Prop := commandEncodesRow.holds Try.pinned (OpenSpec.ofChange commandEncodesSpec)

/-- ITS FALSE NEIGHBOUR: 'it returns false'. Refute it at one input. -/
def commandEncodesWrong : ChangeSpec := { name := "commandEncodes", fn := fun _ => fun
  | [d] => { results := [.lit (.bool false)], args := [d] }
  | _ => none }
def CommandEncodesWrongFalsely : Prop := commandEncodesRow.holds Try.pinned (OpenSpec.ofChange commandEncodesWrong)

/-- 'farhaillaw.CommandDecodes': WHATEVER THE INPUT: true; the input reads as it did. -/
def commandDecodesSpec : ChangeSpec := { name := "commandDecodes", fn := fun _ => fun
  | [d] => { results := [.lit (.bool true)], args := [d] }
  | _ => none }
def commandDecodesRow : OpenClaim := { program := "ytnnoeeakkpaocaa", sum := "095b6aa992beaf16217e3c4d79ae111e2d1b5f7b93edd299fbb6911426504e63", func := "farhail/farhaillaw.CommandDecodes", spec := "commandDecodes", apart := false }
def CommandDecodesSaid : Prop := commandDecodesRow.holds Try.pinned (OpenSpec.ofChange commandDecodesSpec)

/-- ITS FALSE NEIGHBOUR: 'it returns false'. Refute it at one input. -/
def commandDecodesWrong : ChangeSpec := { name := "commandDecodes", fn := fun _ => fun
  | [d] => { results := [.lit (.bool false)], args := [d] }
  | _ => none }
def CommandDecodesWrongFalsely : Prop := commandDecodesRow.holds Try.pinned (OpenSpec.ofChange commandDecodesWrong)

/-- 'farhaillaw.CommandGates': WHATEVER THE INPUT: true; the input reads as it did. -/
def commandGatesSpec : ChangeSpec := { name := "commandGates", fn := fun _ => fun
  | [d1, d2] => { results := [.lit (.bool true)], args := [d1, d2] }
  | _ => none }
def commandGatesRow : OpenClaim := { program := "ytnnoeeakkpaocaa", sum := "095b6aa992beaf16217e3c4d79ae111e2d1b5f7b93edd299fbb6911426504e63", func := "farhail/farhaillaw.CommandGates", spec := "commandGates", apart := false }
def CommandGatesSaid : Prop := commandGatesRow.holds Try.pinned (OpenSpec.ofChange commandGatesSpec)

/-- ITS FALSE NEIGHBOUR: 'it returns false'. Refute it at one input. -/
def commandGatesWrong : ChangeSpec := { name := "commandGates", fn := fun _ => fun
  | [d1, d2] => { results := [.lit (.bool false)], args := [d1, d2] }
  | _ => none }
def CommandGatesWrongFalsely : Prop := commandGatesRow.holds Try.pinned (OpenSpec.ofChange commandGatesWrong)

/-- 'farhaillaw.CommandAccepts': WHATEVER THE INPUT: true; the input reads as it did. -/
def commandAcceptsSpec : ChangeSpec := { name := "commandAccepts", fn := fun _ => fun
  | [d1, d2, d3] => { results := [.lit (.bool true)], args := [d1, d2, d3] }
  | _ => none }
def commandAcceptsRow : OpenClaim := { program := "ytnnoeeakkpaocaa", sum := "095b6aa992beaf16217e3c4d79ae111e2d1b5f7b93edd299fbb6911426504e63", func := "farhail/farhaillaw.CommandAccepts", spec := "commandAccepts", apart := false }
def CommandAcceptsSaid : Prop := commandAcceptsRow.holds Try.pinned (OpenSpec.ofChange commandAcceptsSpec)

/-- ITS FALSE NEIGHBOUR: 'it returns false'. Refute it at one input. -/
def commandAcceptsWrong : ChangeSpec := { name := "commandAccepts", fn := fun _ => fun
  | [d1, d2, d3] => { results := [.lit (.bool false)], args := [d1, d2, d3] }
  | _ => none }
def CommandAcceptsWrongFalsely : Prop := commandAcceptsRow.holds Try.pinned (OpenSpec.ofChange commandAcceptsWrong)

/-- 'farhaillaw.CommandReadies': WHATEVER THE INPUT: true; the input reads as it did. -/
def commandReadiesSpec : ChangeSpec := { name := "commandReadies", fn := fun _ => fun
  | [d1, d2, d3, d4, d5] => { results := [.lit (.bool true)], args := [d1, d2, d3, d4, d5] }
  | _ => none }
def commandReadiesRow : OpenClaim := { program := "ytnnoeeakkpaocaa", sum := "095b6aa992beaf16217e3c4d79ae111e2d1b5f7b93edd299fbb6911426504e63", func := "farhail/farhaillaw.CommandReadies", spec := "commandReadies", apart := false }
def CommandReadiesSaid : Prop := commandReadiesRow.holds Try.pinned (OpenSpec.ofChange commandReadiesSpec)

/-- ITS FALSE NEIGHBOUR: 'it returns false'. Refute it at one input. -/
def commandReadiesWrong : ChangeSpec := { name := "commandReadies", fn := fun _ => fun
  | [d1, d2, d3, d4, d5] => { results := [.lit (.bool false)], args := [d1, d2, d3, d4, d5] }
  | _ => none }
def CommandReadiesWrongFalsely : Prop := commandReadiesRow.holds Try.pinned (OpenSpec.ofChange commandReadiesWrong)

/-- 'farhaillaw.CommandAsks': WHATEVER THE INPUT: true; the input reads as it did. -/
def commandAsksSpec : ChangeSpec := { name := "commandAsks", fn := fun _ => fun
  | [d1, d2] => { results := [.lit (.bool true)], args := [d1, d2] }
  | _ => none }
def commandAsksRow : OpenClaim := { program := "ytnnoeeakkpaocaa", sum := "095b6aa992beaf16217e3c4d79ae111e2d1b5f7b93edd299fbb6911426504e63", func := "farhail/farhaillaw.CommandAsks", spec := "commandAsks", unfollowed := true, recurses := true, apart := false }
def CommandAsksSaid : Prop := commandAsksRow.holds Try.pinned (OpenSpec.ofChange commandAsksSpec)

/-- ITS FALSE NEIGHBOUR: 'it returns false'. Refute it at one input. -/
def commandAsksWrong : ChangeSpec := { name := "commandAsks", fn := fun _ => fun
  | [d1, d2] => { results := [.lit (.bool false)], args := [d1, d2] }
  | _ => none }
def CommandAsksWrongFalsely : Prop := commandAsksRow.holds Try.pinned (OpenSpec.ofChange commandAsksWrong)

/-- 'farhaillaw.CommandSteps': WHATEVER THE INPUT: true; the input reads as it did. -/
def commandStepsSpec : ChangeSpec := { name := "commandSteps", fn := fun _ => fun
  | [d1, d2, d3] => { results := [.lit (.bool true)], args := [d1, d2, d3] }
  | _ => none }
def commandStepsRow : OpenClaim := { program := "ytnnoeeakkpaocaa", sum := "095b6aa992beaf16217e3c4d79ae111e2d1b5f7b93edd299fbb6911426504e63", func := "farhail/farhaillaw.CommandSteps", spec := "commandSteps", unfollowed := true, recurses := true, apart := false }
def CommandStepsSaid : Prop := commandStepsRow.holds Try.pinned (OpenSpec.ofChange commandStepsSpec)

/-- ITS FALSE NEIGHBOUR: 'it returns false'. Refute it at one input. -/
def commandStepsWrong : ChangeSpec := { name := "commandSteps", fn := fun _ => fun
  | [d1, d2, d3] => { results := [.lit (.bool false)], args := [d1, d2, d3] }
  | _ => none }
def CommandStepsWrongFalsely : Prop := commandStepsRow.holds Try.pinned (OpenSpec.ofChange commandStepsWrong)

/-- 'farhaillaw.CommandFrees': WHATEVER THE INPUT: true; the input reads as it did. -/
def commandFreesSpec : ChangeSpec := { name := "commandFrees", fn := fun _ => fun
  | [d] => { results := [.lit (.bool true)], args := [d] }
  | _ => none }
def commandFreesRow : OpenClaim := { program := "ytnnoeeakkpaocaa", sum := "095b6aa992beaf16217e3c4d79ae111e2d1b5f7b93edd299fbb6911426504e63", func := "farhail/farhaillaw.CommandFrees", spec := "commandFrees", unfollowed := true, recurses := true, apart := false }
def CommandFreesSaid : Prop := commandFreesRow.holds Try.pinned (OpenSpec.ofChange commandFreesSpec)

/-- ITS FALSE NEIGHBOUR: 'it returns false'. Refute it at one input. -/
def commandFreesWrong : ChangeSpec := { name := "commandFrees", fn := fun _ => fun
  | [d] => { results := [.lit (.bool false)], args := [d] }
  | _ => none }
def CommandFreesWrongFalsely : Prop := commandFreesRow.holds Try.pinned (OpenSpec.ofChange commandFreesWrong)

/-- 'farhailkeep.CommandOnce': WHATEVER THE INPUT: true; the input reads as it did. -/
def commandOnceSpec : ChangeSpec := { name := "commandOnce", fn := fun _ => fun
  | [d1, d2, d3, d4] => { results := [.lit (.bool true)], args := [d1, d2, d3, d4] }
  | _ => none }
def commandOnceRow : OpenClaim := { program := "ytnnoeeakkpaocaa", sum := "095b6aa992beaf16217e3c4d79ae111e2d1b5f7b93edd299fbb6911426504e63", func := "farhail/farhailkeep.CommandOnce", spec := "commandOnce", unfollowed := true, recurses := true, apart := false }
def CommandOnceSaid : Prop := commandOnceRow.holds Try.pinned (OpenSpec.ofChange commandOnceSpec)

/-- ITS FALSE NEIGHBOUR: 'it returns false'. Refute it at one input. -/
def commandOnceWrong : ChangeSpec := { name := "commandOnce", fn := fun _ => fun
  | [d1, d2, d3, d4] => { results := [.lit (.bool false)], args := [d1, d2, d3, d4] }
  | _ => none }
def CommandOnceWrongFalsely : Prop := commandOnceRow.holds Try.pinned (OpenSpec.ofChange commandOnceWrong)

/-- 'farhailkeep.CommandShuts': WHATEVER THE INPUT: true; the input reads as it did. -/
def commandShutsSpec : ChangeSpec := { name := "commandShuts", fn := fun _ => fun
  | [d1, d2, d3, d4] => { results := [.lit (.bool true)], args := [d1, d2, d3, d4] }
  | _ => none }
def commandShutsRow : OpenClaim := { program := "ytnnoeeakkpaocaa", sum := "095b6aa992beaf16217e3c4d79ae111e2d1b5f7b93edd299fbb6911426504e63", func := "farhail/farhailkeep.CommandShuts", spec := "commandShuts", unfollowed := true, recurses := true, apart := false }
def CommandShutsSaid : Prop := commandShutsRow.holds Try.pinned (OpenSpec.ofChange commandShutsSpec)

/-- ITS FALSE NEIGHBOUR: 'it returns false'. Refute it at one input. -/
def commandShutsWrong : ChangeSpec := { name := "commandShuts", fn := fun _ => fun
  | [d1, d2, d3, d4] => { results := [.lit (.bool false)], args := [d1, d2, d3, d4] }
  | _ => none }
def CommandShutsWrongFalsely : Prop := commandShutsRow.holds Try.pinned (OpenSpec.ofChange commandShutsWrong)

/- THE SECOND FORM. 'bulk': how many values and letters a reading holds, each counted each time it is reached (what is shared counts as often as it is met; a slice's spare places count too). A statement '..UptoSaid' is the law's where the arguments, and the package variables that the reading takes, are together of bulk at most 1048576: NARROWER than '..Said'. Prove '..Said' where nothing that the law and all that it calls make is longer than what came in: it says more and counts as full. Else prove '..UptoSaid'. A law counts once. -/
mutual
def uptoBulk {H : Type} : DataW H → Nat
  | .lit (.string bytes) => bytes.length + 1
  | .lit _ => 1
  | .nil => 1
  | .ptr d => uptoBulk d + 1
  | .slice elems spare => uptoBulkAll elems + uptoBulkAll spare + 1
  | .agg parts => uptoBulkAll parts + 1
  | .iface _ d => uptoBulk d + 1
  | .map entries => uptoBulkEntries entries + 1
  | .held _ => 1
def uptoBulkAll {H : Type} : List (DataW H) → Nat
  | [] => 0
  | d :: r => uptoBulk d + uptoBulkAll r
def uptoBulkEntries {H : Type} : List (Lit × DataW H) → Nat
  | [] => 0
  | x :: r => uptoBulkEntry x + uptoBulkEntries r
def uptoBulkEntry {H : Type} : Lit × DataW H → Nat
  | (.string bytes, d) => bytes.length + uptoBulk d + 1
  | (_, d) => uptoBulk d + 1
 end
def uptoSmall : (H : Type) → List (DataW H) → Bool := fun _ ds => decide (uptoBulkAll ds ≤ 1048576)
def OpenSpec.upto (s : _root_.Go.ChangeSpec) : _root_.Go.OpenSpec := { _root_.Go.OpenSpec.ofChange s with cond := some uptoSmall }

/-- 'farhaillaw.CommandEncodes', WHERE WHAT IT READS IS OF BULK AT MOST 1048576: true; the input reads as it did. -/
def commandEncodesUptoRow : OpenClaim := { program := "ytnnoeeakkpaocaa", sum := "095b6aa992beaf16217e3c4d79ae111e2d1b5f7b93edd299fbb6911426504e63", func := "farhail/farhaillaw.CommandEncodes", spec := "commandEncodes", apart := false, narrowed := true }
def CommandEncodesUptoSaid : Prop := commandEncodesUptoRow.holds Try.pinned (OpenSpec.upto commandEncodesSpec)

/-- 'farhaillaw.CommandDecodes', WHERE WHAT IT READS IS OF BULK AT MOST 1048576: true; the input reads as it did. -/
def commandDecodesUptoRow : OpenClaim := { program := "ytnnoeeakkpaocaa", sum := "095b6aa992beaf16217e3c4d79ae111e2d1b5f7b93edd299fbb6911426504e63", func := "farhail/farhaillaw.CommandDecodes", spec := "commandDecodes", apart := false, narrowed := true }
def CommandDecodesUptoSaid : Prop := commandDecodesUptoRow.holds Try.pinned (OpenSpec.upto commandDecodesSpec)

/-- 'farhaillaw.CommandGates', WHERE WHAT IT READS IS OF BULK AT MOST 1048576: true; the input reads as it did. -/
def commandGatesUptoRow : OpenClaim := { program := "ytnnoeeakkpaocaa", sum := "095b6aa992beaf16217e3c4d79ae111e2d1b5f7b93edd299fbb6911426504e63", func := "farhail/farhaillaw.CommandGates", spec := "commandGates", apart := false, narrowed := true }
def CommandGatesUptoSaid : Prop := commandGatesUptoRow.holds Try.pinned (OpenSpec.upto commandGatesSpec)

/-- 'farhaillaw.CommandAccepts', WHERE WHAT IT READS IS OF BULK AT MOST 1048576: true; the input reads as it did. -/
def commandAcceptsUptoRow : OpenClaim := { program := "ytnnoeeakkpaocaa", sum := "095b6aa992beaf16217e3c4d79ae111e2d1b5f7b93edd299fbb6911426504e63", func := "farhail/farhaillaw.CommandAccepts", spec := "commandAccepts", apart := false, narrowed := true }
def CommandAcceptsUptoSaid : Prop := commandAcceptsUptoRow.holds Try.pinned (OpenSpec.upto commandAcceptsSpec)

/-- 'farhaillaw.CommandReadies', WHERE WHAT IT READS IS OF BULK AT MOST 1048576: true; the input reads as it did. -/
def commandReadiesUptoRow : OpenClaim := { program := "ytnnoeeakkpaocaa", sum := "095b6aa992beaf16217e3c4d79ae111e2d1b5f7b93edd299fbb6911426504e63", func := "farhail/farhaillaw.CommandReadies", spec := "commandReadies", apart := false, narrowed := true }
def CommandReadiesUptoSaid : Prop := commandReadiesUptoRow.holds Try.pinned (OpenSpec.upto commandReadiesSpec)

/-- 'farhaillaw.CommandAsks', WHERE WHAT IT READS IS OF BULK AT MOST 1048576: true; the input reads as it did. -/
def commandAsksUptoRow : OpenClaim := { program := "ytnnoeeakkpaocaa", sum := "095b6aa992beaf16217e3c4d79ae111e2d1b5f7b93edd299fbb6911426504e63", func := "farhail/farhaillaw.CommandAsks", spec := "commandAsks", unfollowed := true, recurses := true, apart := false, narrowed := true }
def CommandAsksUptoSaid : Prop := commandAsksUptoRow.holds Try.pinned (OpenSpec.upto commandAsksSpec)

/-- 'farhaillaw.CommandSteps', WHERE WHAT IT READS IS OF BULK AT MOST 1048576: true; the input reads as it did. -/
def commandStepsUptoRow : OpenClaim := { program := "ytnnoeeakkpaocaa", sum := "095b6aa992beaf16217e3c4d79ae111e2d1b5f7b93edd299fbb6911426504e63", func := "farhail/farhaillaw.CommandSteps", spec := "commandSteps", unfollowed := true, recurses := true, apart := false, narrowed := true }
def CommandStepsUptoSaid : Prop := commandStepsUptoRow.holds Try.pinned (OpenSpec.upto commandStepsSpec)

/-- 'farhaillaw.CommandFrees', WHERE WHAT IT READS IS OF BULK AT MOST 1048576: true; the input reads as it did. -/
def commandFreesUptoRow : OpenClaim := { program := "ytnnoeeakkpaocaa", sum := "095b6aa992beaf16217e3c4d79ae111e2d1b5f7b93edd299fbb6911426504e63", func := "farhail/farhaillaw.CommandFrees", spec := "commandFrees", unfollowed := true, recurses := true, apart := false, narrowed := true }
def CommandFreesUptoSaid : Prop := commandFreesUptoRow.holds Try.pinned (OpenSpec.upto commandFreesSpec)

/-- 'farhailkeep.CommandOnce', WHERE WHAT IT READS IS OF BULK AT MOST 1048576: true; the input reads as it did. -/
def commandOnceUptoRow : OpenClaim := { program := "ytnnoeeakkpaocaa", sum := "095b6aa992beaf16217e3c4d79ae111e2d1b5f7b93edd299fbb6911426504e63", func := "farhail/farhailkeep.CommandOnce", spec := "commandOnce", unfollowed := true, recurses := true, apart := false, narrowed := true }
def CommandOnceUptoSaid : Prop := commandOnceUptoRow.holds Try.pinned (OpenSpec.upto commandOnceSpec)

/-- 'farhailkeep.CommandShuts', WHERE WHAT IT READS IS OF BULK AT MOST 1048576: true; the input reads as it did. -/
def commandShutsUptoRow : OpenClaim := { program := "ytnnoeeakkpaocaa", sum := "095b6aa992beaf16217e3c4d79ae111e2d1b5f7b93edd299fbb6911426504e63", func := "farhail/farhailkeep.CommandShuts", spec := "commandShuts", unfollowed := true, recurses := true, apart := false, narrowed := true }
def CommandShutsUptoSaid : Prop := commandShutsUptoRow.holds Try.pinned (OpenSpec.upto commandShutsSpec)

end Rows
end Go.Proofs.Ytnnoeeakkpaocaa
