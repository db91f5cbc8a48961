/-
  No cell of these rows narrows 'for every input' (looked for: loops, veiled, ifaces, maps, wideKeys, modest, calm, conditions, laid).
  DERIVED. THE GIVEN ROWS OF THIS SEAT. 6 by the template 'for every input the law returns true; each argument reads behind the call as it read before'; 0 by the template 'total and deterministic' (their statements: YtbgbohddkfaacaaTotals.lean).
  GIVEN WITH THE SEED: the statements are not yours to turn. If you find one false, say at which input.
  Laid BY PROGRAM, IN A SANDBOX (cutbox-rows.mjs): the forced cells as the released guide's own fill.sh prints them over the translation 43d7741a4b0be7de… (all of the seat's roots in one cut). By AI agents, Wed Nov 11 2026. No macro, syntax, notation, axiom, sorry.
-/
import Derived.Test.YtbgbohddkfaacaaChecked
import GoSem.Claim
import GoSem.ClaimJoined
import GoSem.ClaimMapViews
import Derived.JoinedTies
import Derived.KernelRfl
namespace Go.Proofs.Ytbgbohddkfaacaa
/- THE CELL 'sum', in the pinned program and in every row, IS THE sha256 OF THE DUMP (.gsa) THAT YtbgbohddkfaacaaProg.lean LOADS. Nothing in Lean hashes anything: it is a label: what it is worth is what the hold of that sum in a sandbox is worth. -/
noncomputable def Try.pinned : Pinned := { name := "ytbgbohddkfaacaa", sum := "43d7741a4b0be7def7385ccd684db1204afa762860b808f75e17bd4409960027", checked := Try.checked }
namespace Rows
def none {H : Type} : Left H := { results := [], args := [] }

/-- 'farhaillaw.SolomonEncodes': WHATEVER THE INPUT: true; the input reads as it did. -/
def solomonEncodesSpec : ChangeSpec := { name := "solomonEncodes", fn := fun _ => fun
  | [d1, d2] => { results := [.lit (.bool true)], args := [d1, d2] }
  | _ => none }
def solomonEncodesRow : OpenClaim := { program := "ytbgbohddkfaacaa", sum := "43d7741a4b0be7def7385ccd684db1204afa762860b808f75e17bd4409960027", func := "farhail/farhaillaw.SolomonEncodes", spec := "solomonEncodes", apart := false }
def SolomonEncodesSaid : Prop := solomonEncodesRow.holds Try.pinned (OpenSpec.ofChange solomonEncodesSpec)

/-- ITS FALSE NEIGHBOUR: 'it returns false'. Refute it at one input. -/
def solomonEncodesWrong : ChangeSpec := { name := "solomonEncodes", fn := fun _ => fun
  | [d1, d2] => { results := [.lit (.bool false)], args := [d1, d2] }
  | _ => none }
def SolomonEncodesWrongFalsely : Prop := solomonEncodesRow.holds Try.pinned (OpenSpec.ofChange solomonEncodesWrong)

/-- 'farhaillaw.SolomonWeaves': WHATEVER THE INPUT: true; the input reads as it did. -/
def solomonWeavesSpec : ChangeSpec := { name := "solomonWeaves", fn := fun _ => fun
  | [d1, d2, d3] => { results := [.lit (.bool true)], args := [d1, d2, d3] }
  | _ => none }
def solomonWeavesRow : OpenClaim := { program := "ytbgbohddkfaacaa", sum := "43d7741a4b0be7def7385ccd684db1204afa762860b808f75e17bd4409960027", func := "farhail/farhaillaw.SolomonWeaves", spec := "solomonWeaves", apart := false }
def SolomonWeavesSaid : Prop := solomonWeavesRow.holds Try.pinned (OpenSpec.ofChange solomonWeavesSpec)

/-- ITS FALSE NEIGHBOUR: 'it returns false'. Refute it at one input. -/
def solomonWeavesWrong : ChangeSpec := { name := "solomonWeaves", fn := fun _ => fun
  | [d1, d2, d3] => { results := [.lit (.bool false)], args := [d1, d2, d3] }
  | _ => none }
def SolomonWeavesWrongFalsely : Prop := solomonWeavesRow.holds Try.pinned (OpenSpec.ofChange solomonWeavesWrong)

/-- 'farhaillaw.ConvolSpreads': WHATEVER THE INPUT: true; the input reads as it did. -/
def convolSpreadsSpec : ChangeSpec := { name := "convolSpreads", fn := fun _ => fun
  | [d1, d2] => { results := [.lit (.bool true)], args := [d1, d2] }
  | _ => none }
def convolSpreadsRow : OpenClaim := { program := "ytbgbohddkfaacaa", sum := "43d7741a4b0be7def7385ccd684db1204afa762860b808f75e17bd4409960027", func := "farhail/farhaillaw.ConvolSpreads", spec := "convolSpreads", apart := false }
def ConvolSpreadsSaid : Prop := convolSpreadsRow.holds Try.pinned (OpenSpec.ofChange convolSpreadsSpec)

/-- ITS FALSE NEIGHBOUR: 'it returns false'. Refute it at one input. -/
def convolSpreadsWrong : ChangeSpec := { name := "convolSpreads", fn := fun _ => fun
  | [d1, d2] => { results := [.lit (.bool false)], args := [d1, d2] }
  | _ => none }
def ConvolSpreadsWrongFalsely : Prop := convolSpreadsRow.holds Try.pinned (OpenSpec.ofChange convolSpreadsWrong)

/-- 'farhaillaw.ConvolGathers': WHATEVER THE INPUT: true; the input reads as it did. -/
def convolGathersSpec : ChangeSpec := { name := "convolGathers", fn := fun _ => fun
  | [d1, d2, d3] => { results := [.lit (.bool true)], args := [d1, d2, d3] }
  | _ => none }
def convolGathersRow : OpenClaim := { program := "ytbgbohddkfaacaa", sum := "43d7741a4b0be7def7385ccd684db1204afa762860b808f75e17bd4409960027", func := "farhail/farhaillaw.ConvolGathers", spec := "convolGathers", unfollowed := true, recurses := true, apart := false }
def ConvolGathersSaid : Prop := convolGathersRow.holds Try.pinned (OpenSpec.ofChange convolGathersSpec)

/-- ITS FALSE NEIGHBOUR: 'it returns false'. Refute it at one input. -/
def convolGathersWrong : ChangeSpec := { name := "convolGathers", fn := fun _ => fun
  | [d1, d2, d3] => { results := [.lit (.bool false)], args := [d1, d2, d3] }
  | _ => none }
def ConvolGathersWrongFalsely : Prop := convolGathersRow.holds Try.pinned (OpenSpec.ofChange convolGathersWrong)

/-- 'farhailkeep.ConvolBest': WHATEVER THE INPUT: true; the input reads as it did. -/
def convolBestSpec : ChangeSpec := { name := "convolBest", fn := fun _ => fun
  | [d1, d2, d3] => { results := [.lit (.bool true)], args := [d1, d2, d3] }
  | _ => none }
def convolBestRow : OpenClaim := { program := "ytbgbohddkfaacaa", sum := "43d7741a4b0be7def7385ccd684db1204afa762860b808f75e17bd4409960027", func := "farhail/farhailkeep.ConvolBest", spec := "convolBest", unfollowed := true, recurses := true, apart := false }
def ConvolBestSaid : Prop := convolBestRow.holds Try.pinned (OpenSpec.ofChange convolBestSpec)

/-- ITS FALSE NEIGHBOUR: 'it returns false'. Refute it at one input. -/
def convolBestWrong : ChangeSpec := { name := "convolBest", fn := fun _ => fun
  | [d1, d2, d3] => { results := [.lit (.bool false)], args := [d1, d2, d3] }
  | _ => none }
def ConvolBestWrongFalsely : Prop := convolBestRow.holds Try.pinned (OpenSpec.ofChange convolBestWrong)

/-- 'farhailkeep.ConvolMends': WHATEVER THE INPUT: true; the input reads as it did. -/
def convolMendsSpec : ChangeSpec := { name := "convolMends", fn := fun _ => fun
  | [d1, d2, d3] => { results := [.lit (.bool true)], args := [d1, d2, d3] }
  | _ => none }
def convolMendsRow : OpenClaim := { program := "ytbgbohddkfaacaa", sum := "43d7741a4b0be7def7385ccd684db1204afa762860b808f75e17bd4409960027", func := "farhail/farhailkeep.ConvolMends", spec := "convolMends", unfollowed := true, recurses := true, apart := false }
def ConvolMendsSaid : Prop := convolMendsRow.holds Try.pinned (OpenSpec.ofChange convolMendsSpec)

/-- ITS FALSE NEIGHBOUR: 'it returns false'. Refute it at one input. -/
def convolMendsWrong : ChangeSpec := { name := "convolMends", fn := fun _ => fun
  | [d1, d2, d3] => { results := [.lit (.bool false)], args := [d1, d2, d3] }
  | _ => none }
def ConvolMendsWrongFalsely : Prop := convolMendsRow.holds Try.pinned (OpenSpec.ofChange convolMendsWrong)

/- THE SECOND FORM. 'bulk': how many values and letters a reading holds, each counted each time it is reached (what is shared counts as often as it is met; a slice's spare places count too). A statement '..UptoSaid' is the law's where the arguments, and the package variables that the reading takes, are together of bulk at most 1048576: NARROWER than '..Said'. Prove '..Said' where nothing that the law and all that it calls make is longer than what came in: it says more and counts as full. Else prove '..UptoSaid'. A law counts once. -/
mutual
def uptoBulk {H : Type} : DataW H → Nat
  | .lit (.string bytes) => bytes.length + 1
  | .lit _ => 1
  | .nil => 1
  | .ptr d => uptoBulk d + 1
  | .slice elems spare => uptoBulkAll elems + uptoBulkAll spare + 1
  | .agg parts => uptoBulkAll parts + 1
  | .iface _ d => uptoBulk d + 1
  | .map entries => uptoBulkEntries entries + 1
  | .held _ => 1
def uptoBulkAll {H : Type} : List (DataW H) → Nat
  | [] => 0
  | d :: r => uptoBulk d + uptoBulkAll r
def uptoBulkEntries {H : Type} : List (Lit × DataW H) → Nat
  | [] => 0
  | x :: r => uptoBulkEntry x + uptoBulkEntries r
def uptoBulkEntry {H : Type} : Lit × DataW H → Nat
  | (.string bytes, d) => bytes.length + uptoBulk d + 1
  | (_, d) => uptoBulk d + 1
 end
def uptoSmall : (H : Type) → List (DataW H) → Bool := fun _ ds => decide (uptoBulkAll ds ≤ 1048576)
def OpenSpec.upto (s : _root_.Go.ChangeSpec) : _root_.Go.OpenSpec := { _root_.Go.OpenSpec.ofChange s with cond := some uptoSmall }

/-- 'farhaillaw.SolomonEncodes', WHERE WHAT IT READS IS OF BULK AT MOST 1048576: true; the input reads as it did. -/
def solomonEncodesUptoRow : OpenClaim := { program := "ytbgbohddkfaacaa", sum := "43d7741a4b0be7def7385ccd684db1204afa762860b808f75e17bd4409960027", func := "farhail/farhaillaw.SolomonEncodes", spec := "solomonEncodes", apart := false, narrowed := true }
def SolomonEncodesUptoSaid : Prop := solomonEncodesUptoRow.holds Try.pinned (OpenSpec.upto solomonEncodesSpec)

/-- 'farhaillaw.SolomonWeaves', WHERE WHAT IT READS IS OF BULK AT MOST 1048576: true; the input reads as it did. -/
def solomonWeavesUptoRow : OpenClaim := { program := "ytbgbohddkfaacaa", sum := "43d7741a4b0be7def7385ccd684db1204afa762860b808f75e17bd4409960027", func := "farhail/farhaillaw.SolomonWeaves", spec := "solomonWeaves", apart := false, narrowed := true }
def SolomonWeavesUptoSaid : Prop := solomonWeavesUptoRow.holds Try.pinned (OpenSpec.upto solomonWeavesSpec)

/-- 'farhaillaw.ConvolSpreads', WHERE WHAT IT READS IS OF BULK AT MOST 1048576: true; the input reads as it did. -/
def convolSpreadsUptoRow : OpenClaim := { program := "ytbgbohddkfaacaa", sum := "43d7741a4b0be7def7385ccd684db1204afa762860b808f75e17bd4409960027", func := "farhail/farhaillaw.ConvolSpreads", spec := "convolSpreads", apart := false, narrowed := true }
def ConvolSpreadsUptoSaid : Prop := convolSpreadsUptoRow.holds Try.pinned (OpenSpec.upto convolSpreadsSpec)

/-- 'farhaillaw.ConvolGathers', WHERE WHAT IT READS IS OF BULK AT MOST 1048576: true; the input reads as it did. -/
def convolGathersUptoRow : OpenClaim := { program := "ytbgbohddkfaacaa", sum := "43d7741a4b0be7def7385ccd684db1204afa762860b808f75e17bd4409960027", func := "farhail/farhaillaw.ConvolGathers", spec := "convolGathers", unfollowed := true, recurses := true, apart := false, narrowed := true }
def ConvolGathersUptoSaid : Prop := convolGathersUptoRow.holds Try.pinned (OpenSpec.upto convolGathersSpec)

/-- 'farhailkeep.ConvolBest', WHERE WHAT IT READS IS OF BULK AT MOST 1048576: true; the input reads as it did. -/
def convolBestUptoRow : OpenClaim := { program := "ytbgbohddkfaacaa", sum := "43d7741a4b0be7def7385ccd684db1204afa762860b808f75e17bd4409960027", func := "farhail/farhailkeep.ConvolBest", spec := "convolBest", unfollowed := true, recurses := true, apart := false, narrowed := true }
def ConvolBestUptoSaid : Prop := convolBestUptoRow.holds Try.pinned (OpenSpec.upto convolBestSpec)

/-- 'farhailkeep.ConvolMends', WHERE WHAT IT READS IS OF BULK AT MOST 1048576: true; the input reads as it did. -/
def convolMendsUptoRow : OpenClaim := { program := "ytbgbohddkfaacaa", sum := "43d7741a4b0be7def7385ccd684db1204afa762860b808f75e17bd4409960027", func := "farhail/farhailkeep.ConvolMends", spec := "convolMends", unfollowed := true, recurses := true, apart := false, narrowed := true }
def ConvolMendsUptoSaid : Prop := convolMendsUptoRow.holds Try.pinned (OpenSpec.upto convolMendsSpec)

end Rows
end Go.Proofs.Ytbgbohddkfaacaa
