/-
  No cell of these rows narrows 'for every input' (looked for: loops, veiled, ifaces, maps, wideKeys, modest, calm, conditions, laid).
  DERIVED. THE GIVEN ROWS OF THIS SEAT. 2 by the template 'for every input the law returns true; each argument reads behind the call as it read before'; 0 by the template 'total and deterministic' (their statements: YtnjdbbjhplebhaaTotals.lean).
  GIVEN WITH THE SEED: the statements are not yours to turn. If you find one false, say at which input.
  Laid BY PROGRAM, IN A SANDBOX (cutbox-rows.mjs): the forced cells as the released guide's own fill.sh prints them over the translation 590b5e7680d07b30… (all of the seat's roots in one cut). By AI agents, Wed Nov 11 2026. No macro, syntax, notation, axiom, sorry.
-/
import Derived.Test.YtnjdbbjhplebhaaChecked
import GoSem.Claim
import GoSem.ClaimJoined
import GoSem.ClaimMapViews
import Derived.JoinedTies
import Derived.KernelRfl
namespace Go.Proofs.Ytnjdbbjhplebhaa
/- THE CELL 'sum', in the pinned program and in every row, IS THE sha256 OF THE DUMP (.gsa) THAT YtnjdbbjhplebhaaProg.lean LOADS. Nothing in Lean hashes anything: it is a label: what it is worth is what the hold of that sum in a sandbox is worth. -/
noncomputable def Try.pinned : Pinned := { name := "ytnjdbbjhplebhaa", sum := "590b5e7680d07b303f80859b63b13469efd4ee76c9c71ad4fa767914cd6371de", checked := Try.checked }
namespace Rows
def none {H : Type} : Left H := { results := [], args := [] }

/-- 'farhaillaw.PassesShared': WHATEVER THE INPUT: true; the input reads as it did. -/
def passesSharedSpec : ChangeSpec := { name := "passesShared", fn := fun _ => fun
  | [d1, d2] => { results := [.lit (.bool true)], args := [d1, d2] }
  | _ => none }
def passesSharedRow : OpenClaim := { program := "ytnjdbbjhplebhaa", sum := "590b5e7680d07b303f80859b63b13469efd4ee76c9c71ad4fa767914cd6371de", func := "farhail/farhaillaw.PassesShared", spec := "passesShared", unfollowed := true, recurses := true, apart := false }
def PassesSharedSaid : Prop := passesSharedRow.holds Try.pinned (OpenSpec.ofChange passesSharedSpec)

/-- ITS FALSE NEIGHBOUR: 'it returns false'. Refute it at one input. -/
def passesSharedWrong : ChangeSpec := { name := "passesShared", fn := fun _ => fun
  | [d1, d2] => { results := [.lit (.bool false)], args := [d1, d2] }
  | _ => none }
def PassesSharedWrongFalsely : Prop := passesSharedRow.holds Try.pinned (OpenSpec.ofChange passesSharedWrong)

/-- 'farhailkeep.PassesDue': WHATEVER THE INPUT: true; the input reads as it did. -/
def passesDueSpec : ChangeSpec := { name := "passesDue", fn := fun _ => fun
  | [d1, d2, d3] => { results := [.lit (.bool true)], args := [d1, d2, d3] }
  | _ => none }
def passesDueRow : OpenClaim := { program := "ytnjdbbjhplebhaa", sum := "590b5e7680d07b303f80859b63b13469efd4ee76c9c71ad4fa767914cd6371de", func := "farhail/farhailkeep.PassesDue", spec := "passesDue", unfollowed := true, recurses := true, apart := false }
def PassesDueSaid : Prop := passesDueRow.holds Try.pinned (OpenSpec.ofChange passesDueSpec)

/-- ITS FALSE NEIGHBOUR: 'it returns false'. Refute it at one input. -/
def passesDueWrong : ChangeSpec := { name := "passesDue", fn := fun _ => fun
  | [d1, d2, d3] => { results := [.lit (.bool false)], args := [d1, d2, d3] }
  | _ => none }
def PassesDueWrongFalsely : Prop := passesDueRow.holds Try.pinned (OpenSpec.ofChange passesDueWrong)

/- THE SECOND FORM. 'bulk': how many values and letters a reading holds, each counted each time it is reached (what is shared counts as often as it is met; a slice's spare places count too). A statement '..UptoSaid' is the law's where the arguments, and the package variables that the reading takes, are together of bulk at most 1048576: NARROWER than '..Said'. Prove '..Said' where nothing that the law and all that it calls make is longer than what came in: it says more and counts as full. Else prove '..UptoSaid'. A law counts once. -/
mutual
def uptoBulk {H : Type} : DataW H → Nat
  | .lit (.string bytes) => bytes.length + 1
  | .lit _ => 1
  | .nil => 1
  | .ptr d => uptoBulk d + 1
  | .slice elems spare => uptoBulkAll elems + uptoBulkAll spare + 1
  | .agg parts => uptoBulkAll parts + 1
  | .iface _ d => uptoBulk d + 1
  | .map entries => uptoBulkEntries entries + 1
  | .held _ => 1
def uptoBulkAll {H : Type} : List (DataW H) → Nat
  | [] => 0
  | d :: r => uptoBulk d + uptoBulkAll r
def uptoBulkEntries {H : Type} : List (Lit × DataW H) → Nat
  | [] => 0
  | x :: r => uptoBulkEntry x + uptoBulkEntries r
def uptoBulkEntry {H : Type} : Lit × DataW H → Nat
  | (.string bytes, d) => bytes.length + uptoBulk d + 1
  | (_, d) => uptoBulk d + 1
 end
def uptoSmall : (H : Type) → List (DataW H) → Bool := fun _ ds => decide (uptoBulkAll ds ≤ 1048576)
def OpenSpec.upto (s : _root_.Go.ChangeSpec) : _root_.Go.OpenSpec := { _root_.Go.OpenSpec.ofChange s with cond := some uptoSmall }

/-- 'farhaillaw.PassesShared', WHERE WHAT IT READS IS OF BULK AT MOST 1048576: true; the input reads as it did. -/
def passesSharedUptoRow : OpenClaim := { program := "ytnjdbbjhplebhaa", sum := "590b5e7680d07b303f80859b63b13469efd4ee76c9c71ad4fa767914cd6371de", func := "farhail/farhaillaw.PassesShared", spec := "passesShared", unfollowed := true, recurses := true, apart := false, narrowed := true }
def PassesSharedUptoSaid : Prop := passesSharedUptoRow.holds Try.pinned (OpenSpec.upto passesSharedSpec)

/-- 'farhailkeep.PassesDue', WHERE WHAT IT READS IS OF BULK AT MOST 1048576: true; the input reads as it did. -/
def passesDueUptoRow : OpenClaim := { program := "ytnjdbbjhplebhaa", sum := "590b5e7680d07b303f80859b63b13469efd4ee76c9c71ad4fa767914cd6371de", func := "farhail/farhailkeep.PassesDue", spec := "passesDue", unfollowed := true, recurses := true, apart := false, narrowed := true }
def PassesDueUptoSaid : Prop := passesDueUptoRow.holds Try.pinned (OpenSpec.upto passesDueSpec)

end Rows
end Go.Proofs.Ytnjdbbjhplebhaa
