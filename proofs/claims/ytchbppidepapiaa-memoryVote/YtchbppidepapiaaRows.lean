/-
  No cell of these rows narrows 'for every input' (looked for: loops, veiled, ifaces, maps, wideKeys, modest, calm, conditions, laid).
  DERIVED. THE GIVEN ROWS OF THIS SEAT. 4 by the template 'for every input the law returns true; each argument reads behind the call as it read before'; 0 by the template 'total and deterministic' (their statements: YtchbppidepapiaaTotals.lean).
  GIVEN WITH THE SEED: the statements are not yours to turn. If you find one false, say at which input.
  Laid BY PROGRAM, IN A SANDBOX (cutbox-rows.mjs): the forced cells as the released guide's own fill.sh prints them over the translation 676f6aad8f1dd339… (all of the seat's roots in one cut). By AI agents, Wed Nov 11 2026. No macro, syntax, notation, axiom, sorry.
-/
import Derived.Test.YtchbppidepapiaaChecked
import GoSem.Claim
import GoSem.ClaimJoined
import GoSem.ClaimMapViews
import Derived.JoinedTies
import Derived.KernelRfl
namespace Go.Proofs.Ytchbppidepapiaa
/- THE CELL 'sum', in the pinned program and in every row, IS THE sha256 OF THE DUMP (.gsa) THAT YtchbppidepapiaaProg.lean LOADS. Nothing in Lean hashes anything: it is a label: what it is worth is what the hold of that sum in a sandbox is worth. -/
noncomputable def Try.pinned : Pinned := { name := "ytchbppidepapiaa", sum := "676f6aad8f1dd3399f6951f7a988d5b462fe1446f5a012db35b1c454d56b8707", checked := Try.checked }
namespace Rows
def none {H : Type} : Left H := { results := [], args := [] }

/-- 'farhaillaw.MemoryCodes': WHATEVER THE INPUT: true; the input reads as it did. -/
def memoryCodesSpec : ChangeSpec := { name := "memoryCodes", fn := fun _ => fun
  | [d1, d2] => { results := [.lit (.bool true)], args := [d1, d2] }
  | _ => none }
def memoryCodesRow : OpenClaim := { program := "ytchbppidepapiaa", sum := "676f6aad8f1dd3399f6951f7a988d5b462fe1446f5a012db35b1c454d56b8707", func := "farhail/farhaillaw.MemoryCodes", spec := "memoryCodes", apart := false }
def MemoryCodesSaid : Prop := memoryCodesRow.holds Try.pinned (OpenSpec.ofChange memoryCodesSpec)

/-- ITS FALSE NEIGHBOUR: 'it returns false'. Refute it at one input. -/
def memoryCodesWrong : ChangeSpec := { name := "memoryCodes", fn := fun _ => fun
  | [d1, d2] => { results := [.lit (.bool false)], args := [d1, d2] }
  | _ => none }
def MemoryCodesWrongFalsely : Prop := memoryCodesRow.holds Try.pinned (OpenSpec.ofChange memoryCodesWrong)

/-- 'farhaillaw.MemoryVotes': WHATEVER THE INPUT: true; the input reads as it did. -/
def memoryVotesSpec : ChangeSpec := { name := "memoryVotes", fn := fun _ => fun
  | [d1, d2, d3] => { results := [.lit (.bool true)], args := [d1, d2, d3] }
  | _ => none }
def memoryVotesRow : OpenClaim := { program := "ytchbppidepapiaa", sum := "676f6aad8f1dd3399f6951f7a988d5b462fe1446f5a012db35b1c454d56b8707", func := "farhail/farhaillaw.MemoryVotes", spec := "memoryVotes", apart := false }
def MemoryVotesSaid : Prop := memoryVotesRow.holds Try.pinned (OpenSpec.ofChange memoryVotesSpec)

/-- ITS FALSE NEIGHBOUR: 'it returns false'. Refute it at one input. -/
def memoryVotesWrong : ChangeSpec := { name := "memoryVotes", fn := fun _ => fun
  | [d1, d2, d3] => { results := [.lit (.bool false)], args := [d1, d2, d3] }
  | _ => none }
def MemoryVotesWrongFalsely : Prop := memoryVotesRow.holds Try.pinned (OpenSpec.ofChange memoryVotesWrong)

/-- 'farhailkeep.MemoryTwo': WHATEVER THE INPUT: true; the input reads as it did. -/
def memoryTwoSpec : ChangeSpec := { name := "memoryTwo", fn := fun _ => fun
  | [d1, d2, d3] => { results := [.lit (.bool true)], args := [d1, d2, d3] }
  | _ => none }
def memoryTwoRow : OpenClaim := { program := "ytchbppidepapiaa", sum := "676f6aad8f1dd3399f6951f7a988d5b462fe1446f5a012db35b1c454d56b8707", func := "farhail/farhailkeep.MemoryTwo", spec := "memoryTwo", apart := false }
def MemoryTwoSaid : Prop := memoryTwoRow.holds Try.pinned (OpenSpec.ofChange memoryTwoSpec)

/-- ITS FALSE NEIGHBOUR: 'it returns false'. Refute it at one input. -/
def memoryTwoWrong : ChangeSpec := { name := "memoryTwo", fn := fun _ => fun
  | [d1, d2, d3] => { results := [.lit (.bool false)], args := [d1, d2, d3] }
  | _ => none }
def MemoryTwoWrongFalsely : Prop := memoryTwoRow.holds Try.pinned (OpenSpec.ofChange memoryTwoWrong)

/-- 'farhailkeep.MemoryVote': WHATEVER THE INPUT: true; the input reads as it did. -/
def memoryVoteSpec : ChangeSpec := { name := "memoryVote", fn := fun _ => fun
  | [d1, d2] => { results := [.lit (.bool true)], args := [d1, d2] }
  | _ => none }
def memoryVoteRow : OpenClaim := { program := "ytchbppidepapiaa", sum := "676f6aad8f1dd3399f6951f7a988d5b462fe1446f5a012db35b1c454d56b8707", func := "farhail/farhailkeep.MemoryVote", spec := "memoryVote", apart := false }
def MemoryVoteSaid : Prop := memoryVoteRow.holds Try.pinned (OpenSpec.ofChange memoryVoteSpec)

/-- ITS FALSE NEIGHBOUR: 'it returns false'. Refute it at one input. -/
def memoryVoteWrong : ChangeSpec := { name := "memoryVote", fn := fun _ => fun
  | [d1, d2] => { results := [.lit (.bool false)], args := [d1, d2] }
  | _ => none }
def MemoryVoteWrongFalsely : Prop := memoryVoteRow.holds Try.pinned (OpenSpec.ofChange memoryVoteWrong)

/- THE SECOND FORM. 'bulk': how many values and letters a reading holds, each counted each time it is reached (what is shared counts as often as it is met; a slice's spare places count too). A statement '..UptoSaid' is the law's where the arguments, and the package variables that the reading takes, are together of bulk at most 1048576: NARROWER than '..Said'. Prove '..Said' where nothing that the law and all that it calls make is longer than what came in: it says more and counts as full. Else prove '..UptoSaid'. A law counts once. -/
mutual
def uptoBulk {H : Type} : DataW H → Nat
  | .lit (.string bytes) => bytes.length + 1
  | .lit _ => 1
  | .nil => 1
  | .ptr d => uptoBulk d + 1
  | .slice elems spare => uptoBulkAll elems + uptoBulkAll spare + 1
  | .agg parts => uptoBulkAll parts + 1
  | .iface _ d => uptoBulk d + 1
  | .map entries => uptoBulkEntries entries + 1
  | .held _ => 1
def uptoBulkAll {H : Type} : List (DataW H) → Nat
  | [] => 0
  | d :: r => uptoBulk d + uptoBulkAll r
def uptoBulkEntries {H : Type} : List (Lit × DataW H) → Nat
  | [] => 0
  | x :: r => uptoBulkEntry x + uptoBulkEntries r
def uptoBulkEntry {H : Type} : Lit × DataW H → Nat
  | (.string bytes, d) => bytes.length + uptoBulk d + 1
  | (_, d) => uptoBulk d + 1
 end
def uptoSmall : (H : Type) → List (DataW H) → Bool := fun _ ds => decide (uptoBulkAll ds ≤ 1048576)
def OpenSpec.upto (s : _root_.Go.ChangeSpec) : _root_.Go.OpenSpec := { _root_.Go.OpenSpec.ofChange s with cond := some uptoSmall }

/-- 'farhaillaw.MemoryCodes', WHERE WHAT IT READS IS OF BULK AT MOST 1048576: true; the input reads as it did. -/
def memoryCodesUptoRow : OpenClaim := { program := "ytchbppidepapiaa", sum := "676f6aad8f1dd3399f6951f7a988d5b462fe1446f5a012db35b1c454d56b8707", func := "farhail/farhaillaw.MemoryCodes", spec := "memoryCodes", apart := false, narrowed := true }
def MemoryCodesUptoSaid : Prop := memoryCodesUptoRow.holds Try.pinned (OpenSpec.upto memoryCodesSpec)

/-- 'farhaillaw.MemoryVotes', WHERE WHAT IT READS IS OF BULK AT MOST 1048576: true; the input reads as it did. -/
def memoryVotesUptoRow : OpenClaim := { program := "ytchbppidepapiaa", sum := "676f6aad8f1dd3399f6951f7a988d5b462fe1446f5a012db35b1c454d56b8707", func := "farhail/farhaillaw.MemoryVotes", spec := "memoryVotes", apart := false, narrowed := true }
def MemoryVotesUptoSaid : Prop := memoryVotesUptoRow.holds Try.pinned (OpenSpec.upto memoryVotesSpec)

/-- 'farhailkeep.MemoryTwo', WHERE WHAT IT READS IS OF BULK AT MOST 1048576: true; the input reads as it did. -/
def memoryTwoUptoRow : OpenClaim := { program := "ytchbppidepapiaa", sum := "676f6aad8f1dd3399f6951f7a988d5b462fe1446f5a012db35b1c454d56b8707", func := "farhail/farhailkeep.MemoryTwo", spec := "memoryTwo", apart := false, narrowed := true }
def MemoryTwoUptoSaid : Prop := memoryTwoUptoRow.holds Try.pinned (OpenSpec.upto memoryTwoSpec)

/-- 'farhailkeep.MemoryVote', WHERE WHAT IT READS IS OF BULK AT MOST 1048576: true; the input reads as it did. -/
def memoryVoteUptoRow : OpenClaim := { program := "ytchbppidepapiaa", sum := "676f6aad8f1dd3399f6951f7a988d5b462fe1446f5a012db35b1c454d56b8707", func := "farhail/farhailkeep.MemoryVote", spec := "memoryVote", apart := false, narrowed := true }
def MemoryVoteUptoSaid : Prop := memoryVoteUptoRow.holds Try.pinned (OpenSpec.upto memoryVoteSpec)

end Rows
end Go.Proofs.Ytchbppidepapiaa
