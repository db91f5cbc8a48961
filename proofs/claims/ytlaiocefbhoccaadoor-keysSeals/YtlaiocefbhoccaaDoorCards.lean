/-
  DERIVED. GIVEN WITH THE SEED: THE CARDS: each row of YtlaiocefbhoccaaDoorRows.lean that lists a variable, with what it lists TIED to the program's text (the seventh form; the later family's looks); each row that meets fmt, with fmt's text TOLD by the authors' own Lean function (tested against real Go, not proved from fmt's source: count such statements apart). THE CARD IS WHAT COUNTS. Prove the row's statement (the work); the ties are given (YtlaiocefbhoccaaDoorTie.lean); close each card by the builder's one call (the guide's Derived/Test/ToyasCard.lean, 'card_holds'). Laid BY PROGRAM, IN A SANDBOX (cutbox-door.mjs). By AI agents, Wed Nov 11 2026. No macro, syntax, notation, axiom, sorry.
-/
import Derived.Test.YtlaiocefbhoccaaDoorRows
import GoSem.ClaimSeven
namespace Go.Proofs.YtlaiocefbhoccaaDoor
namespace Rows

/-- THE TIED CARD OF 'farhaillaw.KeysBlocks'. -/
def keysBlocksCard : Claim7 := { stood := { row := keysBlocksRow, standIns := [], harness := (true, "62ed75ef6ea4baa36dd0355e3f3c2dd1cdeceb39d0451246a2b7d4aaf72d1032"), looks := false }, kinds := [], alts := [], laidByText := true, laidKinds := [.data], laidTests := true, laidLooks := .later }
def KeysBlocksCardSaid : Prop := Claim7.holds Tryd.pinned (.plain (OpenSpec.ofChange keysBlocksSpec)) keysBlocksCard

/-- THE TIED CARD OF 'farhaillaw.KeysTags'. -/
def keysTagsCard : Claim7 := { stood := { row := keysTagsRow, standIns := [], harness := (true, "62ed75ef6ea4baa36dd0355e3f3c2dd1cdeceb39d0451246a2b7d4aaf72d1032"), looks := false }, kinds := [], alts := [], laidByText := true, laidKinds := [.data], laidTests := true, laidLooks := .later }
def KeysTagsCardSaid : Prop := Claim7.holds Tryd.pinned (.plain (OpenSpec.ofChange keysTagsSpec)) keysTagsCard

/-- THE TIED CARD OF 'farhaillaw.KeysSeals'. -/
def keysSealsCard : Claim7 := { stood := { row := keysSealsRow, standIns := [], harness := (true, "62ed75ef6ea4baa36dd0355e3f3c2dd1cdeceb39d0451246a2b7d4aaf72d1032"), looks := false }, kinds := [], alts := [], laidByText := true, laidKinds := [.data], laidTests := true, laidLooks := .later }
def KeysSealsCardSaid : Prop := Claim7.holds Tryd.pinned (.plain (OpenSpec.ofChange keysSealsSpec)) keysSealsCard

/-- THE TIED CARD OF 'farhaillaw.KeysOpens'. -/
def keysOpensCard : Claim7 := { stood := { row := keysOpensRow, standIns := [], harness := (true, "62ed75ef6ea4baa36dd0355e3f3c2dd1cdeceb39d0451246a2b7d4aaf72d1032"), looks := false }, kinds := [], alts := [], laidByText := true, laidKinds := [.data], laidTests := true, laidLooks := .later }
def KeysOpensCardSaid : Prop := Claim7.holds Tryd.pinned (.plain (OpenSpec.ofChange keysOpensSpec)) keysOpensCard

/-- THE TIED CARD OF 'farhailkeep.KeysBack'. -/
def keysBackCard : Claim7 := { stood := { row := keysBackRow, standIns := [], harness := (true, "62ed75ef6ea4baa36dd0355e3f3c2dd1cdeceb39d0451246a2b7d4aaf72d1032"), looks := false }, kinds := [], alts := [], laidByText := true, laidKinds := [.data], laidTests := true, laidLooks := .later }
def KeysBackCardSaid : Prop := Claim7.holds Tryd.pinned (.plain (OpenSpec.ofChange keysBackSpec)) keysBackCard

/-- THE TIED CARD OF 'farhailkeep.KeysOnce'. -/
def keysOnceCard : Claim7 := { stood := { row := keysOnceRow, standIns := [], harness := (true, "62ed75ef6ea4baa36dd0355e3f3c2dd1cdeceb39d0451246a2b7d4aaf72d1032"), looks := false }, kinds := [], alts := [], laidByText := true, laidKinds := [.data], laidTests := true, laidLooks := .later }
def KeysOnceCardSaid : Prop := Claim7.holds Tryd.pinned (.plain (OpenSpec.ofChange keysOnceSpec)) keysOnceCard

/-- THE SECOND FORM's CARD OF 'farhaillaw.KeysBlocks'. -/
def keysBlocksUptoCard : Claim7 := { stood := { row := keysBlocksUptoRow, standIns := [], harness := (true, "62ed75ef6ea4baa36dd0355e3f3c2dd1cdeceb39d0451246a2b7d4aaf72d1032"), looks := false }, kinds := [], alts := [], laidByText := true, laidKinds := [.data], laidTests := true, laidLooks := .later }
def KeysBlocksUptoCardSaid : Prop := Claim7.holds Tryd.pinned (.plain (OpenSpec.upto keysBlocksSpec)) keysBlocksUptoCard

/-- THE SECOND FORM's CARD OF 'farhaillaw.KeysTags'. -/
def keysTagsUptoCard : Claim7 := { stood := { row := keysTagsUptoRow, standIns := [], harness := (true, "62ed75ef6ea4baa36dd0355e3f3c2dd1cdeceb39d0451246a2b7d4aaf72d1032"), looks := false }, kinds := [], alts := [], laidByText := true, laidKinds := [.data], laidTests := true, laidLooks := .later }
def KeysTagsUptoCardSaid : Prop := Claim7.holds Tryd.pinned (.plain (OpenSpec.upto keysTagsSpec)) keysTagsUptoCard

/-- THE SECOND FORM's CARD OF 'farhaillaw.KeysSeals'. -/
def keysSealsUptoCard : Claim7 := { stood := { row := keysSealsUptoRow, standIns := [], harness := (true, "62ed75ef6ea4baa36dd0355e3f3c2dd1cdeceb39d0451246a2b7d4aaf72d1032"), looks := false }, kinds := [], alts := [], laidByText := true, laidKinds := [.data], laidTests := true, laidLooks := .later }
def KeysSealsUptoCardSaid : Prop := Claim7.holds Tryd.pinned (.plain (OpenSpec.upto keysSealsSpec)) keysSealsUptoCard

/-- THE SECOND FORM's CARD OF 'farhaillaw.KeysOpens'. -/
def keysOpensUptoCard : Claim7 := { stood := { row := keysOpensUptoRow, standIns := [], harness := (true, "62ed75ef6ea4baa36dd0355e3f3c2dd1cdeceb39d0451246a2b7d4aaf72d1032"), looks := false }, kinds := [], alts := [], laidByText := true, laidKinds := [.data], laidTests := true, laidLooks := .later }
def KeysOpensUptoCardSaid : Prop := Claim7.holds Tryd.pinned (.plain (OpenSpec.upto keysOpensSpec)) keysOpensUptoCard

/-- THE SECOND FORM's CARD OF 'farhailkeep.KeysBack'. -/
def keysBackUptoCard : Claim7 := { stood := { row := keysBackUptoRow, standIns := [], harness := (true, "62ed75ef6ea4baa36dd0355e3f3c2dd1cdeceb39d0451246a2b7d4aaf72d1032"), looks := false }, kinds := [], alts := [], laidByText := true, laidKinds := [.data], laidTests := true, laidLooks := .later }
def KeysBackUptoCardSaid : Prop := Claim7.holds Tryd.pinned (.plain (OpenSpec.upto keysBackSpec)) keysBackUptoCard

/-- THE SECOND FORM's CARD OF 'farhailkeep.KeysOnce'. -/
def keysOnceUptoCard : Claim7 := { stood := { row := keysOnceUptoRow, standIns := [], harness := (true, "62ed75ef6ea4baa36dd0355e3f3c2dd1cdeceb39d0451246a2b7d4aaf72d1032"), looks := false }, kinds := [], alts := [], laidByText := true, laidKinds := [.data], laidTests := true, laidLooks := .later }
def KeysOnceUptoCardSaid : Prop := Claim7.holds Tryd.pinned (.plain (OpenSpec.upto keysOnceSpec)) keysOnceUptoCard
end Rows
end Go.Proofs.YtlaiocefbhoccaaDoor
