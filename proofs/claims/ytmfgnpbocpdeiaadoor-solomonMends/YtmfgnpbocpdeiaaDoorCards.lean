/-
  DERIVED. GIVEN WITH THE SEED: THE CARDS: each row of YtmfgnpbocpdeiaaDoorRows.lean that lists a variable, with what it lists TIED to the program's text (the seventh form; the later family's looks); each row that meets fmt, with fmt's text TOLD by the authors' own Lean function (tested against real Go, not proved from fmt's source: count such statements apart). THE CARD IS WHAT COUNTS. Prove the row's statement (the work); the ties are given (YtmfgnpbocpdeiaaDoorTie.lean); close each card by the builder's one call (the guide's Derived/Test/ToyasCard.lean, 'card_holds'). Laid BY PROGRAM, IN A SANDBOX (cutbox-door.mjs). By AI agents, Wed Nov 11 2026. No macro, syntax, notation, axiom, sorry.
-/
import Derived.Test.YtmfgnpbocpdeiaaDoorRows
import GoSem.ClaimSeven
namespace Go.Proofs.YtmfgnpbocpdeiaaDoor
namespace Rows

/-- THE TIED CARD OF 'farhaillaw.SolomonDecodes'. -/
def solomonDecodesCard : Claim7 := { stood := { row := solomonDecodesRow, standIns := [], harness := (true, "2895c909937914b36e537a4aba78bc5f2e2a21129cca373d58bf9e6ccbca8c75"), looks := false }, kinds := [], alts := [], laidByText := true, laidKinds := [.data, .pinned], laidTests := true, laidLooks := .later }
def SolomonDecodesCardSaid : Prop := Claim7.holds Tryd.pinned (.plain (OpenSpec.ofChange solomonDecodesSpec)) solomonDecodesCard

/-- THE TIED CARD OF 'farhailkeep.SolomonMends'. -/
def solomonMendsCard : Claim7 := { stood := { row := solomonMendsRow, standIns := [], harness := (true, "2895c909937914b36e537a4aba78bc5f2e2a21129cca373d58bf9e6ccbca8c75"), looks := false }, kinds := [], alts := [], laidByText := true, laidKinds := [.data, .pinned], laidTests := true, laidLooks := .later }
def SolomonMendsCardSaid : Prop := Claim7.holds Tryd.pinned (.plain (OpenSpec.ofChange solomonMendsSpec)) solomonMendsCard

/-- THE TIED CARD OF 'farhailkeep.SolomonNear'. -/
def solomonNearCard : Claim7 := { stood := { row := solomonNearRow, standIns := [], harness := (true, "2895c909937914b36e537a4aba78bc5f2e2a21129cca373d58bf9e6ccbca8c75"), looks := false }, kinds := [], alts := [], laidByText := true, laidKinds := [.data, .pinned], laidTests := true, laidLooks := .later }
def SolomonNearCardSaid : Prop := Claim7.holds Tryd.pinned (.plain (OpenSpec.ofChange solomonNearSpec)) solomonNearCard

/-- THE SECOND FORM's CARD OF 'farhaillaw.SolomonDecodes'. -/
def solomonDecodesUptoCard : Claim7 := { stood := { row := solomonDecodesUptoRow, standIns := [], harness := (true, "2895c909937914b36e537a4aba78bc5f2e2a21129cca373d58bf9e6ccbca8c75"), looks := false }, kinds := [], alts := [], laidByText := true, laidKinds := [.data, .pinned], laidTests := true, laidLooks := .later }
def SolomonDecodesUptoCardSaid : Prop := Claim7.holds Tryd.pinned (.plain (OpenSpec.upto solomonDecodesSpec)) solomonDecodesUptoCard

/-- THE SECOND FORM's CARD OF 'farhailkeep.SolomonMends'. -/
def solomonMendsUptoCard : Claim7 := { stood := { row := solomonMendsUptoRow, standIns := [], harness := (true, "2895c909937914b36e537a4aba78bc5f2e2a21129cca373d58bf9e6ccbca8c75"), looks := false }, kinds := [], alts := [], laidByText := true, laidKinds := [.data, .pinned], laidTests := true, laidLooks := .later }
def SolomonMendsUptoCardSaid : Prop := Claim7.holds Tryd.pinned (.plain (OpenSpec.upto solomonMendsSpec)) solomonMendsUptoCard

/-- THE SECOND FORM's CARD OF 'farhailkeep.SolomonNear'. -/
def solomonNearUptoCard : Claim7 := { stood := { row := solomonNearUptoRow, standIns := [], harness := (true, "2895c909937914b36e537a4aba78bc5f2e2a21129cca373d58bf9e6ccbca8c75"), looks := false }, kinds := [], alts := [], laidByText := true, laidKinds := [.data, .pinned], laidTests := true, laidLooks := .later }
def SolomonNearUptoCardSaid : Prop := Claim7.holds Tryd.pinned (.plain (OpenSpec.upto solomonNearSpec)) solomonNearUptoCard
end Rows
end Go.Proofs.YtmfgnpbocpdeiaaDoor
