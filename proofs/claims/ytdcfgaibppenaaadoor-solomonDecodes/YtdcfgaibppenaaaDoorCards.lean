/-
  DERIVED. GIVEN WITH THE SEED: THE CARDS: each row of YtdcfgaibppenaaaDoorRows.lean that lists a variable, with what it lists TIED to the program's text (the seventh form; the later family's looks); each row that meets fmt, with fmt's text TOLD by the authors' own Lean function (tested against real Go, not proved from fmt's source: count such statements apart). THE CARD IS WHAT COUNTS. Prove the row's statement (the work); the ties are given (YtdcfgaibppenaaaDoorTie.lean); close each card by the builder's one call (the guide's Derived/Test/ToyasCard.lean, 'card_holds'). Laid BY PROGRAM, IN A SANDBOX (cutbox-door.mjs). By AI agents, Wed Nov 11 2026. No macro, syntax, notation, axiom, sorry.
-/
import Derived.Test.YtdcfgaibppenaaaDoorRows
import GoSem.ClaimSeven
namespace Go.Proofs.YtdcfgaibppenaaaDoor
namespace Rows

/-- THE TIED CARD OF 'farhaillaw.SolomonDecodes'. -/
def solomonDecodesCard : Claim7 := { stood := { row := solomonDecodesRow, standIns := [], harness := (true, "e15283f4fd214f9098d2015bea827494ad37b1b28006193f1655e641b1f683f4"), looks := false }, kinds := [], alts := [], laidByText := true, laidKinds := [.data, .pinned], laidTests := true, laidLooks := .later }
def SolomonDecodesCardSaid : Prop := Claim7.holds Tryd.pinned (.plain (OpenSpec.ofChange solomonDecodesSpec)) solomonDecodesCard

/-- THE SECOND FORM's CARD OF 'farhaillaw.SolomonDecodes'. -/
def solomonDecodesUptoCard : Claim7 := { stood := { row := solomonDecodesUptoRow, standIns := [], harness := (true, "e15283f4fd214f9098d2015bea827494ad37b1b28006193f1655e641b1f683f4"), looks := false }, kinds := [], alts := [], laidByText := true, laidKinds := [.data, .pinned], laidTests := true, laidLooks := .later }
def SolomonDecodesUptoCardSaid : Prop := Claim7.holds Tryd.pinned (.plain (OpenSpec.upto solomonDecodesSpec)) solomonDecodesUptoCard
end Rows
end Go.Proofs.YtdcfgaibppenaaaDoor
