/-
  DERIVED. GIVEN WITH THE SEED: THE CARDS: each row of YtpenggkefbbopaaDoorRows.lean that lists a variable, with what it lists TIED to the program's text (the seventh form; the later family's looks); each row that meets fmt, with fmt's text TOLD by the authors' own Lean function (tested against real Go, not proved from fmt's source: count such statements apart). THE CARD IS WHAT COUNTS. Prove the row's statement (the work); the ties are given (YtpenggkefbbopaaDoorTie.lean); close each card by the builder's one call (the guide's Derived/Test/ToyasCard.lean, 'card_holds'). Laid BY PROGRAM, IN A SANDBOX (cutbox-door.mjs). By AI agents, Wed Nov 11 2026. No macro, syntax, notation, axiom, sorry.
-/
import Derived.Test.YtpenggkefbbopaaDoorRows
import GoSem.ClaimSeven
namespace Go.Proofs.YtpenggkefbbopaaDoor
namespace Rows

/-- THE TIED CARD OF 'farhailkeep.SolomonMends'. -/
def solomonMendsCard : Claim7 := { stood := { row := solomonMendsRow, standIns := [], harness := (true, "f5baa71f29a95d931efbc5a9cd349025148c8c9fb13ff6895adb61e471aa49ea"), looks := false }, kinds := [], alts := [], laidByText := true, laidKinds := [.data, .pinned], laidTests := true, laidLooks := .later }
def SolomonMendsCardSaid : Prop := Claim7.holds Tryd.pinned (.plain (OpenSpec.ofChange solomonMendsSpec)) solomonMendsCard

/-- THE SECOND FORM's CARD OF 'farhailkeep.SolomonMends'. -/
def solomonMendsUptoCard : Claim7 := { stood := { row := solomonMendsUptoRow, standIns := [], harness := (true, "f5baa71f29a95d931efbc5a9cd349025148c8c9fb13ff6895adb61e471aa49ea"), looks := false }, kinds := [], alts := [], laidByText := true, laidKinds := [.data, .pinned], laidTests := true, laidLooks := .later }
def SolomonMendsUptoCardSaid : Prop := Claim7.holds Tryd.pinned (.plain (OpenSpec.upto solomonMendsSpec)) solomonMendsUptoCard
end Rows
end Go.Proofs.YtpenggkefbbopaaDoor
