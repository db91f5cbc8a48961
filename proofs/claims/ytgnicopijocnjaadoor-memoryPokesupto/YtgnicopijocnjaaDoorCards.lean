/-
  DERIVED. GIVEN WITH THE SEED: THE CARDS: each row of YtgnicopijocnjaaDoorRows.lean that lists a variable, with what it lists TIED to the program's text (the seventh form; the later family's looks); each row that meets fmt, with fmt's text TOLD by the authors' own Lean function (tested against real Go, not proved from fmt's source: count such statements apart). THE CARD IS WHAT COUNTS. Prove the row's statement (the work); the ties are given (YtgnicopijocnjaaDoorTie.lean); close each card by the builder's one call (the guide's Derived/Test/ToyasCard.lean, 'card_holds'). Laid BY PROGRAM, IN A SANDBOX (cutbox-door.mjs). By AI agents, Wed Nov 11 2026. No macro, syntax, notation, axiom, sorry.
-/
import Derived.Test.YtgnicopijocnjaaDoorRows
import GoSem.ClaimSeven
namespace Go.Proofs.YtgnicopijocnjaaDoor
namespace Rows

/-- THE TIED CARD OF 'farhaillaw.MemoryPokes'. -/
def memoryPokesCard : Claim7 := { stood := { row := memoryPokesRow, standIns := [], harness := (true, "aabed6291a93e2f8dbf151613ba2945eff916abfa6c8079d8864319b45309d88"), looks := true }, kinds := [], alts := [], laidByText := true, laidKinds := [.handle], laidTests := true, laidLooks := .later }
def MemoryPokesCardSaid : Prop := Claim7.holds Tryd.pinned (.plain (OpenSpec.ofChange memoryPokesSpec)) memoryPokesCard

/-- THE SECOND FORM's CARD OF 'farhaillaw.MemoryPokes'. -/
def memoryPokesUptoCard : Claim7 := { stood := { row := memoryPokesUptoRow, standIns := [], harness := (true, "aabed6291a93e2f8dbf151613ba2945eff916abfa6c8079d8864319b45309d88"), looks := true }, kinds := [], alts := [], laidByText := true, laidKinds := [.handle], laidTests := true, laidLooks := .later }
def MemoryPokesUptoCardSaid : Prop := Claim7.holds Tryd.pinned (.plain (OpenSpec.upto memoryPokesSpec)) memoryPokesUptoCard
end Rows
end Go.Proofs.YtgnicopijocnjaaDoor
