/-
  DERIVED. GIVEN WITH THE SEED: THE CARDS: each row of YtaigcjhachkmmaaDoorRows.lean that lists a variable, with what it lists TIED to the program's text (the seventh form; the later family's looks); each row that meets fmt, with fmt's text TOLD by the authors' own Lean function (tested against real Go, not proved from fmt's source: count such statements apart). THE CARD IS WHAT COUNTS. Prove the row's statement (the work); the ties are given (YtaigcjhachkmmaaDoorTie.lean); close each card by the builder's one call (the guide's Derived/Test/ToyasCard.lean, 'card_holds'). Laid BY PROGRAM, IN A SANDBOX (cutbox-door.mjs). By AI agents, Wed Nov 11 2026. No macro, syntax, notation, axiom, sorry.
-/
import Derived.Test.YtaigcjhachkmmaaDoorRows
import GoSem.ClaimSeven
namespace Go.Proofs.YtaigcjhachkmmaaDoor
namespace Rows

/-- THE TIED CARD OF 'farhaillaw.KeysOpens'. -/
def keysOpensCard : Claim7 := { stood := { row := keysOpensRow, standIns := [], harness := (true, "54b08661cc66b9d6fc47afb1fcb7567a58f7ee059eda4022c97ddf91284d3cc2"), looks := false }, kinds := [], alts := [], laidByText := true, laidKinds := [.data], laidTests := true, laidLooks := .later }
def KeysOpensCardSaid : Prop := Claim7.holds Tryd.pinned (.plain (OpenSpec.ofChange keysOpensSpec)) keysOpensCard

/-- THE TIED CARD OF 'farhailkeep.KeysBack'. -/
def keysBackCard : Claim7 := { stood := { row := keysBackRow, standIns := [], harness := (true, "54b08661cc66b9d6fc47afb1fcb7567a58f7ee059eda4022c97ddf91284d3cc2"), looks := false }, kinds := [], alts := [], laidByText := true, laidKinds := [.data], laidTests := true, laidLooks := .later }
def KeysBackCardSaid : Prop := Claim7.holds Tryd.pinned (.plain (OpenSpec.ofChange keysBackSpec)) keysBackCard

/-- THE TIED CARD OF 'farhailkeep.KeysOnce'. -/
def keysOnceCard : Claim7 := { stood := { row := keysOnceRow, standIns := [], harness := (true, "54b08661cc66b9d6fc47afb1fcb7567a58f7ee059eda4022c97ddf91284d3cc2"), looks := false }, kinds := [], alts := [], laidByText := true, laidKinds := [.data], laidTests := true, laidLooks := .later }
def KeysOnceCardSaid : Prop := Claim7.holds Tryd.pinned (.plain (OpenSpec.ofChange keysOnceSpec)) keysOnceCard

/-- THE SECOND FORM's CARD OF 'farhaillaw.KeysOpens'. -/
def keysOpensUptoCard : Claim7 := { stood := { row := keysOpensUptoRow, standIns := [], harness := (true, "54b08661cc66b9d6fc47afb1fcb7567a58f7ee059eda4022c97ddf91284d3cc2"), looks := false }, kinds := [], alts := [], laidByText := true, laidKinds := [.data], laidTests := true, laidLooks := .later }
def KeysOpensUptoCardSaid : Prop := Claim7.holds Tryd.pinned (.plain (OpenSpec.upto keysOpensSpec)) keysOpensUptoCard

/-- THE SECOND FORM's CARD OF 'farhailkeep.KeysBack'. -/
def keysBackUptoCard : Claim7 := { stood := { row := keysBackUptoRow, standIns := [], harness := (true, "54b08661cc66b9d6fc47afb1fcb7567a58f7ee059eda4022c97ddf91284d3cc2"), looks := false }, kinds := [], alts := [], laidByText := true, laidKinds := [.data], laidTests := true, laidLooks := .later }
def KeysBackUptoCardSaid : Prop := Claim7.holds Tryd.pinned (.plain (OpenSpec.upto keysBackSpec)) keysBackUptoCard

/-- THE SECOND FORM's CARD OF 'farhailkeep.KeysOnce'. -/
def keysOnceUptoCard : Claim7 := { stood := { row := keysOnceUptoRow, standIns := [], harness := (true, "54b08661cc66b9d6fc47afb1fcb7567a58f7ee059eda4022c97ddf91284d3cc2"), looks := false }, kinds := [], alts := [], laidByText := true, laidKinds := [.data], laidTests := true, laidLooks := .later }
def KeysOnceUptoCardSaid : Prop := Claim7.holds Tryd.pinned (.plain (OpenSpec.upto keysOnceSpec)) keysOnceUptoCard
end Rows
end Go.Proofs.YtaigcjhachkmmaaDoor
