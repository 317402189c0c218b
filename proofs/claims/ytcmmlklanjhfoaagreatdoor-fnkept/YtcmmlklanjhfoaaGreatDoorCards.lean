/-
  DERIVED. GIVEN WITH THE SEED: THE CARDS: each row of YtcmmlklanjhfoaaGreatDoorRows.lean that lists a variable, with what it lists TIED to the program's text (the seventh form; the later family's looks); each row that meets fmt, with fmt's text TOLD by the authors' own Lean function (tested against real Go, not proved from fmt's source: count such statements apart). THE CARD IS WHAT COUNTS. Prove the row's statement (the work); the ties are given (YtcmmlklanjhfoaaGreatDoorTie.lean); close each card by the builder's one call (the guide's Derived/Test/ToyasCard.lean, 'card_holds'). Laid BY PROGRAM, IN A SANDBOX (cutbox-door.mjs). By AI agents, Wed Nov 11 2026. No macro, syntax, notation, axiom, sorry.
-/
import Derived.Test.YtcmmlklanjhfoaaGreatDoorRows
import GoSem.ClaimSeven
namespace Go.Proofs.YtcmmlklanjhfoaaGreatDoor
namespace Rows

/-- THE TIED CARD OF 'laws.FnKept'. -/
def fnKeptCard : Claim7 := { stood := { row := fnKeptRow, standIns := [], harness := (true, "a54006b5583eebd1992871ba0948899f3c71933a4b5426da260768cce4892e51"), looks := true }, kinds := [], alts := [], laidByText := true, laidKinds := [.handle], laidTests := true, laidLooks := .later }
def FnKeptCardSaid : Prop := Claim7.holds Tryz.pinned (.plain (OpenSpec.ofChange fnKeptSpec)) fnKeptCard

/-- THE TIED CARD OF 'laws.FnRestore'. -/
def fnRestoreCard : Claim7 := { stood := { row := fnRestoreRow, standIns := [], harness := (true, "a54006b5583eebd1992871ba0948899f3c71933a4b5426da260768cce4892e51"), looks := true }, kinds := [], alts := [], laidByText := true, laidKinds := [.handle], laidTests := true, laidLooks := .later }
def FnRestoreCardSaid : Prop := Claim7.holds Tryz.pinned (.plain (OpenSpec.ofChange fnRestoreSpec)) fnRestoreCard

/-- THE SECOND FORM's CARD OF 'laws.FnKept'. -/
def fnKeptUptoCard : Claim7 := { stood := { row := fnKeptUptoRow, standIns := [], harness := (true, "a54006b5583eebd1992871ba0948899f3c71933a4b5426da260768cce4892e51"), looks := true }, kinds := [], alts := [], laidByText := true, laidKinds := [.handle], laidTests := true, laidLooks := .later }
def FnKeptUptoCardSaid : Prop := Claim7.holds Tryz.pinned (.plain (OpenSpec.upto fnKeptSpec)) fnKeptUptoCard

/-- THE SECOND FORM's CARD OF 'laws.FnRestore'. -/
def fnRestoreUptoCard : Claim7 := { stood := { row := fnRestoreUptoRow, standIns := [], harness := (true, "a54006b5583eebd1992871ba0948899f3c71933a4b5426da260768cce4892e51"), looks := true }, kinds := [], alts := [], laidByText := true, laidKinds := [.handle], laidTests := true, laidLooks := .later }
def FnRestoreUptoCardSaid : Prop := Claim7.holds Tryz.pinned (.plain (OpenSpec.upto fnRestoreSpec)) fnRestoreUptoCard
end Rows
end Go.Proofs.YtcmmlklanjhfoaaGreatDoor
