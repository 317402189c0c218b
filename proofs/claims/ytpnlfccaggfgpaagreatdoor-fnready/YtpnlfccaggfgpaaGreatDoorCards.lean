/-
  DERIVED. GIVEN WITH THE SEED: THE CARDS: each row of YtpnlfccaggfgpaaGreatDoorRows.lean that lists a variable, with what it lists TIED to the program's text (the seventh form; the later family's looks); each row that meets fmt, with fmt's text TOLD by the authors' own Lean function (tested against real Go, not proved from fmt's source: count such statements apart). THE CARD IS WHAT COUNTS. Prove the row's statement (the work); the ties are given (YtpnlfccaggfgpaaGreatDoorTie.lean); close each card by the builder's one call (the guide's Derived/Test/ToyasCard.lean, 'card_holds'). Laid BY PROGRAM, IN A SANDBOX (cutbox-door.mjs). By AI agents, Wed Nov 11 2026. No macro, syntax, notation, axiom, sorry.
-/
import Derived.Test.YtpnlfccaggfgpaaGreatDoorRows
import GoSem.ClaimSeven
namespace Go.Proofs.YtpnlfccaggfgpaaGreatDoor
namespace Rows

/-- THE TIED CARD OF 'laws.FnReady'. -/
def fnReadyCard : Claim7 := { stood := { row := fnReadyRow, standIns := [], harness := (true, "833c5f394e4d93df685f5277b3640f1fa334477961f96ea03e75df6d4537e7b2"), looks := true }, kinds := [], alts := [], laidByText := true, laidKinds := [.handle], laidTests := true, laidLooks := .later }
def FnReadyCardSaid : Prop := Claim7.holds Tryz.pinned (.plain (OpenSpec.ofChange fnReadySpec)) fnReadyCard

/-- THE SECOND FORM's CARD OF 'laws.FnReady'. -/
def fnReadyUptoCard : Claim7 := { stood := { row := fnReadyUptoRow, standIns := [], harness := (true, "833c5f394e4d93df685f5277b3640f1fa334477961f96ea03e75df6d4537e7b2"), looks := true }, kinds := [], alts := [], laidByText := true, laidKinds := [.handle], laidTests := true, laidLooks := .later }
def FnReadyUptoCardSaid : Prop := Claim7.holds Tryz.pinned (.plain (OpenSpec.upto fnReadySpec)) fnReadyUptoCard
end Rows
end Go.Proofs.YtpnlfccaggfgpaaGreatDoor
