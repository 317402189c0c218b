/-
  DERIVED. GIVEN WITH THE SEED: THE CARDS: each row of YtmnajpgicdomcaaGreatDoorRows.lean that lists a variable, with what it lists TIED to the program's text (the seventh form; the later family's looks); each row that meets fmt, with fmt's text TOLD by the authors' own Lean function (tested against real Go, not proved from fmt's source: count such statements apart). THE CARD IS WHAT COUNTS. Prove the row's statement (the work); the ties are given (YtmnajpgicdomcaaGreatDoorTie.lean); close each card by the builder's one call (the guide's Derived/Test/ToyasCard.lean, 'card_holds'). Laid BY PROGRAM, IN A SANDBOX (cutbox-door.mjs). By AI agents, Wed Nov 11 2026. No macro, syntax, notation, axiom, sorry.
-/
import Derived.Test.YtmnajpgicdomcaaGreatDoorRows
import GoSem.ClaimSeven
namespace Go.Proofs.YtmnajpgicdomcaaGreatDoor
namespace Rows

/-- THE TIED CARD OF 'laws.FnUndone'. -/
def fnUndoneCard : Claim7 := { stood := { row := fnUndoneRow, standIns := [], harness := (true, "6df5153c7e9a935f791ec334cb040c3ededbe15669c9bea30042b928ed92b511"), looks := true }, kinds := [], alts := [], laidByText := true, laidKinds := [.handle], laidTests := true, laidLooks := .later }
def FnUndoneCardSaid : Prop := Claim7.holds Tryz.pinned (.plain (OpenSpec.ofChange fnUndoneSpec)) fnUndoneCard

/-- THE TIED CARD OF 'laws.FnBackOne'. -/
def fnBackOneCard : Claim7 := { stood := { row := fnBackOneRow, standIns := [], harness := (true, "6df5153c7e9a935f791ec334cb040c3ededbe15669c9bea30042b928ed92b511"), looks := true }, kinds := [], alts := [], laidByText := true, laidKinds := [.handle], laidTests := true, laidLooks := .later }
def FnBackOneCardSaid : Prop := Claim7.holds Tryz.pinned (.plain (OpenSpec.ofChange fnBackOneSpec)) fnBackOneCard

/-- THE TIED CARD OF 'laws.FnTwiceBack'. -/
def fnTwiceBackCard : Claim7 := { stood := { row := fnTwiceBackRow, standIns := [], harness := (true, "6df5153c7e9a935f791ec334cb040c3ededbe15669c9bea30042b928ed92b511"), looks := true }, kinds := [], alts := [], laidByText := true, laidKinds := [.handle], laidTests := true, laidLooks := .later }
def FnTwiceBackCardSaid : Prop := Claim7.holds Tryz.pinned (.plain (OpenSpec.ofChange fnTwiceBackSpec)) fnTwiceBackCard

/-- THE SECOND FORM's CARD OF 'laws.FnUndone'. -/
def fnUndoneUptoCard : Claim7 := { stood := { row := fnUndoneUptoRow, standIns := [], harness := (true, "6df5153c7e9a935f791ec334cb040c3ededbe15669c9bea30042b928ed92b511"), looks := true }, kinds := [], alts := [], laidByText := true, laidKinds := [.handle], laidTests := true, laidLooks := .later }
def FnUndoneUptoCardSaid : Prop := Claim7.holds Tryz.pinned (.plain (OpenSpec.upto fnUndoneSpec)) fnUndoneUptoCard

/-- THE SECOND FORM's CARD OF 'laws.FnBackOne'. -/
def fnBackOneUptoCard : Claim7 := { stood := { row := fnBackOneUptoRow, standIns := [], harness := (true, "6df5153c7e9a935f791ec334cb040c3ededbe15669c9bea30042b928ed92b511"), looks := true }, kinds := [], alts := [], laidByText := true, laidKinds := [.handle], laidTests := true, laidLooks := .later }
def FnBackOneUptoCardSaid : Prop := Claim7.holds Tryz.pinned (.plain (OpenSpec.upto fnBackOneSpec)) fnBackOneUptoCard

/-- THE SECOND FORM's CARD OF 'laws.FnTwiceBack'. -/
def fnTwiceBackUptoCard : Claim7 := { stood := { row := fnTwiceBackUptoRow, standIns := [], harness := (true, "6df5153c7e9a935f791ec334cb040c3ededbe15669c9bea30042b928ed92b511"), looks := true }, kinds := [], alts := [], laidByText := true, laidKinds := [.handle], laidTests := true, laidLooks := .later }
def FnTwiceBackUptoCardSaid : Prop := Claim7.holds Tryz.pinned (.plain (OpenSpec.upto fnTwiceBackSpec)) fnTwiceBackUptoCard
end Rows
end Go.Proofs.YtmnajpgicdomcaaGreatDoor
