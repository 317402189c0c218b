/-
  DERIVED. GIVEN WITH THE SEED: THE CARDS: each row of YtkdncgijkghjaaaGreatDoorRows.lean that lists a variable, with what it lists TIED to the program's text (the seventh form; the later family's looks); each row that meets fmt, with fmt's text TOLD by the authors' own Lean function (tested against real Go, not proved from fmt's source: count such statements apart). THE CARD IS WHAT COUNTS. Prove the row's statement (the work); the ties are given (YtkdncgijkghjaaaGreatDoorTie.lean); close each card by the builder's one call (the guide's Derived/Test/ToyasCard.lean, 'card_holds'). Laid BY PROGRAM, IN A SANDBOX (cutbox-door.mjs). By AI agents, Wed Nov 11 2026. No macro, syntax, notation, axiom, sorry.
-/
import Derived.Test.YtkdncgijkghjaaaGreatDoorRows
import GoSem.ClaimSeven
namespace Go.Proofs.YtkdncgijkghjaaaGreatDoor
namespace Rows

/-- THE TIED CARD OF 'laws.FnHangs'. -/
def fnHangsCard : Claim7 := { stood := { row := fnHangsRow, standIns := [], harness := (true, "54870b2962d814754b5b73a419745fa69f0de722edeb2149491b410346ea9c36"), looks := true }, kinds := [], alts := [], laidByText := true, laidKinds := [.handle], laidTests := true, laidLooks := .later }
def FnHangsCardSaid : Prop := Claim7.holds Tryz.pinned (.plain (OpenSpec.ofChange fnHangsSpec)) fnHangsCard

/-- THE TIED CARD OF 'laws.FnSide'. -/
def fnSideCard : Claim7 := { stood := { row := fnSideRow, standIns := [], harness := (true, "54870b2962d814754b5b73a419745fa69f0de722edeb2149491b410346ea9c36"), looks := true }, kinds := [], alts := [], laidByText := true, laidKinds := [.handle], laidTests := true, laidLooks := .later }
def FnSideCardSaid : Prop := Claim7.holds Tryz.pinned (.plain (OpenSpec.ofChange fnSideSpec)) fnSideCard

/-- THE TIED CARD OF 'laws.FnClock'. -/
def fnClockCard : Claim7 := { stood := { row := fnClockRow, standIns := [], harness := (true, "54870b2962d814754b5b73a419745fa69f0de722edeb2149491b410346ea9c36"), looks := true }, kinds := [], alts := [], laidByText := true, laidKinds := [.handle], laidTests := true, laidLooks := .later }
def FnClockCardSaid : Prop := Claim7.holds Tryz.pinned (.plain (OpenSpec.ofChange fnClockSpec)) fnClockCard

/-- THE TIED CARD OF 'laws.FnGreatest'. -/
def fnGreatestCard : Claim7 := { stood := { row := fnGreatestRow, standIns := [], harness := (true, "54870b2962d814754b5b73a419745fa69f0de722edeb2149491b410346ea9c36"), looks := true }, kinds := [], alts := [], laidByText := true, laidKinds := [.handle], laidTests := true, laidLooks := .later }
def FnGreatestCardSaid : Prop := Claim7.holds Tryz.pinned (.plain (OpenSpec.ofChange fnGreatestSpec)) fnGreatestCard

/-- THE SECOND FORM's CARD OF 'laws.FnHangs'. -/
def fnHangsUptoCard : Claim7 := { stood := { row := fnHangsUptoRow, standIns := [], harness := (true, "54870b2962d814754b5b73a419745fa69f0de722edeb2149491b410346ea9c36"), looks := true }, kinds := [], alts := [], laidByText := true, laidKinds := [.handle], laidTests := true, laidLooks := .later }
def FnHangsUptoCardSaid : Prop := Claim7.holds Tryz.pinned (.plain (OpenSpec.upto fnHangsSpec)) fnHangsUptoCard

/-- THE SECOND FORM's CARD OF 'laws.FnSide'. -/
def fnSideUptoCard : Claim7 := { stood := { row := fnSideUptoRow, standIns := [], harness := (true, "54870b2962d814754b5b73a419745fa69f0de722edeb2149491b410346ea9c36"), looks := true }, kinds := [], alts := [], laidByText := true, laidKinds := [.handle], laidTests := true, laidLooks := .later }
def FnSideUptoCardSaid : Prop := Claim7.holds Tryz.pinned (.plain (OpenSpec.upto fnSideSpec)) fnSideUptoCard

/-- THE SECOND FORM's CARD OF 'laws.FnClock'. -/
def fnClockUptoCard : Claim7 := { stood := { row := fnClockUptoRow, standIns := [], harness := (true, "54870b2962d814754b5b73a419745fa69f0de722edeb2149491b410346ea9c36"), looks := true }, kinds := [], alts := [], laidByText := true, laidKinds := [.handle], laidTests := true, laidLooks := .later }
def FnClockUptoCardSaid : Prop := Claim7.holds Tryz.pinned (.plain (OpenSpec.upto fnClockSpec)) fnClockUptoCard

/-- THE SECOND FORM's CARD OF 'laws.FnGreatest'. -/
def fnGreatestUptoCard : Claim7 := { stood := { row := fnGreatestUptoRow, standIns := [], harness := (true, "54870b2962d814754b5b73a419745fa69f0de722edeb2149491b410346ea9c36"), looks := true }, kinds := [], alts := [], laidByText := true, laidKinds := [.handle], laidTests := true, laidLooks := .later }
def FnGreatestUptoCardSaid : Prop := Claim7.holds Tryz.pinned (.plain (OpenSpec.upto fnGreatestSpec)) fnGreatestUptoCard
end Rows
end Go.Proofs.YtkdncgijkghjaaaGreatDoor
