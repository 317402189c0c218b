/-
  DERIVED. GIVEN WITH THE SEED: THE CARDS: each row of YtjbocfjeobkclaaGreatDoorRows.lean that lists a variable, with what it lists TIED to the program's text (the seventh form; the later family's looks); each row that meets fmt, with fmt's text TOLD by the authors' own Lean function (tested against real Go, not proved from fmt's source: count such statements apart). THE CARD IS WHAT COUNTS. Prove the row's statement (the work); the ties are given (YtjbocfjeobkclaaGreatDoorTie.lean); close each card by the builder's one call (the guide's Derived/Test/ToyasCard.lean, 'card_holds'). Laid BY PROGRAM, IN A SANDBOX (cutbox-door.mjs). By AI agents, Wed Nov 11 2026. No macro, syntax, notation, axiom, sorry.
-/
import Derived.Test.YtjbocfjeobkclaaGreatDoorRows
import GoSem.ClaimSeven
namespace Go.Proofs.YtjbocfjeobkclaaGreatDoor
namespace Rows

/-- THE TIED CARD OF 'laws.FnExactClock'. -/
def fnExactClockCard : Claim7 := { stood := { row := fnExactClockRow, standIns := [], harness := (true, "45d13cb704e6a3913321102d8eef36ffa49cff87ba839682e71750593b0f7f06"), looks := true }, kinds := [], alts := [], laidByText := true, laidKinds := [.handle], laidTests := true, laidLooks := .later }
def FnExactClockCardSaid : Prop := Claim7.holds Tryz.pinned (.plain (OpenSpec.ofChange fnExactClockSpec)) fnExactClockCard

/-- THE TIED CARD OF 'laws.FnExactHangs'. -/
def fnExactHangsCard : Claim7 := { stood := { row := fnExactHangsRow, standIns := [], harness := (true, "45d13cb704e6a3913321102d8eef36ffa49cff87ba839682e71750593b0f7f06"), looks := true }, kinds := [], alts := [], laidByText := true, laidKinds := [.handle], laidTests := true, laidLooks := .later }
def FnExactHangsCardSaid : Prop := Claim7.holds Tryz.pinned (.plain (OpenSpec.ofChange fnExactHangsSpec)) fnExactHangsCard

/-- THE TIED CARD OF 'laws.FnExactSide'. -/
def fnExactSideCard : Claim7 := { stood := { row := fnExactSideRow, standIns := [], harness := (true, "45d13cb704e6a3913321102d8eef36ffa49cff87ba839682e71750593b0f7f06"), looks := true }, kinds := [], alts := [], laidByText := true, laidKinds := [.handle], laidTests := true, laidLooks := .later }
def FnExactSideCardSaid : Prop := Claim7.holds Tryz.pinned (.plain (OpenSpec.ofChange fnExactSideSpec)) fnExactSideCard

/-- THE SECOND FORM's CARD OF 'laws.FnExactClock'. -/
def fnExactClockUptoCard : Claim7 := { stood := { row := fnExactClockUptoRow, standIns := [], harness := (true, "45d13cb704e6a3913321102d8eef36ffa49cff87ba839682e71750593b0f7f06"), looks := true }, kinds := [], alts := [], laidByText := true, laidKinds := [.handle], laidTests := true, laidLooks := .later }
def FnExactClockUptoCardSaid : Prop := Claim7.holds Tryz.pinned (.plain (OpenSpec.upto fnExactClockSpec)) fnExactClockUptoCard

/-- THE SECOND FORM's CARD OF 'laws.FnExactHangs'. -/
def fnExactHangsUptoCard : Claim7 := { stood := { row := fnExactHangsUptoRow, standIns := [], harness := (true, "45d13cb704e6a3913321102d8eef36ffa49cff87ba839682e71750593b0f7f06"), looks := true }, kinds := [], alts := [], laidByText := true, laidKinds := [.handle], laidTests := true, laidLooks := .later }
def FnExactHangsUptoCardSaid : Prop := Claim7.holds Tryz.pinned (.plain (OpenSpec.upto fnExactHangsSpec)) fnExactHangsUptoCard

/-- THE SECOND FORM's CARD OF 'laws.FnExactSide'. -/
def fnExactSideUptoCard : Claim7 := { stood := { row := fnExactSideUptoRow, standIns := [], harness := (true, "45d13cb704e6a3913321102d8eef36ffa49cff87ba839682e71750593b0f7f06"), looks := true }, kinds := [], alts := [], laidByText := true, laidKinds := [.handle], laidTests := true, laidLooks := .later }
def FnExactSideUptoCardSaid : Prop := Claim7.holds Tryz.pinned (.plain (OpenSpec.upto fnExactSideSpec)) fnExactSideUptoCard
end Rows
end Go.Proofs.YtjbocfjeobkclaaGreatDoor
