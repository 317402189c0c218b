/-
  DERIVED. GIVEN WITH THE SEED: THE CARDS: each row of YtkchlgmeinfeaaaGreatDoorRows.lean that lists a variable, with what it lists TIED to the program's text (the seventh form; the later family's looks); each row that meets fmt, with fmt's text TOLD by the authors' own Lean function (tested against real Go, not proved from fmt's source: count such statements apart). THE CARD IS WHAT COUNTS. Prove the row's statement (the work); the ties are given (YtkchlgmeinfeaaaGreatDoorTie.lean); close each card by the builder's one call (the guide's Derived/Test/ToyasCard.lean, 'card_holds'). Laid BY PROGRAM, IN A SANDBOX (cutbox-door.mjs). By AI agents, Wed Nov 11 2026. No macro, syntax, notation, axiom, sorry.
-/
import Derived.Test.YtkchlgmeinfeaaaGreatDoorRows
import GoSem.ClaimSeven
namespace Go.Proofs.YtkchlgmeinfeaaaGreatDoor
namespace Rows

/-- THE TIED CARD OF 'laws.FnMoment'. -/
def fnMomentCard : Claim7 := { stood := { row := fnMomentRow, standIns := [], harness := (true, "80b966aae684efc004caffebe5d84d25550cf1300f2b9236a68133366ebe6be5"), looks := true }, kinds := [], alts := [], laidByText := true, laidKinds := [.handle], laidTests := true, laidLooks := .later }
def FnMomentCardSaid : Prop := Claim7.holds Tryz.pinned (.plain (OpenSpec.ofChange fnMomentSpec)) fnMomentCard

/-- THE SECOND FORM's CARD OF 'laws.FnMoment'. -/
def fnMomentUptoCard : Claim7 := { stood := { row := fnMomentUptoRow, standIns := [], harness := (true, "80b966aae684efc004caffebe5d84d25550cf1300f2b9236a68133366ebe6be5"), looks := true }, kinds := [], alts := [], laidByText := true, laidKinds := [.handle], laidTests := true, laidLooks := .later }
def FnMomentUptoCardSaid : Prop := Claim7.holds Tryz.pinned (.plain (OpenSpec.upto fnMomentSpec)) fnMomentUptoCard
end Rows
end Go.Proofs.YtkchlgmeinfeaaaGreatDoor
