/-
  DERIVED. GIVEN WITH THE SEED: THE CARDS: each row of YtlhikgdcgpgolaaGreatDoorRows.lean that lists a variable, with what it lists TIED to the program's text (the seventh form; the later family's looks); each row that meets fmt, with fmt's text TOLD by the authors' own Lean function (tested against real Go, not proved from fmt's source: count such statements apart). THE CARD IS WHAT COUNTS. Prove the row's statement (the work); the ties are given (YtlhikgdcgpgolaaGreatDoorTie.lean); close each card by the builder's one call (the guide's Derived/Test/ToyasCard.lean, 'card_holds'). Laid BY PROGRAM, IN A SANDBOX (cutbox-door.mjs). By AI agents, Wed Nov 11 2026. No macro, syntax, notation, axiom, sorry.
-/
import Derived.Test.YtlhikgdcgpgolaaGreatDoorRows
import GoSem.ClaimSeven
namespace Go.Proofs.YtlhikgdcgpgolaaGreatDoor
namespace Rows

/-- THE TIED CARD OF 'laws.FnUntil'. -/
def fnUntilCard : Claim7 := { stood := { row := fnUntilRow, standIns := [], harness := (true, "da432d2e6f06c307823843d4e10af48c1a0c1875f31398039b660add497d7509"), looks := true }, kinds := [], alts := [], laidByText := true, laidKinds := [.handle], laidTests := true, laidLooks := .later }
def FnUntilCardSaid : Prop := Claim7.holds Tryz.pinned (.plain (OpenSpec.ofChange fnUntilSpec)) fnUntilCard

/-- THE SECOND FORM's CARD OF 'laws.FnUntil'. -/
def fnUntilUptoCard : Claim7 := { stood := { row := fnUntilUptoRow, standIns := [], harness := (true, "da432d2e6f06c307823843d4e10af48c1a0c1875f31398039b660add497d7509"), looks := true }, kinds := [], alts := [], laidByText := true, laidKinds := [.handle], laidTests := true, laidLooks := .later }
def FnUntilUptoCardSaid : Prop := Claim7.holds Tryz.pinned (.plain (OpenSpec.upto fnUntilSpec)) fnUntilUptoCard
end Rows
end Go.Proofs.YtlhikgdcgpgolaaGreatDoor
