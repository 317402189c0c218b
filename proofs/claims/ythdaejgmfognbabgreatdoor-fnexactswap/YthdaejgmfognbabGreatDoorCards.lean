/-
  DERIVED. GIVEN WITH THE SEED: THE CARDS: each row of YthdaejgmfognbabGreatDoorRows.lean that lists a variable, with what it lists TIED to the program's text (the seventh form; the later family's looks); each row that meets fmt, with fmt's text TOLD by the authors' own Lean function (tested against real Go, not proved from fmt's source: count such statements apart). THE CARD IS WHAT COUNTS. Prove the row's statement (the work); the ties are given (YthdaejgmfognbabGreatDoorTie.lean); close each card by the builder's one call (the guide's Derived/Test/ToyasCard.lean, 'card_holds'). Laid BY PROGRAM, IN A SANDBOX (cutbox-door.mjs). By AI agents, Wed Nov 11 2026. No macro, syntax, notation, axiom, sorry.
-/
import Derived.Test.YthdaejgmfognbabGreatDoorRows
import GoSem.ClaimSeven
namespace Go.Proofs.YthdaejgmfognbabGreatDoor
namespace Rows

/-- THE TIED CARD OF 'laws.FnExactRedo'. -/
def fnExactRedoCard : Claim7 := { stood := { row := fnExactRedoRow, standIns := [], harness := (true, "e8d014c74e6d49508334728c1b94f9587b17b5cc2097fe3467303ba80517178a"), looks := true }, kinds := [], alts := [], laidByText := true, laidKinds := [.handle], laidTests := true, laidLooks := .later }
def FnExactRedoCardSaid : Prop := Claim7.holds Tryz.pinned (.plain (OpenSpec.ofChange fnExactRedoSpec)) fnExactRedoCard

/-- THE TIED CARD OF 'laws.FnExactSwap'. -/
def fnExactSwapCard : Claim7 := { stood := { row := fnExactSwapRow, standIns := [], harness := (true, "e8d014c74e6d49508334728c1b94f9587b17b5cc2097fe3467303ba80517178a"), looks := true }, kinds := [], alts := [], laidByText := true, laidKinds := [.handle], laidTests := true, laidLooks := .later }
def FnExactSwapCardSaid : Prop := Claim7.holds Tryz.pinned (.plain (OpenSpec.ofChange fnExactSwapSpec)) fnExactSwapCard

/-- THE SECOND FORM's CARD OF 'laws.FnExactRedo'. -/
def fnExactRedoUptoCard : Claim7 := { stood := { row := fnExactRedoUptoRow, standIns := [], harness := (true, "e8d014c74e6d49508334728c1b94f9587b17b5cc2097fe3467303ba80517178a"), looks := true }, kinds := [], alts := [], laidByText := true, laidKinds := [.handle], laidTests := true, laidLooks := .later }
def FnExactRedoUptoCardSaid : Prop := Claim7.holds Tryz.pinned (.plain (OpenSpec.upto fnExactRedoSpec)) fnExactRedoUptoCard

/-- THE SECOND FORM's CARD OF 'laws.FnExactSwap'. -/
def fnExactSwapUptoCard : Claim7 := { stood := { row := fnExactSwapUptoRow, standIns := [], harness := (true, "e8d014c74e6d49508334728c1b94f9587b17b5cc2097fe3467303ba80517178a"), looks := true }, kinds := [], alts := [], laidByText := true, laidKinds := [.handle], laidTests := true, laidLooks := .later }
def FnExactSwapUptoCardSaid : Prop := Claim7.holds Tryz.pinned (.plain (OpenSpec.upto fnExactSwapSpec)) fnExactSwapUptoCard
end Rows
end Go.Proofs.YthdaejgmfognbabGreatDoor
