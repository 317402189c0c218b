/-
  DERIVED. GIVEN WITH THE SEED: THE CARDS: each row of YtegogmbfhddeoaaGreatDoorRows.lean that lists a variable, with what it lists TIED to the program's text (the seventh form; the later family's looks); each row that meets fmt, with fmt's text TOLD by the authors' own Lean function (tested against real Go, not proved from fmt's source: count such statements apart). THE CARD IS WHAT COUNTS. Prove the row's statement (the work); the ties are given (YtegogmbfhddeoaaGreatDoorTie.lean); close each card by the builder's one call (the guide's Derived/Test/ToyasCard.lean, 'card_holds'). Laid BY PROGRAM, IN A SANDBOX (cutbox-door.mjs). By AI agents, Wed Nov 11 2026. No macro, syntax, notation, axiom, sorry.
-/
import Derived.Test.YtegogmbfhddeoaaGreatDoorRows
import GoSem.ClaimSeven
namespace Go.Proofs.YtegogmbfhddeoaaGreatDoor
namespace Rows

/-- THE TIED CARD OF 'laws.FnAnyOrder'. -/
def fnAnyOrderCard : Claim7 := { stood := { row := fnAnyOrderRow, standIns := [], harness := (true, "6eee19c3dcecab0645f65724bc172aec24c0d7827f33c9e6776b43e9fc53e651"), looks := true }, kinds := [], alts := [], laidByText := true, laidKinds := [.handle], laidTests := true, laidLooks := .later }
def FnAnyOrderCardSaid : Prop := Claim7.holds Tryz.pinned (.plain (OpenSpec.ofChange fnAnyOrderSpec)) fnAnyOrderCard

/-- THE TIED CARD OF 'laws.FnBack'. -/
def fnBackCard : Claim7 := { stood := { row := fnBackRow, standIns := [], harness := (true, "6eee19c3dcecab0645f65724bc172aec24c0d7827f33c9e6776b43e9fc53e651"), looks := true }, kinds := [], alts := [], laidByText := true, laidKinds := [.handle], laidTests := true, laidLooks := .later }
def FnBackCardSaid : Prop := Claim7.holds Tryz.pinned (.plain (OpenSpec.ofChange fnBackSpec)) fnBackCard

/-- THE TIED CARD OF 'laws.FnMoment'. -/
def fnMomentCard : Claim7 := { stood := { row := fnMomentRow, standIns := [], harness := (true, "6eee19c3dcecab0645f65724bc172aec24c0d7827f33c9e6776b43e9fc53e651"), looks := true }, kinds := [], alts := [], laidByText := true, laidKinds := [.handle], laidTests := true, laidLooks := .later }
def FnMomentCardSaid : Prop := Claim7.holds Tryz.pinned (.plain (OpenSpec.ofChange fnMomentSpec)) fnMomentCard

/-- THE TIED CARD OF 'laws.FnTwiceBack'. -/
def fnTwiceBackCard : Claim7 := { stood := { row := fnTwiceBackRow, standIns := [], harness := (true, "6eee19c3dcecab0645f65724bc172aec24c0d7827f33c9e6776b43e9fc53e651"), looks := true }, kinds := [], alts := [], laidByText := true, laidKinds := [.handle], laidTests := true, laidLooks := .later }
def FnTwiceBackCardSaid : Prop := Claim7.holds Tryz.pinned (.plain (OpenSpec.ofChange fnTwiceBackSpec)) fnTwiceBackCard

/-- THE TIED CARD OF 'laws.FnUndone'. -/
def fnUndoneCard : Claim7 := { stood := { row := fnUndoneRow, standIns := [], harness := (true, "6eee19c3dcecab0645f65724bc172aec24c0d7827f33c9e6776b43e9fc53e651"), looks := true }, kinds := [], alts := [], laidByText := true, laidKinds := [.handle], laidTests := true, laidLooks := .later }
def FnUndoneCardSaid : Prop := Claim7.holds Tryz.pinned (.plain (OpenSpec.ofChange fnUndoneSpec)) fnUndoneCard

/-- THE TIED CARD OF 'laws.FnBackOne'. -/
def fnBackOneCard : Claim7 := { stood := { row := fnBackOneRow, standIns := [], harness := (true, "6eee19c3dcecab0645f65724bc172aec24c0d7827f33c9e6776b43e9fc53e651"), looks := true }, kinds := [], alts := [], laidByText := true, laidKinds := [.handle], laidTests := true, laidLooks := .later }
def FnBackOneCardSaid : Prop := Claim7.holds Tryz.pinned (.plain (OpenSpec.ofChange fnBackOneSpec)) fnBackOneCard

/-- THE SECOND FORM's CARD OF 'laws.FnAnyOrder'. -/
def fnAnyOrderUptoCard : Claim7 := { stood := { row := fnAnyOrderUptoRow, standIns := [], harness := (true, "6eee19c3dcecab0645f65724bc172aec24c0d7827f33c9e6776b43e9fc53e651"), looks := true }, kinds := [], alts := [], laidByText := true, laidKinds := [.handle], laidTests := true, laidLooks := .later }
def FnAnyOrderUptoCardSaid : Prop := Claim7.holds Tryz.pinned (.plain (OpenSpec.upto fnAnyOrderSpec)) fnAnyOrderUptoCard

/-- THE SECOND FORM's CARD OF 'laws.FnBack'. -/
def fnBackUptoCard : Claim7 := { stood := { row := fnBackUptoRow, standIns := [], harness := (true, "6eee19c3dcecab0645f65724bc172aec24c0d7827f33c9e6776b43e9fc53e651"), looks := true }, kinds := [], alts := [], laidByText := true, laidKinds := [.handle], laidTests := true, laidLooks := .later }
def FnBackUptoCardSaid : Prop := Claim7.holds Tryz.pinned (.plain (OpenSpec.upto fnBackSpec)) fnBackUptoCard

/-- THE SECOND FORM's CARD OF 'laws.FnMoment'. -/
def fnMomentUptoCard : Claim7 := { stood := { row := fnMomentUptoRow, standIns := [], harness := (true, "6eee19c3dcecab0645f65724bc172aec24c0d7827f33c9e6776b43e9fc53e651"), looks := true }, kinds := [], alts := [], laidByText := true, laidKinds := [.handle], laidTests := true, laidLooks := .later }
def FnMomentUptoCardSaid : Prop := Claim7.holds Tryz.pinned (.plain (OpenSpec.upto fnMomentSpec)) fnMomentUptoCard

/-- THE SECOND FORM's CARD OF 'laws.FnTwiceBack'. -/
def fnTwiceBackUptoCard : Claim7 := { stood := { row := fnTwiceBackUptoRow, standIns := [], harness := (true, "6eee19c3dcecab0645f65724bc172aec24c0d7827f33c9e6776b43e9fc53e651"), looks := true }, kinds := [], alts := [], laidByText := true, laidKinds := [.handle], laidTests := true, laidLooks := .later }
def FnTwiceBackUptoCardSaid : Prop := Claim7.holds Tryz.pinned (.plain (OpenSpec.upto fnTwiceBackSpec)) fnTwiceBackUptoCard

/-- THE SECOND FORM's CARD OF 'laws.FnUndone'. -/
def fnUndoneUptoCard : Claim7 := { stood := { row := fnUndoneUptoRow, standIns := [], harness := (true, "6eee19c3dcecab0645f65724bc172aec24c0d7827f33c9e6776b43e9fc53e651"), looks := true }, kinds := [], alts := [], laidByText := true, laidKinds := [.handle], laidTests := true, laidLooks := .later }
def FnUndoneUptoCardSaid : Prop := Claim7.holds Tryz.pinned (.plain (OpenSpec.upto fnUndoneSpec)) fnUndoneUptoCard

/-- THE SECOND FORM's CARD OF 'laws.FnBackOne'. -/
def fnBackOneUptoCard : Claim7 := { stood := { row := fnBackOneUptoRow, standIns := [], harness := (true, "6eee19c3dcecab0645f65724bc172aec24c0d7827f33c9e6776b43e9fc53e651"), looks := true }, kinds := [], alts := [], laidByText := true, laidKinds := [.handle], laidTests := true, laidLooks := .later }
def FnBackOneUptoCardSaid : Prop := Claim7.holds Tryz.pinned (.plain (OpenSpec.upto fnBackOneSpec)) fnBackOneUptoCard
end Rows
end Go.Proofs.YtegogmbfhddeoaaGreatDoor
