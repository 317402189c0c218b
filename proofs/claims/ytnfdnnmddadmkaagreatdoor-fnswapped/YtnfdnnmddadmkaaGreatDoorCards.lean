/-
  DERIVED. GIVEN WITH THE SEED: THE CARDS: each row of YtnfdnnmddadmkaaGreatDoorRows.lean that lists a variable, with what it lists TIED to the program's text (the seventh form; the later family's looks); each row that meets fmt, with fmt's text TOLD by the authors' own Lean function (tested against real Go, not proved from fmt's source: count such statements apart). THE CARD IS WHAT COUNTS. Prove the row's statement (the work); the ties are given (YtnfdnnmddadmkaaGreatDoorTie.lean); close each card by the builder's one call (the guide's Derived/Test/ToyasCard.lean, 'card_holds'). Laid BY PROGRAM, IN A SANDBOX (cutbox-door.mjs). By AI agents, Wed Nov 11 2026. No macro, syntax, notation, axiom, sorry.
-/
import Derived.Test.YtnfdnnmddadmkaaGreatDoorRows
import GoSem.ClaimSeven
namespace Go.Proofs.YtnfdnnmddadmkaaGreatDoor
namespace Rows

/-- THE TIED CARD OF 'laws.FnSwapped'. -/
def fnSwappedCard : Claim7 := { stood := { row := fnSwappedRow, standIns := [], harness := (true, "d39a2ccd2d38708fb014ba224b4eefe3bee124da6cb2962b0f84ccc1b1c07d06"), looks := true }, kinds := [], alts := [], laidByText := true, laidKinds := [.handle], laidTests := true, laidLooks := .later }
def FnSwappedCardSaid : Prop := Claim7.holds Tryz.pinned (.plain (OpenSpec.ofChange fnSwappedSpec)) fnSwappedCard

/-- THE TIED CARD OF 'laws.FnAnyOrder'. -/
def fnAnyOrderCard : Claim7 := { stood := { row := fnAnyOrderRow, standIns := [], harness := (true, "d39a2ccd2d38708fb014ba224b4eefe3bee124da6cb2962b0f84ccc1b1c07d06"), looks := true }, kinds := [], alts := [], laidByText := true, laidKinds := [.handle], laidTests := true, laidLooks := .later }
def FnAnyOrderCardSaid : Prop := Claim7.holds Tryz.pinned (.plain (OpenSpec.ofChange fnAnyOrderSpec)) fnAnyOrderCard

/-- THE TIED CARD OF 'laws.FnExactRedo'. -/
def fnExactRedoCard : Claim7 := { stood := { row := fnExactRedoRow, standIns := [], harness := (true, "d39a2ccd2d38708fb014ba224b4eefe3bee124da6cb2962b0f84ccc1b1c07d06"), looks := true }, kinds := [], alts := [], laidByText := true, laidKinds := [.handle], laidTests := true, laidLooks := .later }
def FnExactRedoCardSaid : Prop := Claim7.holds Tryz.pinned (.plain (OpenSpec.ofChange fnExactRedoSpec)) fnExactRedoCard

/-- THE TIED CARD OF 'laws.FnExactPack'. -/
def fnExactPackCard : Claim7 := { stood := { row := fnExactPackRow, standIns := [], harness := (true, "d39a2ccd2d38708fb014ba224b4eefe3bee124da6cb2962b0f84ccc1b1c07d06"), looks := true }, kinds := [], alts := [], laidByText := true, laidKinds := [.handle], laidTests := true, laidLooks := .later }
def FnExactPackCardSaid : Prop := Claim7.holds Tryz.pinned (.plain (OpenSpec.ofChange fnExactPackSpec)) fnExactPackCard

/-- THE SECOND FORM's CARD OF 'laws.FnSwapped'. -/
def fnSwappedUptoCard : Claim7 := { stood := { row := fnSwappedUptoRow, standIns := [], harness := (true, "d39a2ccd2d38708fb014ba224b4eefe3bee124da6cb2962b0f84ccc1b1c07d06"), looks := true }, kinds := [], alts := [], laidByText := true, laidKinds := [.handle], laidTests := true, laidLooks := .later }
def FnSwappedUptoCardSaid : Prop := Claim7.holds Tryz.pinned (.plain (OpenSpec.upto fnSwappedSpec)) fnSwappedUptoCard

/-- THE SECOND FORM's CARD OF 'laws.FnAnyOrder'. -/
def fnAnyOrderUptoCard : Claim7 := { stood := { row := fnAnyOrderUptoRow, standIns := [], harness := (true, "d39a2ccd2d38708fb014ba224b4eefe3bee124da6cb2962b0f84ccc1b1c07d06"), looks := true }, kinds := [], alts := [], laidByText := true, laidKinds := [.handle], laidTests := true, laidLooks := .later }
def FnAnyOrderUptoCardSaid : Prop := Claim7.holds Tryz.pinned (.plain (OpenSpec.upto fnAnyOrderSpec)) fnAnyOrderUptoCard

/-- THE SECOND FORM's CARD OF 'laws.FnExactRedo'. -/
def fnExactRedoUptoCard : Claim7 := { stood := { row := fnExactRedoUptoRow, standIns := [], harness := (true, "d39a2ccd2d38708fb014ba224b4eefe3bee124da6cb2962b0f84ccc1b1c07d06"), looks := true }, kinds := [], alts := [], laidByText := true, laidKinds := [.handle], laidTests := true, laidLooks := .later }
def FnExactRedoUptoCardSaid : Prop := Claim7.holds Tryz.pinned (.plain (OpenSpec.upto fnExactRedoSpec)) fnExactRedoUptoCard

/-- THE SECOND FORM's CARD OF 'laws.FnExactPack'. -/
def fnExactPackUptoCard : Claim7 := { stood := { row := fnExactPackUptoRow, standIns := [], harness := (true, "d39a2ccd2d38708fb014ba224b4eefe3bee124da6cb2962b0f84ccc1b1c07d06"), looks := true }, kinds := [], alts := [], laidByText := true, laidKinds := [.handle], laidTests := true, laidLooks := .later }
def FnExactPackUptoCardSaid : Prop := Claim7.holds Tryz.pinned (.plain (OpenSpec.upto fnExactPackSpec)) fnExactPackUptoCard
end Rows
end Go.Proofs.YtnfdnnmddadmkaaGreatDoor
