/-
  DERIVED. GIVEN WITH THE SEED: THE CARDS: each row of YtkjeakklbgpdaaaGreatDoorRows.lean that lists a variable, with what it lists TIED to the program's text (the seventh form; the later family's looks); each row that meets fmt, with fmt's text TOLD by the authors' own Lean function (tested against real Go, not proved from fmt's source: count such statements apart). THE CARD IS WHAT COUNTS. Prove the row's statement (the work); the ties are given (YtkjeakklbgpdaaaGreatDoorTie.lean); close each card by the builder's one call (the guide's Derived/Test/ToyasCard.lean, 'card_holds'). Laid BY PROGRAM, IN A SANDBOX (cutbox-door.mjs). By AI agents, Wed Nov 11 2026. No macro, syntax, notation, axiom, sorry.
-/
import Derived.Test.YtkjeakklbgpdaaaGreatDoorRows
import GoSem.ClaimSeven
namespace Go.Proofs.YtkjeakklbgpdaaaGreatDoor
namespace Rows

/-- THE TIED CARD OF 'laws.FnExactSysOk'. -/
def fnExactSysOkCard : Claim7 := { stood := { row := fnExactSysOkRow, standIns := [], harness := (true, "74e8573b2aff6c5fe0b3ee5eedef929695837f14691819bcc4fa45e24f252ce6"), looks := true }, kinds := [], alts := [], laidByText := true, laidKinds := [.handle], laidTests := true, laidLooks := .later }
def FnExactSysOkCardSaid : Prop := Claim7.holds Tryz.pinned (.plain (OpenSpec.ofChange fnExactSysOkSpec)) fnExactSysOkCard

/-- THE TIED CARD OF 'laws.FnExactCutOk'. -/
def fnExactCutOkCard : Claim7 := { stood := { row := fnExactCutOkRow, standIns := [], harness := (true, "74e8573b2aff6c5fe0b3ee5eedef929695837f14691819bcc4fa45e24f252ce6"), looks := true }, kinds := [], alts := [], laidByText := true, laidKinds := [.handle], laidTests := true, laidLooks := .later }
def FnExactCutOkCardSaid : Prop := Claim7.holds Tryz.pinned (.plain (OpenSpec.ofChange fnExactCutOkSpec)) fnExactCutOkCard

/-- THE TIED CARD OF 'laws.FnExactWhole'. -/
def fnExactWholeCard : Claim7 := { stood := { row := fnExactWholeRow, standIns := [], harness := (true, "74e8573b2aff6c5fe0b3ee5eedef929695837f14691819bcc4fa45e24f252ce6"), looks := true }, kinds := [], alts := [], laidByText := true, laidKinds := [.handle], laidTests := true, laidLooks := .later }
def FnExactWholeCardSaid : Prop := Claim7.holds Tryz.pinned (.plain (OpenSpec.ofChange fnExactWholeSpec)) fnExactWholeCard

/-- THE TIED CARD OF 'laws.FnExactClose'. -/
def fnExactCloseCard : Claim7 := { stood := { row := fnExactCloseRow, standIns := [], harness := (true, "74e8573b2aff6c5fe0b3ee5eedef929695837f14691819bcc4fa45e24f252ce6"), looks := true }, kinds := [], alts := [], laidByText := true, laidKinds := [.handle], laidTests := true, laidLooks := .later }
def FnExactCloseCardSaid : Prop := Claim7.holds Tryz.pinned (.plain (OpenSpec.ofChange fnExactCloseSpec)) fnExactCloseCard

/-- THE TIED CARD OF 'laws.FnExactFull'. -/
def fnExactFullCard : Claim7 := { stood := { row := fnExactFullRow, standIns := [], harness := (true, "74e8573b2aff6c5fe0b3ee5eedef929695837f14691819bcc4fa45e24f252ce6"), looks := true }, kinds := [], alts := [], laidByText := true, laidKinds := [.handle], laidTests := true, laidLooks := .later }
def FnExactFullCardSaid : Prop := Claim7.holds Tryz.pinned (.plain (OpenSpec.ofChange fnExactFullSpec)) fnExactFullCard

/-- THE TIED CARD OF 'laws.FnExactAt'. -/
def fnExactAtCard : Claim7 := { stood := { row := fnExactAtRow, standIns := [], harness := (true, "74e8573b2aff6c5fe0b3ee5eedef929695837f14691819bcc4fa45e24f252ce6"), looks := true }, kinds := [], alts := [], laidByText := true, laidKinds := [.handle], laidTests := true, laidLooks := .later }
def FnExactAtCardSaid : Prop := Claim7.holds Tryz.pinned (.plain (OpenSpec.ofChange fnExactAtSpec)) fnExactAtCard

/-- THE SECOND FORM's CARD OF 'laws.FnExactSysOk'. -/
def fnExactSysOkUptoCard : Claim7 := { stood := { row := fnExactSysOkUptoRow, standIns := [], harness := (true, "74e8573b2aff6c5fe0b3ee5eedef929695837f14691819bcc4fa45e24f252ce6"), looks := true }, kinds := [], alts := [], laidByText := true, laidKinds := [.handle], laidTests := true, laidLooks := .later }
def FnExactSysOkUptoCardSaid : Prop := Claim7.holds Tryz.pinned (.plain (OpenSpec.upto fnExactSysOkSpec)) fnExactSysOkUptoCard

/-- THE SECOND FORM's CARD OF 'laws.FnExactCutOk'. -/
def fnExactCutOkUptoCard : Claim7 := { stood := { row := fnExactCutOkUptoRow, standIns := [], harness := (true, "74e8573b2aff6c5fe0b3ee5eedef929695837f14691819bcc4fa45e24f252ce6"), looks := true }, kinds := [], alts := [], laidByText := true, laidKinds := [.handle], laidTests := true, laidLooks := .later }
def FnExactCutOkUptoCardSaid : Prop := Claim7.holds Tryz.pinned (.plain (OpenSpec.upto fnExactCutOkSpec)) fnExactCutOkUptoCard

/-- THE SECOND FORM's CARD OF 'laws.FnExactWhole'. -/
def fnExactWholeUptoCard : Claim7 := { stood := { row := fnExactWholeUptoRow, standIns := [], harness := (true, "74e8573b2aff6c5fe0b3ee5eedef929695837f14691819bcc4fa45e24f252ce6"), looks := true }, kinds := [], alts := [], laidByText := true, laidKinds := [.handle], laidTests := true, laidLooks := .later }
def FnExactWholeUptoCardSaid : Prop := Claim7.holds Tryz.pinned (.plain (OpenSpec.upto fnExactWholeSpec)) fnExactWholeUptoCard

/-- THE SECOND FORM's CARD OF 'laws.FnExactClose'. -/
def fnExactCloseUptoCard : Claim7 := { stood := { row := fnExactCloseUptoRow, standIns := [], harness := (true, "74e8573b2aff6c5fe0b3ee5eedef929695837f14691819bcc4fa45e24f252ce6"), looks := true }, kinds := [], alts := [], laidByText := true, laidKinds := [.handle], laidTests := true, laidLooks := .later }
def FnExactCloseUptoCardSaid : Prop := Claim7.holds Tryz.pinned (.plain (OpenSpec.upto fnExactCloseSpec)) fnExactCloseUptoCard

/-- THE SECOND FORM's CARD OF 'laws.FnExactFull'. -/
def fnExactFullUptoCard : Claim7 := { stood := { row := fnExactFullUptoRow, standIns := [], harness := (true, "74e8573b2aff6c5fe0b3ee5eedef929695837f14691819bcc4fa45e24f252ce6"), looks := true }, kinds := [], alts := [], laidByText := true, laidKinds := [.handle], laidTests := true, laidLooks := .later }
def FnExactFullUptoCardSaid : Prop := Claim7.holds Tryz.pinned (.plain (OpenSpec.upto fnExactFullSpec)) fnExactFullUptoCard

/-- THE SECOND FORM's CARD OF 'laws.FnExactAt'. -/
def fnExactAtUptoCard : Claim7 := { stood := { row := fnExactAtUptoRow, standIns := [], harness := (true, "74e8573b2aff6c5fe0b3ee5eedef929695837f14691819bcc4fa45e24f252ce6"), looks := true }, kinds := [], alts := [], laidByText := true, laidKinds := [.handle], laidTests := true, laidLooks := .later }
def FnExactAtUptoCardSaid : Prop := Claim7.holds Tryz.pinned (.plain (OpenSpec.upto fnExactAtSpec)) fnExactAtUptoCard
end Rows
end Go.Proofs.YtkjeakklbgpdaaaGreatDoor
