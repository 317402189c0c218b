/-
  DERIVED. GIVEN WITH THE SEED: THE CARDS: each row of YtkpbdcahpkpobabGreatDoorRows.lean that lists a variable, with what it lists TIED to the program's text (the seventh form; the later family's looks); each row that meets fmt, with fmt's text TOLD by the authors' own Lean function (tested against real Go, not proved from fmt's source: count such statements apart). THE CARD IS WHAT COUNTS. Prove the row's statement (the work); the ties are given (YtkpbdcahpkpobabGreatDoorTie.lean); close each card by the builder's one call (the guide's Derived/Test/ToyasCard.lean, 'card_holds'). Laid BY PROGRAM, IN A SANDBOX (cutbox-door.mjs). By AI agents, Wed Nov 11 2026. No macro, syntax, notation, axiom, sorry.
-/
import Derived.Test.YtkpbdcahpkpobabGreatDoorRows
import GoSem.ClaimSeven
namespace Go.Proofs.YtkpbdcahpkpobabGreatDoor
namespace Rows

/-- THE TIED CARD OF 'laws.FnExactSysOk'. -/
def fnExactSysOkCard : Claim7 := { stood := { row := fnExactSysOkRow, standIns := [], harness := (true, "47cf1440a417f57c973a0b777d3de612fe9ed5f7bad589e36eadfda8d1396108"), looks := true }, kinds := [], alts := [], laidByText := true, laidKinds := [.handle], laidTests := true, laidLooks := .later }
def FnExactSysOkCardSaid : Prop := Claim7.holds Tryz.pinned (.plain (OpenSpec.ofChange fnExactSysOkSpec)) fnExactSysOkCard

/-- THE TIED CARD OF 'laws.FnExactSysNew'. -/
def fnExactSysNewCard : Claim7 := { stood := { row := fnExactSysNewRow, standIns := [], harness := (true, "47cf1440a417f57c973a0b777d3de612fe9ed5f7bad589e36eadfda8d1396108"), looks := true }, kinds := [], alts := [], laidByText := true, laidKinds := [.handle], laidTests := true, laidLooks := .later }
def FnExactSysNewCardSaid : Prop := Claim7.holds Tryz.pinned (.plain (OpenSpec.ofChange fnExactSysNewSpec)) fnExactSysNewCard

/-- THE TIED CARD OF 'laws.FnExactStep'. -/
def fnExactStepCard : Claim7 := { stood := { row := fnExactStepRow, standIns := [], harness := (true, "47cf1440a417f57c973a0b777d3de612fe9ed5f7bad589e36eadfda8d1396108"), looks := true }, kinds := [], alts := [], laidByText := true, laidKinds := [.handle], laidTests := true, laidLooks := .later }
def FnExactStepCardSaid : Prop := Claim7.holds Tryz.pinned (.plain (OpenSpec.ofChange fnExactStepSpec)) fnExactStepCard

/-- THE TIED CARD OF 'laws.FnExactReady'. -/
def fnExactReadyCard : Claim7 := { stood := { row := fnExactReadyRow, standIns := [], harness := (true, "47cf1440a417f57c973a0b777d3de612fe9ed5f7bad589e36eadfda8d1396108"), looks := true }, kinds := [], alts := [], laidByText := true, laidKinds := [.handle], laidTests := true, laidLooks := .later }
def FnExactReadyCardSaid : Prop := Claim7.holds Tryz.pinned (.plain (OpenSpec.ofChange fnExactReadySpec)) fnExactReadyCard

/-- THE TIED CARD OF 'laws.FnExactHalted'. -/
def fnExactHaltedCard : Claim7 := { stood := { row := fnExactHaltedRow, standIns := [], harness := (true, "47cf1440a417f57c973a0b777d3de612fe9ed5f7bad589e36eadfda8d1396108"), looks := true }, kinds := [], alts := [], laidByText := true, laidKinds := [.handle], laidTests := true, laidLooks := .later }
def FnExactHaltedCardSaid : Prop := Claim7.holds Tryz.pinned (.plain (OpenSpec.ofChange fnExactHaltedSpec)) fnExactHaltedCard

/-- THE SECOND FORM's CARD OF 'laws.FnExactSysOk'. -/
def fnExactSysOkUptoCard : Claim7 := { stood := { row := fnExactSysOkUptoRow, standIns := [], harness := (true, "47cf1440a417f57c973a0b777d3de612fe9ed5f7bad589e36eadfda8d1396108"), looks := true }, kinds := [], alts := [], laidByText := true, laidKinds := [.handle], laidTests := true, laidLooks := .later }
def FnExactSysOkUptoCardSaid : Prop := Claim7.holds Tryz.pinned (.plain (OpenSpec.upto fnExactSysOkSpec)) fnExactSysOkUptoCard

/-- THE SECOND FORM's CARD OF 'laws.FnExactSysNew'. -/
def fnExactSysNewUptoCard : Claim7 := { stood := { row := fnExactSysNewUptoRow, standIns := [], harness := (true, "47cf1440a417f57c973a0b777d3de612fe9ed5f7bad589e36eadfda8d1396108"), looks := true }, kinds := [], alts := [], laidByText := true, laidKinds := [.handle], laidTests := true, laidLooks := .later }
def FnExactSysNewUptoCardSaid : Prop := Claim7.holds Tryz.pinned (.plain (OpenSpec.upto fnExactSysNewSpec)) fnExactSysNewUptoCard

/-- THE SECOND FORM's CARD OF 'laws.FnExactStep'. -/
def fnExactStepUptoCard : Claim7 := { stood := { row := fnExactStepUptoRow, standIns := [], harness := (true, "47cf1440a417f57c973a0b777d3de612fe9ed5f7bad589e36eadfda8d1396108"), looks := true }, kinds := [], alts := [], laidByText := true, laidKinds := [.handle], laidTests := true, laidLooks := .later }
def FnExactStepUptoCardSaid : Prop := Claim7.holds Tryz.pinned (.plain (OpenSpec.upto fnExactStepSpec)) fnExactStepUptoCard

/-- THE SECOND FORM's CARD OF 'laws.FnExactReady'. -/
def fnExactReadyUptoCard : Claim7 := { stood := { row := fnExactReadyUptoRow, standIns := [], harness := (true, "47cf1440a417f57c973a0b777d3de612fe9ed5f7bad589e36eadfda8d1396108"), looks := true }, kinds := [], alts := [], laidByText := true, laidKinds := [.handle], laidTests := true, laidLooks := .later }
def FnExactReadyUptoCardSaid : Prop := Claim7.holds Tryz.pinned (.plain (OpenSpec.upto fnExactReadySpec)) fnExactReadyUptoCard

/-- THE SECOND FORM's CARD OF 'laws.FnExactHalted'. -/
def fnExactHaltedUptoCard : Claim7 := { stood := { row := fnExactHaltedUptoRow, standIns := [], harness := (true, "47cf1440a417f57c973a0b777d3de612fe9ed5f7bad589e36eadfda8d1396108"), looks := true }, kinds := [], alts := [], laidByText := true, laidKinds := [.handle], laidTests := true, laidLooks := .later }
def FnExactHaltedUptoCardSaid : Prop := Claim7.holds Tryz.pinned (.plain (OpenSpec.upto fnExactHaltedSpec)) fnExactHaltedUptoCard
end Rows
end Go.Proofs.YtkpbdcahpkpobabGreatDoor
