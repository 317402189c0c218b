/-
  DERIVED. GIVEN WITH THE SEED: THE CARDS: each row of YtlpckaoldaijlaaGreatDoorRows.lean that lists a variable, with what it lists TIED to the program's text (the seventh form; the later family's looks); each row that meets fmt, with fmt's text TOLD by the authors' own Lean function (tested against real Go, not proved from fmt's source: count such statements apart). THE CARD IS WHAT COUNTS. Prove the row's statement (the work); the ties are given (YtlpckaoldaijlaaGreatDoorTie.lean); close each card by the builder's one call (the guide's Derived/Test/ToyasCard.lean, 'card_holds'). Laid BY PROGRAM, IN A SANDBOX (cutbox-door.mjs). By AI agents, Wed Nov 11 2026. No macro, syntax, notation, axiom, sorry.
-/
import Derived.Test.YtlpckaoldaijlaaGreatDoorRows
import GoSem.ClaimSeven
namespace Go.Proofs.YtlpckaoldaijlaaGreatDoor
namespace Rows

/-- THE TIED CARD OF 'laws.FnCuts'. -/
def fnCutsCard : Claim7 := { stood := { row := fnCutsRow, standIns := [], harness := (true, "d2755d0c479ab19de8a69a93b5edf28414d6e87b0a39c57984dd09459f9c19ea"), looks := true }, kinds := [], alts := [], laidByText := true, laidKinds := [.handle], laidTests := true, laidLooks := .later }
def FnCutsCardSaid : Prop := Claim7.holds Tryz.pinned (.plain (OpenSpec.ofChange fnCutsSpec)) fnCutsCard

/-- THE TIED CARD OF 'laws.FnExactStopOk'. -/
def fnExactStopOkCard : Claim7 := { stood := { row := fnExactStopOkRow, standIns := [], harness := (true, "d2755d0c479ab19de8a69a93b5edf28414d6e87b0a39c57984dd09459f9c19ea"), looks := true }, kinds := [], alts := [], laidByText := true, laidKinds := [.handle], laidTests := true, laidLooks := .later }
def FnExactStopOkCardSaid : Prop := Claim7.holds Tryz.pinned (.plain (OpenSpec.ofChange fnExactStopOkSpec)) fnExactStopOkCard

/-- THE TIED CARD OF 'laws.FnExactHolds'. -/
def fnExactHoldsCard : Claim7 := { stood := { row := fnExactHoldsRow, standIns := [], harness := (true, "d2755d0c479ab19de8a69a93b5edf28414d6e87b0a39c57984dd09459f9c19ea"), looks := true }, kinds := [], alts := [], laidByText := true, laidKinds := [.handle], laidTests := true, laidLooks := .later }
def FnExactHoldsCardSaid : Prop := Claim7.holds Tryz.pinned (.plain (OpenSpec.ofChange fnExactHoldsSpec)) fnExactHoldsCard

/-- THE TIED CARD OF 'laws.FnExactUntil'. -/
def fnExactUntilCard : Claim7 := { stood := { row := fnExactUntilRow, standIns := [], harness := (true, "d2755d0c479ab19de8a69a93b5edf28414d6e87b0a39c57984dd09459f9c19ea"), looks := true }, kinds := [], alts := [], laidByText := true, laidKinds := [.handle], laidTests := true, laidLooks := .later }
def FnExactUntilCardSaid : Prop := Claim7.holds Tryz.pinned (.plain (OpenSpec.ofChange fnExactUntilSpec)) fnExactUntilCard

/-- THE TIED CARD OF 'laws.FnExactLast'. -/
def fnExactLastCard : Claim7 := { stood := { row := fnExactLastRow, standIns := [], harness := (true, "d2755d0c479ab19de8a69a93b5edf28414d6e87b0a39c57984dd09459f9c19ea"), looks := true }, kinds := [], alts := [], laidByText := true, laidKinds := [.handle], laidTests := true, laidLooks := .later }
def FnExactLastCardSaid : Prop := Claim7.holds Tryz.pinned (.plain (OpenSpec.ofChange fnExactLastSpec)) fnExactLastCard

/-- THE SECOND FORM's CARD OF 'laws.FnCuts'. -/
def fnCutsUptoCard : Claim7 := { stood := { row := fnCutsUptoRow, standIns := [], harness := (true, "d2755d0c479ab19de8a69a93b5edf28414d6e87b0a39c57984dd09459f9c19ea"), looks := true }, kinds := [], alts := [], laidByText := true, laidKinds := [.handle], laidTests := true, laidLooks := .later }
def FnCutsUptoCardSaid : Prop := Claim7.holds Tryz.pinned (.plain (OpenSpec.upto fnCutsSpec)) fnCutsUptoCard

/-- THE SECOND FORM's CARD OF 'laws.FnExactStopOk'. -/
def fnExactStopOkUptoCard : Claim7 := { stood := { row := fnExactStopOkUptoRow, standIns := [], harness := (true, "d2755d0c479ab19de8a69a93b5edf28414d6e87b0a39c57984dd09459f9c19ea"), looks := true }, kinds := [], alts := [], laidByText := true, laidKinds := [.handle], laidTests := true, laidLooks := .later }
def FnExactStopOkUptoCardSaid : Prop := Claim7.holds Tryz.pinned (.plain (OpenSpec.upto fnExactStopOkSpec)) fnExactStopOkUptoCard

/-- THE SECOND FORM's CARD OF 'laws.FnExactHolds'. -/
def fnExactHoldsUptoCard : Claim7 := { stood := { row := fnExactHoldsUptoRow, standIns := [], harness := (true, "d2755d0c479ab19de8a69a93b5edf28414d6e87b0a39c57984dd09459f9c19ea"), looks := true }, kinds := [], alts := [], laidByText := true, laidKinds := [.handle], laidTests := true, laidLooks := .later }
def FnExactHoldsUptoCardSaid : Prop := Claim7.holds Tryz.pinned (.plain (OpenSpec.upto fnExactHoldsSpec)) fnExactHoldsUptoCard

/-- THE SECOND FORM's CARD OF 'laws.FnExactUntil'. -/
def fnExactUntilUptoCard : Claim7 := { stood := { row := fnExactUntilUptoRow, standIns := [], harness := (true, "d2755d0c479ab19de8a69a93b5edf28414d6e87b0a39c57984dd09459f9c19ea"), looks := true }, kinds := [], alts := [], laidByText := true, laidKinds := [.handle], laidTests := true, laidLooks := .later }
def FnExactUntilUptoCardSaid : Prop := Claim7.holds Tryz.pinned (.plain (OpenSpec.upto fnExactUntilSpec)) fnExactUntilUptoCard

/-- THE SECOND FORM's CARD OF 'laws.FnExactLast'. -/
def fnExactLastUptoCard : Claim7 := { stood := { row := fnExactLastUptoRow, standIns := [], harness := (true, "d2755d0c479ab19de8a69a93b5edf28414d6e87b0a39c57984dd09459f9c19ea"), looks := true }, kinds := [], alts := [], laidByText := true, laidKinds := [.handle], laidTests := true, laidLooks := .later }
def FnExactLastUptoCardSaid : Prop := Claim7.holds Tryz.pinned (.plain (OpenSpec.upto fnExactLastSpec)) fnExactLastUptoCard
end Rows
end Go.Proofs.YtlpckaoldaijlaaGreatDoor
