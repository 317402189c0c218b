/-
  DERIVED. GIVEN WITH THE SEED: THE CARDS: each row of YtkdablcbhhphoaaGreatDoorRows.lean that lists a variable, with what it lists TIED to the program's text (the seventh form; the later family's looks); each row that meets fmt, with fmt's text TOLD by the authors' own Lean function (tested against real Go, not proved from fmt's source: count such statements apart). THE CARD IS WHAT COUNTS. Prove the row's statement (the work); the ties are given (YtkdablcbhhphoaaGreatDoorTie.lean); close each card by the builder's one call (the guide's Derived/Test/ToyasCard.lean, 'card_holds'). Laid BY PROGRAM, IN A SANDBOX (cutbox-door.mjs). By AI agents, Wed Nov 11 2026. No macro, syntax, notation, axiom, sorry.
-/
import Derived.Test.YtkdablcbhhphoaaGreatDoorRows
import GoSem.ClaimSeven
namespace Go.Proofs.YtkdablcbhhphoaaGreatDoor
namespace Rows

/-- THE TIED CARD OF 'laws.FnExactBegin'. -/
def fnExactBeginCard : Claim7 := { stood := { row := fnExactBeginRow, standIns := [], harness := (true, "18b93b8c572db2b0f3da27e501885d8e25f2f4b473ad130fc5f8f643433de136"), looks := true }, kinds := [], alts := [], laidByText := true, laidKinds := [.handle], laidTests := true, laidLooks := .later }
def FnExactBeginCardSaid : Prop := Claim7.holds Tryz.pinned (.plain (OpenSpec.ofChange fnExactBeginSpec)) fnExactBeginCard

/-- THE TIED CARD OF 'laws.FnExactMark'. -/
def fnExactMarkCard : Claim7 := { stood := { row := fnExactMarkRow, standIns := [], harness := (true, "18b93b8c572db2b0f3da27e501885d8e25f2f4b473ad130fc5f8f643433de136"), looks := true }, kinds := [], alts := [], laidByText := true, laidKinds := [.handle], laidTests := true, laidLooks := .later }
def FnExactMarkCardSaid : Prop := Claim7.holds Tryz.pinned (.plain (OpenSpec.ofChange fnExactMarkSpec)) fnExactMarkCard

/-- THE TIED CARD OF 'laws.FnExactLiveStep'. -/
def fnExactLiveStepCard : Claim7 := { stood := { row := fnExactLiveStepRow, standIns := [], harness := (true, "18b93b8c572db2b0f3da27e501885d8e25f2f4b473ad130fc5f8f643433de136"), looks := true }, kinds := [], alts := [], laidByText := true, laidKinds := [.handle], laidTests := true, laidLooks := .later }
def FnExactLiveStepCardSaid : Prop := Claim7.holds Tryz.pinned (.plain (OpenSpec.ofChange fnExactLiveStepSpec)) fnExactLiveStepCard

/-- THE SECOND FORM's CARD OF 'laws.FnExactBegin'. -/
def fnExactBeginUptoCard : Claim7 := { stood := { row := fnExactBeginUptoRow, standIns := [], harness := (true, "18b93b8c572db2b0f3da27e501885d8e25f2f4b473ad130fc5f8f643433de136"), looks := true }, kinds := [], alts := [], laidByText := true, laidKinds := [.handle], laidTests := true, laidLooks := .later }
def FnExactBeginUptoCardSaid : Prop := Claim7.holds Tryz.pinned (.plain (OpenSpec.upto fnExactBeginSpec)) fnExactBeginUptoCard

/-- THE SECOND FORM's CARD OF 'laws.FnExactMark'. -/
def fnExactMarkUptoCard : Claim7 := { stood := { row := fnExactMarkUptoRow, standIns := [], harness := (true, "18b93b8c572db2b0f3da27e501885d8e25f2f4b473ad130fc5f8f643433de136"), looks := true }, kinds := [], alts := [], laidByText := true, laidKinds := [.handle], laidTests := true, laidLooks := .later }
def FnExactMarkUptoCardSaid : Prop := Claim7.holds Tryz.pinned (.plain (OpenSpec.upto fnExactMarkSpec)) fnExactMarkUptoCard

/-- THE SECOND FORM's CARD OF 'laws.FnExactLiveStep'. -/
def fnExactLiveStepUptoCard : Claim7 := { stood := { row := fnExactLiveStepUptoRow, standIns := [], harness := (true, "18b93b8c572db2b0f3da27e501885d8e25f2f4b473ad130fc5f8f643433de136"), looks := true }, kinds := [], alts := [], laidByText := true, laidKinds := [.handle], laidTests := true, laidLooks := .later }
def FnExactLiveStepUptoCardSaid : Prop := Claim7.holds Tryz.pinned (.plain (OpenSpec.upto fnExactLiveStepSpec)) fnExactLiveStepUptoCard
end Rows
end Go.Proofs.YtkdablcbhhphoaaGreatDoor
