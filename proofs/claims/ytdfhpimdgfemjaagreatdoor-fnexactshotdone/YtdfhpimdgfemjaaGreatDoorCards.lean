/-
  DERIVED. GIVEN WITH THE SEED: THE CARDS: each row of YtdfhpimdgfemjaaGreatDoorRows.lean that lists a variable, with what it lists TIED to the program's text (the seventh form; the later family's looks); each row that meets fmt, with fmt's text TOLD by the authors' own Lean function (tested against real Go, not proved from fmt's source: count such statements apart). THE CARD IS WHAT COUNTS. Prove the row's statement (the work); the ties are given (YtdfhpimdgfemjaaGreatDoorTie.lean); close each card by the builder's one call (the guide's Derived/Test/ToyasCard.lean, 'card_holds'). Laid BY PROGRAM, IN A SANDBOX (cutbox-door.mjs). By AI agents, Wed Nov 11 2026. No macro, syntax, notation, axiom, sorry.
-/
import Derived.Test.YtdfhpimdgfemjaaGreatDoorRows
import GoSem.ClaimSeven
namespace Go.Proofs.YtdfhpimdgfemjaaGreatDoor
namespace Rows

/-- THE TIED CARD OF 'laws.FnExactShotNew'. -/
def fnExactShotNewCard : Claim7 := { stood := { row := fnExactShotNewRow, standIns := [], harness := (true, "2e53f654b7bd8b0e5efdfdedfc4f71abbb6ca2149132742c79c9687d938c90c2"), looks := true }, kinds := [], alts := [], laidByText := true, laidKinds := [.handle], laidTests := true, laidLooks := .later }
def FnExactShotNewCardSaid : Prop := Claim7.holds Tryz.pinned (.plain (OpenSpec.ofChange fnExactShotNewSpec)) fnExactShotNewCard

/-- THE TIED CARD OF 'laws.FnExactLiveOk'. -/
def fnExactLiveOkCard : Claim7 := { stood := { row := fnExactLiveOkRow, standIns := [], harness := (true, "2e53f654b7bd8b0e5efdfdedfc4f71abbb6ca2149132742c79c9687d938c90c2"), looks := true }, kinds := [], alts := [], laidByText := true, laidKinds := [.handle], laidTests := true, laidLooks := .later }
def FnExactLiveOkCardSaid : Prop := Claim7.holds Tryz.pinned (.plain (OpenSpec.ofChange fnExactLiveOkSpec)) fnExactLiveOkCard

/-- THE TIED CARD OF 'laws.FnExactBegin'. -/
def fnExactBeginCard : Claim7 := { stood := { row := fnExactBeginRow, standIns := [], harness := (true, "2e53f654b7bd8b0e5efdfdedfc4f71abbb6ca2149132742c79c9687d938c90c2"), looks := true }, kinds := [], alts := [], laidByText := true, laidKinds := [.handle], laidTests := true, laidLooks := .later }
def FnExactBeginCardSaid : Prop := Claim7.holds Tryz.pinned (.plain (OpenSpec.ofChange fnExactBeginSpec)) fnExactBeginCard

/-- THE TIED CARD OF 'laws.FnExactMark'. -/
def fnExactMarkCard : Claim7 := { stood := { row := fnExactMarkRow, standIns := [], harness := (true, "2e53f654b7bd8b0e5efdfdedfc4f71abbb6ca2149132742c79c9687d938c90c2"), looks := true }, kinds := [], alts := [], laidByText := true, laidKinds := [.handle], laidTests := true, laidLooks := .later }
def FnExactMarkCardSaid : Prop := Claim7.holds Tryz.pinned (.plain (OpenSpec.ofChange fnExactMarkSpec)) fnExactMarkCard

/-- THE TIED CARD OF 'laws.FnExactLiveStep'. -/
def fnExactLiveStepCard : Claim7 := { stood := { row := fnExactLiveStepRow, standIns := [], harness := (true, "2e53f654b7bd8b0e5efdfdedfc4f71abbb6ca2149132742c79c9687d938c90c2"), looks := true }, kinds := [], alts := [], laidByText := true, laidKinds := [.handle], laidTests := true, laidLooks := .later }
def FnExactLiveStepCardSaid : Prop := Claim7.holds Tryz.pinned (.plain (OpenSpec.ofChange fnExactLiveStepSpec)) fnExactLiveStepCard

/-- THE TIED CARD OF 'laws.FnExactShotDone'. -/
def fnExactShotDoneCard : Claim7 := { stood := { row := fnExactShotDoneRow, standIns := [], harness := (true, "2e53f654b7bd8b0e5efdfdedfc4f71abbb6ca2149132742c79c9687d938c90c2"), looks := true }, kinds := [], alts := [], laidByText := true, laidKinds := [.handle], laidTests := true, laidLooks := .later }
def FnExactShotDoneCardSaid : Prop := Claim7.holds Tryz.pinned (.plain (OpenSpec.ofChange fnExactShotDoneSpec)) fnExactShotDoneCard

/-- THE SECOND FORM's CARD OF 'laws.FnExactShotNew'. -/
def fnExactShotNewUptoCard : Claim7 := { stood := { row := fnExactShotNewUptoRow, standIns := [], harness := (true, "2e53f654b7bd8b0e5efdfdedfc4f71abbb6ca2149132742c79c9687d938c90c2"), looks := true }, kinds := [], alts := [], laidByText := true, laidKinds := [.handle], laidTests := true, laidLooks := .later }
def FnExactShotNewUptoCardSaid : Prop := Claim7.holds Tryz.pinned (.plain (OpenSpec.upto fnExactShotNewSpec)) fnExactShotNewUptoCard

/-- THE SECOND FORM's CARD OF 'laws.FnExactLiveOk'. -/
def fnExactLiveOkUptoCard : Claim7 := { stood := { row := fnExactLiveOkUptoRow, standIns := [], harness := (true, "2e53f654b7bd8b0e5efdfdedfc4f71abbb6ca2149132742c79c9687d938c90c2"), looks := true }, kinds := [], alts := [], laidByText := true, laidKinds := [.handle], laidTests := true, laidLooks := .later }
def FnExactLiveOkUptoCardSaid : Prop := Claim7.holds Tryz.pinned (.plain (OpenSpec.upto fnExactLiveOkSpec)) fnExactLiveOkUptoCard

/-- THE SECOND FORM's CARD OF 'laws.FnExactBegin'. -/
def fnExactBeginUptoCard : Claim7 := { stood := { row := fnExactBeginUptoRow, standIns := [], harness := (true, "2e53f654b7bd8b0e5efdfdedfc4f71abbb6ca2149132742c79c9687d938c90c2"), looks := true }, kinds := [], alts := [], laidByText := true, laidKinds := [.handle], laidTests := true, laidLooks := .later }
def FnExactBeginUptoCardSaid : Prop := Claim7.holds Tryz.pinned (.plain (OpenSpec.upto fnExactBeginSpec)) fnExactBeginUptoCard

/-- THE SECOND FORM's CARD OF 'laws.FnExactMark'. -/
def fnExactMarkUptoCard : Claim7 := { stood := { row := fnExactMarkUptoRow, standIns := [], harness := (true, "2e53f654b7bd8b0e5efdfdedfc4f71abbb6ca2149132742c79c9687d938c90c2"), looks := true }, kinds := [], alts := [], laidByText := true, laidKinds := [.handle], laidTests := true, laidLooks := .later }
def FnExactMarkUptoCardSaid : Prop := Claim7.holds Tryz.pinned (.plain (OpenSpec.upto fnExactMarkSpec)) fnExactMarkUptoCard

/-- THE SECOND FORM's CARD OF 'laws.FnExactLiveStep'. -/
def fnExactLiveStepUptoCard : Claim7 := { stood := { row := fnExactLiveStepUptoRow, standIns := [], harness := (true, "2e53f654b7bd8b0e5efdfdedfc4f71abbb6ca2149132742c79c9687d938c90c2"), looks := true }, kinds := [], alts := [], laidByText := true, laidKinds := [.handle], laidTests := true, laidLooks := .later }
def FnExactLiveStepUptoCardSaid : Prop := Claim7.holds Tryz.pinned (.plain (OpenSpec.upto fnExactLiveStepSpec)) fnExactLiveStepUptoCard

/-- THE SECOND FORM's CARD OF 'laws.FnExactShotDone'. -/
def fnExactShotDoneUptoCard : Claim7 := { stood := { row := fnExactShotDoneUptoRow, standIns := [], harness := (true, "2e53f654b7bd8b0e5efdfdedfc4f71abbb6ca2149132742c79c9687d938c90c2"), looks := true }, kinds := [], alts := [], laidByText := true, laidKinds := [.handle], laidTests := true, laidLooks := .later }
def FnExactShotDoneUptoCardSaid : Prop := Claim7.holds Tryz.pinned (.plain (OpenSpec.upto fnExactShotDoneSpec)) fnExactShotDoneUptoCard
end Rows
end Go.Proofs.YtdfhpimdgfemjaaGreatDoor
