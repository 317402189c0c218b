/-
  DERIVED. GIVEN WITH THE SEED: THE CARDS: each row of YtfdanemmefckpaaGreatDoorRows.lean that lists a variable, with what it lists TIED to the program's text (the seventh form; the later family's looks); each row that meets fmt, with fmt's text TOLD by the authors' own Lean function (tested against real Go, not proved from fmt's source: count such statements apart). THE CARD IS WHAT COUNTS. Prove the row's statement (the work); the ties are given (YtfdanemmefckpaaGreatDoorTie.lean); close each card by the builder's one call (the guide's Derived/Test/ToyasCard.lean, 'card_holds'). Laid BY PROGRAM, IN A SANDBOX (cutbox-door.mjs). By AI agents, Wed Nov 11 2026. No macro, syntax, notation, axiom, sorry.
-/
import Derived.Test.YtfdanemmefckpaaGreatDoorRows
import GoSem.ClaimSeven
namespace Go.Proofs.YtfdanemmefckpaaGreatDoor
namespace Rows

/-- THE TIED CARD OF 'laws.FnExactShotNew'. -/
def fnExactShotNewCard : Claim7 := { stood := { row := fnExactShotNewRow, standIns := [], harness := (true, "fa23a5d70619869136f02b9486f12b77d893f1a6d9b9c128810d54a2842ad3ef"), looks := true }, kinds := [], alts := [], laidByText := true, laidKinds := [.handle], laidTests := true, laidLooks := .later }
def FnExactShotNewCardSaid : Prop := Claim7.holds Tryz.pinned (.plain (OpenSpec.ofChange fnExactShotNewSpec)) fnExactShotNewCard

/-- THE TIED CARD OF 'laws.FnExactBegin'. -/
def fnExactBeginCard : Claim7 := { stood := { row := fnExactBeginRow, standIns := [], harness := (true, "fa23a5d70619869136f02b9486f12b77d893f1a6d9b9c128810d54a2842ad3ef"), looks := true }, kinds := [], alts := [], laidByText := true, laidKinds := [.handle], laidTests := true, laidLooks := .later }
def FnExactBeginCardSaid : Prop := Claim7.holds Tryz.pinned (.plain (OpenSpec.ofChange fnExactBeginSpec)) fnExactBeginCard

/-- THE TIED CARD OF 'laws.FnExactMark'. -/
def fnExactMarkCard : Claim7 := { stood := { row := fnExactMarkRow, standIns := [], harness := (true, "fa23a5d70619869136f02b9486f12b77d893f1a6d9b9c128810d54a2842ad3ef"), looks := true }, kinds := [], alts := [], laidByText := true, laidKinds := [.handle], laidTests := true, laidLooks := .later }
def FnExactMarkCardSaid : Prop := Claim7.holds Tryz.pinned (.plain (OpenSpec.ofChange fnExactMarkSpec)) fnExactMarkCard

/-- THE TIED CARD OF 'laws.FnExactLiveStep'. -/
def fnExactLiveStepCard : Claim7 := { stood := { row := fnExactLiveStepRow, standIns := [], harness := (true, "fa23a5d70619869136f02b9486f12b77d893f1a6d9b9c128810d54a2842ad3ef"), looks := true }, kinds := [], alts := [], laidByText := true, laidKinds := [.handle], laidTests := true, laidLooks := .later }
def FnExactLiveStepCardSaid : Prop := Claim7.holds Tryz.pinned (.plain (OpenSpec.ofChange fnExactLiveStepSpec)) fnExactLiveStepCard

/-- THE SECOND FORM's CARD OF 'laws.FnExactShotNew'. -/
def fnExactShotNewUptoCard : Claim7 := { stood := { row := fnExactShotNewUptoRow, standIns := [], harness := (true, "fa23a5d70619869136f02b9486f12b77d893f1a6d9b9c128810d54a2842ad3ef"), looks := true }, kinds := [], alts := [], laidByText := true, laidKinds := [.handle], laidTests := true, laidLooks := .later }
def FnExactShotNewUptoCardSaid : Prop := Claim7.holds Tryz.pinned (.plain (OpenSpec.upto fnExactShotNewSpec)) fnExactShotNewUptoCard

/-- THE SECOND FORM's CARD OF 'laws.FnExactBegin'. -/
def fnExactBeginUptoCard : Claim7 := { stood := { row := fnExactBeginUptoRow, standIns := [], harness := (true, "fa23a5d70619869136f02b9486f12b77d893f1a6d9b9c128810d54a2842ad3ef"), looks := true }, kinds := [], alts := [], laidByText := true, laidKinds := [.handle], laidTests := true, laidLooks := .later }
def FnExactBeginUptoCardSaid : Prop := Claim7.holds Tryz.pinned (.plain (OpenSpec.upto fnExactBeginSpec)) fnExactBeginUptoCard

/-- THE SECOND FORM's CARD OF 'laws.FnExactMark'. -/
def fnExactMarkUptoCard : Claim7 := { stood := { row := fnExactMarkUptoRow, standIns := [], harness := (true, "fa23a5d70619869136f02b9486f12b77d893f1a6d9b9c128810d54a2842ad3ef"), looks := true }, kinds := [], alts := [], laidByText := true, laidKinds := [.handle], laidTests := true, laidLooks := .later }
def FnExactMarkUptoCardSaid : Prop := Claim7.holds Tryz.pinned (.plain (OpenSpec.upto fnExactMarkSpec)) fnExactMarkUptoCard

/-- THE SECOND FORM's CARD OF 'laws.FnExactLiveStep'. -/
def fnExactLiveStepUptoCard : Claim7 := { stood := { row := fnExactLiveStepUptoRow, standIns := [], harness := (true, "fa23a5d70619869136f02b9486f12b77d893f1a6d9b9c128810d54a2842ad3ef"), looks := true }, kinds := [], alts := [], laidByText := true, laidKinds := [.handle], laidTests := true, laidLooks := .later }
def FnExactLiveStepUptoCardSaid : Prop := Claim7.holds Tryz.pinned (.plain (OpenSpec.upto fnExactLiveStepSpec)) fnExactLiveStepUptoCard
end Rows
end Go.Proofs.YtfdanemmefckpaaGreatDoor
