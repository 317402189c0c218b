/-
  DERIVED. GIVEN WITH THE SEED: THE CARDS: each row of YtdigofhceahpdaaGreatDoorRows.lean that lists a variable, with what it lists TIED to the program's text (the seventh form; the later family's looks); each row that meets fmt, with fmt's text TOLD by the authors' own Lean function (tested against real Go, not proved from fmt's source: count such statements apart). THE CARD IS WHAT COUNTS. Prove the row's statement (the work); the ties are given (YtdigofhceahpdaaGreatDoorTie.lean); close each card by the builder's one call (the guide's Derived/Test/ToyasCard.lean, 'card_holds'). Laid BY PROGRAM, IN A SANDBOX (cutbox-door.mjs). By AI agents, Wed Nov 11 2026. No macro, syntax, notation, axiom, sorry.
-/
import Derived.Test.YtdigofhceahpdaaGreatDoorRows
import GoSem.ClaimSeven
namespace Go.Proofs.YtdigofhceahpdaaGreatDoor
namespace Rows

/-- THE TIED CARD OF 'laws.FnExactSysNew'. -/
def fnExactSysNewCard : Claim7 := { stood := { row := fnExactSysNewRow, standIns := [], harness := (true, "c36a8ceda761168fa664065711a134115f26f22efc9fbdf22f4ca2908d1e5ee3"), looks := true }, kinds := [], alts := [], laidByText := true, laidKinds := [.handle], laidTests := true, laidLooks := .later }
def FnExactSysNewCardSaid : Prop := Claim7.holds Tryz.pinned (.plain (OpenSpec.ofChange fnExactSysNewSpec)) fnExactSysNewCard

/-- THE TIED CARD OF 'laws.FnExactStep'. -/
def fnExactStepCard : Claim7 := { stood := { row := fnExactStepRow, standIns := [], harness := (true, "c36a8ceda761168fa664065711a134115f26f22efc9fbdf22f4ca2908d1e5ee3"), looks := true }, kinds := [], alts := [], laidByText := true, laidKinds := [.handle], laidTests := true, laidLooks := .later }
def FnExactStepCardSaid : Prop := Claim7.holds Tryz.pinned (.plain (OpenSpec.ofChange fnExactStepSpec)) fnExactStepCard

/-- THE TIED CARD OF 'laws.FnExactSender'. -/
def fnExactSenderCard : Claim7 := { stood := { row := fnExactSenderRow, standIns := [], harness := (true, "c36a8ceda761168fa664065711a134115f26f22efc9fbdf22f4ca2908d1e5ee3"), looks := true }, kinds := [], alts := [], laidByText := true, laidKinds := [.handle], laidTests := true, laidLooks := .later }
def FnExactSenderCardSaid : Prop := Claim7.holds Tryz.pinned (.plain (OpenSpec.ofChange fnExactSenderSpec)) fnExactSenderCard

/-- THE SECOND FORM's CARD OF 'laws.FnExactSysNew'. -/
def fnExactSysNewUptoCard : Claim7 := { stood := { row := fnExactSysNewUptoRow, standIns := [], harness := (true, "c36a8ceda761168fa664065711a134115f26f22efc9fbdf22f4ca2908d1e5ee3"), looks := true }, kinds := [], alts := [], laidByText := true, laidKinds := [.handle], laidTests := true, laidLooks := .later }
def FnExactSysNewUptoCardSaid : Prop := Claim7.holds Tryz.pinned (.plain (OpenSpec.upto fnExactSysNewSpec)) fnExactSysNewUptoCard

/-- THE SECOND FORM's CARD OF 'laws.FnExactStep'. -/
def fnExactStepUptoCard : Claim7 := { stood := { row := fnExactStepUptoRow, standIns := [], harness := (true, "c36a8ceda761168fa664065711a134115f26f22efc9fbdf22f4ca2908d1e5ee3"), looks := true }, kinds := [], alts := [], laidByText := true, laidKinds := [.handle], laidTests := true, laidLooks := .later }
def FnExactStepUptoCardSaid : Prop := Claim7.holds Tryz.pinned (.plain (OpenSpec.upto fnExactStepSpec)) fnExactStepUptoCard

/-- THE SECOND FORM's CARD OF 'laws.FnExactSender'. -/
def fnExactSenderUptoCard : Claim7 := { stood := { row := fnExactSenderUptoRow, standIns := [], harness := (true, "c36a8ceda761168fa664065711a134115f26f22efc9fbdf22f4ca2908d1e5ee3"), looks := true }, kinds := [], alts := [], laidByText := true, laidKinds := [.handle], laidTests := true, laidLooks := .later }
def FnExactSenderUptoCardSaid : Prop := Claim7.holds Tryz.pinned (.plain (OpenSpec.upto fnExactSenderSpec)) fnExactSenderUptoCard
end Rows
end Go.Proofs.YtdigofhceahpdaaGreatDoor
