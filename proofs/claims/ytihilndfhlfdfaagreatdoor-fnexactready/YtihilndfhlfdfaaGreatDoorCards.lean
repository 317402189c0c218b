/-
  DERIVED. GIVEN WITH THE SEED: THE CARDS: each row of YtihilndfhlfdfaaGreatDoorRows.lean that lists a variable, with what it lists TIED to the program's text (the seventh form; the later family's looks); each row that meets fmt, with fmt's text TOLD by the authors' own Lean function (tested against real Go, not proved from fmt's source: count such statements apart). THE CARD IS WHAT COUNTS. Prove the row's statement (the work); the ties are given (YtihilndfhlfdfaaGreatDoorTie.lean); close each card by the builder's one call (the guide's Derived/Test/ToyasCard.lean, 'card_holds'). Laid BY PROGRAM, IN A SANDBOX (cutbox-door.mjs). By AI agents, Wed Nov 11 2026. No macro, syntax, notation, axiom, sorry.
-/
import Derived.Test.YtihilndfhlfdfaaGreatDoorRows
import GoSem.ClaimSeven
namespace Go.Proofs.YtihilndfhlfdfaaGreatDoor
namespace Rows

/-- THE TIED CARD OF 'laws.FnExactHalted'. -/
def fnExactHaltedCard : Claim7 := { stood := { row := fnExactHaltedRow, standIns := [], harness := (true, "cd9fb128652fa7393f9db547e42562b4bf95c3f218f9de519ca69958d1aa558f"), looks := true }, kinds := [], alts := [], laidByText := true, laidKinds := [.handle], laidTests := true, laidLooks := .later }
def FnExactHaltedCardSaid : Prop := Claim7.holds Tryz.pinned (.plain (OpenSpec.ofChange fnExactHaltedSpec)) fnExactHaltedCard

/-- THE TIED CARD OF 'laws.FnExactReady'. -/
def fnExactReadyCard : Claim7 := { stood := { row := fnExactReadyRow, standIns := [], harness := (true, "cd9fb128652fa7393f9db547e42562b4bf95c3f218f9de519ca69958d1aa558f"), looks := true }, kinds := [], alts := [], laidByText := true, laidKinds := [.handle], laidTests := true, laidLooks := .later }
def FnExactReadyCardSaid : Prop := Claim7.holds Tryz.pinned (.plain (OpenSpec.ofChange fnExactReadySpec)) fnExactReadyCard

/-- THE TIED CARD OF 'laws.FnExactStep'. -/
def fnExactStepCard : Claim7 := { stood := { row := fnExactStepRow, standIns := [], harness := (true, "cd9fb128652fa7393f9db547e42562b4bf95c3f218f9de519ca69958d1aa558f"), looks := true }, kinds := [], alts := [], laidByText := true, laidKinds := [.handle], laidTests := true, laidLooks := .later }
def FnExactStepCardSaid : Prop := Claim7.holds Tryz.pinned (.plain (OpenSpec.ofChange fnExactStepSpec)) fnExactStepCard

/-- THE TIED CARD OF 'laws.FnExactSysNew'. -/
def fnExactSysNewCard : Claim7 := { stood := { row := fnExactSysNewRow, standIns := [], harness := (true, "cd9fb128652fa7393f9db547e42562b4bf95c3f218f9de519ca69958d1aa558f"), looks := true }, kinds := [], alts := [], laidByText := true, laidKinds := [.handle], laidTests := true, laidLooks := .later }
def FnExactSysNewCardSaid : Prop := Claim7.holds Tryz.pinned (.plain (OpenSpec.ofChange fnExactSysNewSpec)) fnExactSysNewCard

/-- THE SECOND FORM's CARD OF 'laws.FnExactHalted'. -/
def fnExactHaltedUptoCard : Claim7 := { stood := { row := fnExactHaltedUptoRow, standIns := [], harness := (true, "cd9fb128652fa7393f9db547e42562b4bf95c3f218f9de519ca69958d1aa558f"), looks := true }, kinds := [], alts := [], laidByText := true, laidKinds := [.handle], laidTests := true, laidLooks := .later }
def FnExactHaltedUptoCardSaid : Prop := Claim7.holds Tryz.pinned (.plain (OpenSpec.upto fnExactHaltedSpec)) fnExactHaltedUptoCard

/-- THE SECOND FORM's CARD OF 'laws.FnExactReady'. -/
def fnExactReadyUptoCard : Claim7 := { stood := { row := fnExactReadyUptoRow, standIns := [], harness := (true, "cd9fb128652fa7393f9db547e42562b4bf95c3f218f9de519ca69958d1aa558f"), looks := true }, kinds := [], alts := [], laidByText := true, laidKinds := [.handle], laidTests := true, laidLooks := .later }
def FnExactReadyUptoCardSaid : Prop := Claim7.holds Tryz.pinned (.plain (OpenSpec.upto fnExactReadySpec)) fnExactReadyUptoCard

/-- THE SECOND FORM's CARD OF 'laws.FnExactStep'. -/
def fnExactStepUptoCard : Claim7 := { stood := { row := fnExactStepUptoRow, standIns := [], harness := (true, "cd9fb128652fa7393f9db547e42562b4bf95c3f218f9de519ca69958d1aa558f"), looks := true }, kinds := [], alts := [], laidByText := true, laidKinds := [.handle], laidTests := true, laidLooks := .later }
def FnExactStepUptoCardSaid : Prop := Claim7.holds Tryz.pinned (.plain (OpenSpec.upto fnExactStepSpec)) fnExactStepUptoCard

/-- THE SECOND FORM's CARD OF 'laws.FnExactSysNew'. -/
def fnExactSysNewUptoCard : Claim7 := { stood := { row := fnExactSysNewUptoRow, standIns := [], harness := (true, "cd9fb128652fa7393f9db547e42562b4bf95c3f218f9de519ca69958d1aa558f"), looks := true }, kinds := [], alts := [], laidByText := true, laidKinds := [.handle], laidTests := true, laidLooks := .later }
def FnExactSysNewUptoCardSaid : Prop := Claim7.holds Tryz.pinned (.plain (OpenSpec.upto fnExactSysNewSpec)) fnExactSysNewUptoCard
end Rows
end Go.Proofs.YtihilndfhlfdfaaGreatDoor
