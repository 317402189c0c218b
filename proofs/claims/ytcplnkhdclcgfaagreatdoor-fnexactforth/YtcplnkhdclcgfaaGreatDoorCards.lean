/-
  DERIVED. GIVEN WITH THE SEED: THE CARDS: each row of YtcplnkhdclcgfaaGreatDoorRows.lean that lists a variable, with what it lists TIED to the program's text (the seventh form; the later family's looks); each row that meets fmt, with fmt's text TOLD by the authors' own Lean function (tested against real Go, not proved from fmt's source: count such statements apart). THE CARD IS WHAT COUNTS. Prove the row's statement (the work); the ties are given (YtcplnkhdclcgfaaGreatDoorTie.lean); close each card by the builder's one call (the guide's Derived/Test/ToyasCard.lean, 'card_holds'). Laid BY PROGRAM, IN A SANDBOX (cutbox-door.mjs). By AI agents, Wed Nov 11 2026. No macro, syntax, notation, axiom, sorry.
-/
import Derived.Test.YtcplnkhdclcgfaaGreatDoorRows
import GoSem.ClaimSeven
namespace Go.Proofs.YtcplnkhdclcgfaaGreatDoor
namespace Rows

/-- THE TIED CARD OF 'laws.FnStep'. -/
def fnStepCard : Claim7 := { stood := { row := fnStepRow, standIns := [], harness := (true, "1f1602d6ec2f1e1f883d3a4831eb54278bdfc911fe00ca20126c9c65bc997e28"), looks := true }, kinds := [], alts := [], laidByText := true, laidKinds := [.handle], laidTests := true, laidLooks := .later }
def FnStepCardSaid : Prop := Claim7.holds Tryz.pinned (.plain (OpenSpec.ofChange fnStepSpec)) fnStepCard

/-- THE TIED CARD OF 'laws.FnExactAt'. -/
def fnExactAtCard : Claim7 := { stood := { row := fnExactAtRow, standIns := [], harness := (true, "1f1602d6ec2f1e1f883d3a4831eb54278bdfc911fe00ca20126c9c65bc997e28"), looks := true }, kinds := [], alts := [], laidByText := true, laidKinds := [.handle], laidTests := true, laidLooks := .later }
def FnExactAtCardSaid : Prop := Claim7.holds Tryz.pinned (.plain (OpenSpec.ofChange fnExactAtSpec)) fnExactAtCard

/-- THE TIED CARD OF 'laws.FnExactBack'. -/
def fnExactBackCard : Claim7 := { stood := { row := fnExactBackRow, standIns := [], harness := (true, "1f1602d6ec2f1e1f883d3a4831eb54278bdfc911fe00ca20126c9c65bc997e28"), looks := true }, kinds := [], alts := [], laidByText := true, laidKinds := [.handle], laidTests := true, laidLooks := .later }
def FnExactBackCardSaid : Prop := Claim7.holds Tryz.pinned (.plain (OpenSpec.ofChange fnExactBackSpec)) fnExactBackCard

/-- THE TIED CARD OF 'laws.FnExactUndone'. -/
def fnExactUndoneCard : Claim7 := { stood := { row := fnExactUndoneRow, standIns := [], harness := (true, "1f1602d6ec2f1e1f883d3a4831eb54278bdfc911fe00ca20126c9c65bc997e28"), looks := true }, kinds := [], alts := [], laidByText := true, laidKinds := [.handle], laidTests := true, laidLooks := .later }
def FnExactUndoneCardSaid : Prop := Claim7.holds Tryz.pinned (.plain (OpenSpec.ofChange fnExactUndoneSpec)) fnExactUndoneCard

/-- THE TIED CARD OF 'laws.FnExactBackOne'. -/
def fnExactBackOneCard : Claim7 := { stood := { row := fnExactBackOneRow, standIns := [], harness := (true, "1f1602d6ec2f1e1f883d3a4831eb54278bdfc911fe00ca20126c9c65bc997e28"), looks := true }, kinds := [], alts := [], laidByText := true, laidKinds := [.handle], laidTests := true, laidLooks := .later }
def FnExactBackOneCardSaid : Prop := Claim7.holds Tryz.pinned (.plain (OpenSpec.ofChange fnExactBackOneSpec)) fnExactBackOneCard

/-- THE TIED CARD OF 'laws.FnExactForth'. -/
def fnExactForthCard : Claim7 := { stood := { row := fnExactForthRow, standIns := [], harness := (true, "1f1602d6ec2f1e1f883d3a4831eb54278bdfc911fe00ca20126c9c65bc997e28"), looks := true }, kinds := [], alts := [], laidByText := true, laidKinds := [.handle], laidTests := true, laidLooks := .later }
def FnExactForthCardSaid : Prop := Claim7.holds Tryz.pinned (.plain (OpenSpec.ofChange fnExactForthSpec)) fnExactForthCard

/-- THE SECOND FORM's CARD OF 'laws.FnStep'. -/
def fnStepUptoCard : Claim7 := { stood := { row := fnStepUptoRow, standIns := [], harness := (true, "1f1602d6ec2f1e1f883d3a4831eb54278bdfc911fe00ca20126c9c65bc997e28"), looks := true }, kinds := [], alts := [], laidByText := true, laidKinds := [.handle], laidTests := true, laidLooks := .later }
def FnStepUptoCardSaid : Prop := Claim7.holds Tryz.pinned (.plain (OpenSpec.upto fnStepSpec)) fnStepUptoCard

/-- THE SECOND FORM's CARD OF 'laws.FnExactAt'. -/
def fnExactAtUptoCard : Claim7 := { stood := { row := fnExactAtUptoRow, standIns := [], harness := (true, "1f1602d6ec2f1e1f883d3a4831eb54278bdfc911fe00ca20126c9c65bc997e28"), looks := true }, kinds := [], alts := [], laidByText := true, laidKinds := [.handle], laidTests := true, laidLooks := .later }
def FnExactAtUptoCardSaid : Prop := Claim7.holds Tryz.pinned (.plain (OpenSpec.upto fnExactAtSpec)) fnExactAtUptoCard

/-- THE SECOND FORM's CARD OF 'laws.FnExactBack'. -/
def fnExactBackUptoCard : Claim7 := { stood := { row := fnExactBackUptoRow, standIns := [], harness := (true, "1f1602d6ec2f1e1f883d3a4831eb54278bdfc911fe00ca20126c9c65bc997e28"), looks := true }, kinds := [], alts := [], laidByText := true, laidKinds := [.handle], laidTests := true, laidLooks := .later }
def FnExactBackUptoCardSaid : Prop := Claim7.holds Tryz.pinned (.plain (OpenSpec.upto fnExactBackSpec)) fnExactBackUptoCard

/-- THE SECOND FORM's CARD OF 'laws.FnExactUndone'. -/
def fnExactUndoneUptoCard : Claim7 := { stood := { row := fnExactUndoneUptoRow, standIns := [], harness := (true, "1f1602d6ec2f1e1f883d3a4831eb54278bdfc911fe00ca20126c9c65bc997e28"), looks := true }, kinds := [], alts := [], laidByText := true, laidKinds := [.handle], laidTests := true, laidLooks := .later }
def FnExactUndoneUptoCardSaid : Prop := Claim7.holds Tryz.pinned (.plain (OpenSpec.upto fnExactUndoneSpec)) fnExactUndoneUptoCard

/-- THE SECOND FORM's CARD OF 'laws.FnExactBackOne'. -/
def fnExactBackOneUptoCard : Claim7 := { stood := { row := fnExactBackOneUptoRow, standIns := [], harness := (true, "1f1602d6ec2f1e1f883d3a4831eb54278bdfc911fe00ca20126c9c65bc997e28"), looks := true }, kinds := [], alts := [], laidByText := true, laidKinds := [.handle], laidTests := true, laidLooks := .later }
def FnExactBackOneUptoCardSaid : Prop := Claim7.holds Tryz.pinned (.plain (OpenSpec.upto fnExactBackOneSpec)) fnExactBackOneUptoCard

/-- THE SECOND FORM's CARD OF 'laws.FnExactForth'. -/
def fnExactForthUptoCard : Claim7 := { stood := { row := fnExactForthUptoRow, standIns := [], harness := (true, "1f1602d6ec2f1e1f883d3a4831eb54278bdfc911fe00ca20126c9c65bc997e28"), looks := true }, kinds := [], alts := [], laidByText := true, laidKinds := [.handle], laidTests := true, laidLooks := .later }
def FnExactForthUptoCardSaid : Prop := Claim7.holds Tryz.pinned (.plain (OpenSpec.upto fnExactForthSpec)) fnExactForthUptoCard
end Rows
end Go.Proofs.YtcplnkhdclcgfaaGreatDoor
