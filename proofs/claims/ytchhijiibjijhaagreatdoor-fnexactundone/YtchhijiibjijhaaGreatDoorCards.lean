/-
  DERIVED. GIVEN WITH THE SEED: THE CARDS: each row of YtchhijiibjijhaaGreatDoorRows.lean that lists a variable, with what it lists TIED to the program's text (the seventh form; the later family's looks); each row that meets fmt, with fmt's text TOLD by the authors' own Lean function (tested against real Go, not proved from fmt's source: count such statements apart). THE CARD IS WHAT COUNTS. Prove the row's statement (the work); the ties are given (YtchhijiibjijhaaGreatDoorTie.lean); close each card by the builder's one call (the guide's Derived/Test/ToyasCard.lean, 'card_holds'). Laid BY PROGRAM, IN A SANDBOX (cutbox-door.mjs). By AI agents, Wed Nov 11 2026. No macro, syntax, notation, axiom, sorry.
-/
import Derived.Test.YtchhijiibjijhaaGreatDoorRows
import GoSem.ClaimSeven
namespace Go.Proofs.YtchhijiibjijhaaGreatDoor
namespace Rows

/-- THE TIED CARD OF 'laws.FnExactRedo'. -/
def fnExactRedoCard : Claim7 := { stood := { row := fnExactRedoRow, standIns := [], harness := (true, "07bb4e60d138bfc48b1e6344fa59636c0d9195545de7cb292922bf8241d08c4c"), looks := true }, kinds := [], alts := [], laidByText := true, laidKinds := [.handle], laidTests := true, laidLooks := .later }
def FnExactRedoCardSaid : Prop := Claim7.holds Tryz.pinned (.plain (OpenSpec.ofChange fnExactRedoSpec)) fnExactRedoCard

/-- THE TIED CARD OF 'laws.FnExactAt'. -/
def fnExactAtCard : Claim7 := { stood := { row := fnExactAtRow, standIns := [], harness := (true, "07bb4e60d138bfc48b1e6344fa59636c0d9195545de7cb292922bf8241d08c4c"), looks := true }, kinds := [], alts := [], laidByText := true, laidKinds := [.handle], laidTests := true, laidLooks := .later }
def FnExactAtCardSaid : Prop := Claim7.holds Tryz.pinned (.plain (OpenSpec.ofChange fnExactAtSpec)) fnExactAtCard

/-- THE TIED CARD OF 'laws.FnExactBack'. -/
def fnExactBackCard : Claim7 := { stood := { row := fnExactBackRow, standIns := [], harness := (true, "07bb4e60d138bfc48b1e6344fa59636c0d9195545de7cb292922bf8241d08c4c"), looks := true }, kinds := [], alts := [], laidByText := true, laidKinds := [.handle], laidTests := true, laidLooks := .later }
def FnExactBackCardSaid : Prop := Claim7.holds Tryz.pinned (.plain (OpenSpec.ofChange fnExactBackSpec)) fnExactBackCard

/-- THE TIED CARD OF 'laws.FnExactBackOne'. -/
def fnExactBackOneCard : Claim7 := { stood := { row := fnExactBackOneRow, standIns := [], harness := (true, "07bb4e60d138bfc48b1e6344fa59636c0d9195545de7cb292922bf8241d08c4c"), looks := true }, kinds := [], alts := [], laidByText := true, laidKinds := [.handle], laidTests := true, laidLooks := .later }
def FnExactBackOneCardSaid : Prop := Claim7.holds Tryz.pinned (.plain (OpenSpec.ofChange fnExactBackOneSpec)) fnExactBackOneCard

/-- THE TIED CARD OF 'laws.FnExactUndone'. -/
def fnExactUndoneCard : Claim7 := { stood := { row := fnExactUndoneRow, standIns := [], harness := (true, "07bb4e60d138bfc48b1e6344fa59636c0d9195545de7cb292922bf8241d08c4c"), looks := true }, kinds := [], alts := [], laidByText := true, laidKinds := [.handle], laidTests := true, laidLooks := .later }
def FnExactUndoneCardSaid : Prop := Claim7.holds Tryz.pinned (.plain (OpenSpec.ofChange fnExactUndoneSpec)) fnExactUndoneCard

/-- THE TIED CARD OF 'laws.FnExactUnpack'. -/
def fnExactUnpackCard : Claim7 := { stood := { row := fnExactUnpackRow, standIns := [], harness := (true, "07bb4e60d138bfc48b1e6344fa59636c0d9195545de7cb292922bf8241d08c4c"), looks := true }, kinds := [], alts := [], laidByText := true, laidKinds := [.handle], laidTests := true, laidLooks := .later }
def FnExactUnpackCardSaid : Prop := Claim7.holds Tryz.pinned (.plain (OpenSpec.ofChange fnExactUnpackSpec)) fnExactUnpackCard

/-- THE SECOND FORM's CARD OF 'laws.FnExactRedo'. -/
def fnExactRedoUptoCard : Claim7 := { stood := { row := fnExactRedoUptoRow, standIns := [], harness := (true, "07bb4e60d138bfc48b1e6344fa59636c0d9195545de7cb292922bf8241d08c4c"), looks := true }, kinds := [], alts := [], laidByText := true, laidKinds := [.handle], laidTests := true, laidLooks := .later }
def FnExactRedoUptoCardSaid : Prop := Claim7.holds Tryz.pinned (.plain (OpenSpec.upto fnExactRedoSpec)) fnExactRedoUptoCard

/-- THE SECOND FORM's CARD OF 'laws.FnExactAt'. -/
def fnExactAtUptoCard : Claim7 := { stood := { row := fnExactAtUptoRow, standIns := [], harness := (true, "07bb4e60d138bfc48b1e6344fa59636c0d9195545de7cb292922bf8241d08c4c"), looks := true }, kinds := [], alts := [], laidByText := true, laidKinds := [.handle], laidTests := true, laidLooks := .later }
def FnExactAtUptoCardSaid : Prop := Claim7.holds Tryz.pinned (.plain (OpenSpec.upto fnExactAtSpec)) fnExactAtUptoCard

/-- THE SECOND FORM's CARD OF 'laws.FnExactBack'. -/
def fnExactBackUptoCard : Claim7 := { stood := { row := fnExactBackUptoRow, standIns := [], harness := (true, "07bb4e60d138bfc48b1e6344fa59636c0d9195545de7cb292922bf8241d08c4c"), looks := true }, kinds := [], alts := [], laidByText := true, laidKinds := [.handle], laidTests := true, laidLooks := .later }
def FnExactBackUptoCardSaid : Prop := Claim7.holds Tryz.pinned (.plain (OpenSpec.upto fnExactBackSpec)) fnExactBackUptoCard

/-- THE SECOND FORM's CARD OF 'laws.FnExactBackOne'. -/
def fnExactBackOneUptoCard : Claim7 := { stood := { row := fnExactBackOneUptoRow, standIns := [], harness := (true, "07bb4e60d138bfc48b1e6344fa59636c0d9195545de7cb292922bf8241d08c4c"), looks := true }, kinds := [], alts := [], laidByText := true, laidKinds := [.handle], laidTests := true, laidLooks := .later }
def FnExactBackOneUptoCardSaid : Prop := Claim7.holds Tryz.pinned (.plain (OpenSpec.upto fnExactBackOneSpec)) fnExactBackOneUptoCard

/-- THE SECOND FORM's CARD OF 'laws.FnExactUndone'. -/
def fnExactUndoneUptoCard : Claim7 := { stood := { row := fnExactUndoneUptoRow, standIns := [], harness := (true, "07bb4e60d138bfc48b1e6344fa59636c0d9195545de7cb292922bf8241d08c4c"), looks := true }, kinds := [], alts := [], laidByText := true, laidKinds := [.handle], laidTests := true, laidLooks := .later }
def FnExactUndoneUptoCardSaid : Prop := Claim7.holds Tryz.pinned (.plain (OpenSpec.upto fnExactUndoneSpec)) fnExactUndoneUptoCard

/-- THE SECOND FORM's CARD OF 'laws.FnExactUnpack'. -/
def fnExactUnpackUptoCard : Claim7 := { stood := { row := fnExactUnpackUptoRow, standIns := [], harness := (true, "07bb4e60d138bfc48b1e6344fa59636c0d9195545de7cb292922bf8241d08c4c"), looks := true }, kinds := [], alts := [], laidByText := true, laidKinds := [.handle], laidTests := true, laidLooks := .later }
def FnExactUnpackUptoCardSaid : Prop := Claim7.holds Tryz.pinned (.plain (OpenSpec.upto fnExactUnpackSpec)) fnExactUnpackUptoCard
end Rows
end Go.Proofs.YtchhijiibjijhaaGreatDoor
