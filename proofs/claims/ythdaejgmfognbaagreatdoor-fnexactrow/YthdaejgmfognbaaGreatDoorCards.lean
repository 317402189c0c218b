/-
  DERIVED. GIVEN WITH THE SEED: THE CARDS: each row of YthdaejgmfognbaaGreatDoorRows.lean that lists a variable, with what it lists TIED to the program's text (the seventh form; the later family's looks); each row that meets fmt, with fmt's text TOLD by the authors' own Lean function (tested against real Go, not proved from fmt's source: count such statements apart). THE CARD IS WHAT COUNTS. Prove the row's statement (the work); the ties are given (YthdaejgmfognbaaGreatDoorTie.lean); close each card by the builder's one call (the guide's Derived/Test/ToyasCard.lean, 'card_holds'). Laid BY PROGRAM, IN A SANDBOX (cutbox-door.mjs). By AI agents, Wed Nov 11 2026. No macro, syntax, notation, axiom, sorry.
-/
import Derived.Test.YthdaejgmfognbaaGreatDoorRows
import GoSem.ClaimSeven
namespace Go.Proofs.YthdaejgmfognbaaGreatDoor
namespace Rows

/-- THE TIED CARD OF 'laws.FnGreatest'. -/
def fnGreatestCard : Claim7 := { stood := { row := fnGreatestRow, standIns := [], harness := (true, "84aa20d1a57207a1a58262888539f02cac044aa0dd71962121773dc8a10f5579"), looks := true }, kinds := [], alts := [], laidByText := true, laidKinds := [.handle], laidTests := true, laidLooks := .later }
def FnGreatestCardSaid : Prop := Claim7.holds Tryz.pinned (.plain (OpenSpec.ofChange fnGreatestSpec)) fnGreatestCard

/-- THE TIED CARD OF 'laws.FnRow'. -/
def fnRowCard : Claim7 := { stood := { row := fnRowRow, standIns := [], harness := (true, "84aa20d1a57207a1a58262888539f02cac044aa0dd71962121773dc8a10f5579"), looks := true }, kinds := [], alts := [], laidByText := true, laidKinds := [.handle], laidTests := true, laidLooks := .later }
def FnRowCardSaid : Prop := Claim7.holds Tryz.pinned (.plain (OpenSpec.ofChange fnRowSpec)) fnRowCard

/-- THE TIED CARD OF 'laws.FnHangs'. -/
def fnHangsCard : Claim7 := { stood := { row := fnHangsRow, standIns := [], harness := (true, "84aa20d1a57207a1a58262888539f02cac044aa0dd71962121773dc8a10f5579"), looks := true }, kinds := [], alts := [], laidByText := true, laidKinds := [.handle], laidTests := true, laidLooks := .later }
def FnHangsCardSaid : Prop := Claim7.holds Tryz.pinned (.plain (OpenSpec.ofChange fnHangsSpec)) fnHangsCard

/-- THE TIED CARD OF 'laws.FnClock'. -/
def fnClockCard : Claim7 := { stood := { row := fnClockRow, standIns := [], harness := (true, "84aa20d1a57207a1a58262888539f02cac044aa0dd71962121773dc8a10f5579"), looks := true }, kinds := [], alts := [], laidByText := true, laidKinds := [.handle], laidTests := true, laidLooks := .later }
def FnClockCardSaid : Prop := Claim7.holds Tryz.pinned (.plain (OpenSpec.ofChange fnClockSpec)) fnClockCard

/-- THE TIED CARD OF 'laws.FnExactRow'. -/
def fnExactRowCard : Claim7 := { stood := { row := fnExactRowRow, standIns := [], harness := (true, "84aa20d1a57207a1a58262888539f02cac044aa0dd71962121773dc8a10f5579"), looks := true }, kinds := [], alts := [], laidByText := true, laidKinds := [.handle], laidTests := true, laidLooks := .later }
def FnExactRowCardSaid : Prop := Claim7.holds Tryz.pinned (.plain (OpenSpec.ofChange fnExactRowSpec)) fnExactRowCard

/-- THE TIED CARD OF 'laws.FnExactRowOk'. -/
def fnExactRowOkCard : Claim7 := { stood := { row := fnExactRowOkRow, standIns := [], harness := (true, "84aa20d1a57207a1a58262888539f02cac044aa0dd71962121773dc8a10f5579"), looks := true }, kinds := [], alts := [], laidByText := true, laidKinds := [.handle], laidTests := true, laidLooks := .later }
def FnExactRowOkCardSaid : Prop := Claim7.holds Tryz.pinned (.plain (OpenSpec.ofChange fnExactRowOkSpec)) fnExactRowOkCard

/-- THE SECOND FORM's CARD OF 'laws.FnGreatest'. -/
def fnGreatestUptoCard : Claim7 := { stood := { row := fnGreatestUptoRow, standIns := [], harness := (true, "84aa20d1a57207a1a58262888539f02cac044aa0dd71962121773dc8a10f5579"), looks := true }, kinds := [], alts := [], laidByText := true, laidKinds := [.handle], laidTests := true, laidLooks := .later }
def FnGreatestUptoCardSaid : Prop := Claim7.holds Tryz.pinned (.plain (OpenSpec.upto fnGreatestSpec)) fnGreatestUptoCard

/-- THE SECOND FORM's CARD OF 'laws.FnRow'. -/
def fnRowUptoCard : Claim7 := { stood := { row := fnRowUptoRow, standIns := [], harness := (true, "84aa20d1a57207a1a58262888539f02cac044aa0dd71962121773dc8a10f5579"), looks := true }, kinds := [], alts := [], laidByText := true, laidKinds := [.handle], laidTests := true, laidLooks := .later }
def FnRowUptoCardSaid : Prop := Claim7.holds Tryz.pinned (.plain (OpenSpec.upto fnRowSpec)) fnRowUptoCard

/-- THE SECOND FORM's CARD OF 'laws.FnHangs'. -/
def fnHangsUptoCard : Claim7 := { stood := { row := fnHangsUptoRow, standIns := [], harness := (true, "84aa20d1a57207a1a58262888539f02cac044aa0dd71962121773dc8a10f5579"), looks := true }, kinds := [], alts := [], laidByText := true, laidKinds := [.handle], laidTests := true, laidLooks := .later }
def FnHangsUptoCardSaid : Prop := Claim7.holds Tryz.pinned (.plain (OpenSpec.upto fnHangsSpec)) fnHangsUptoCard

/-- THE SECOND FORM's CARD OF 'laws.FnClock'. -/
def fnClockUptoCard : Claim7 := { stood := { row := fnClockUptoRow, standIns := [], harness := (true, "84aa20d1a57207a1a58262888539f02cac044aa0dd71962121773dc8a10f5579"), looks := true }, kinds := [], alts := [], laidByText := true, laidKinds := [.handle], laidTests := true, laidLooks := .later }
def FnClockUptoCardSaid : Prop := Claim7.holds Tryz.pinned (.plain (OpenSpec.upto fnClockSpec)) fnClockUptoCard

/-- THE SECOND FORM's CARD OF 'laws.FnExactRow'. -/
def fnExactRowUptoCard : Claim7 := { stood := { row := fnExactRowUptoRow, standIns := [], harness := (true, "84aa20d1a57207a1a58262888539f02cac044aa0dd71962121773dc8a10f5579"), looks := true }, kinds := [], alts := [], laidByText := true, laidKinds := [.handle], laidTests := true, laidLooks := .later }
def FnExactRowUptoCardSaid : Prop := Claim7.holds Tryz.pinned (.plain (OpenSpec.upto fnExactRowSpec)) fnExactRowUptoCard

/-- THE SECOND FORM's CARD OF 'laws.FnExactRowOk'. -/
def fnExactRowOkUptoCard : Claim7 := { stood := { row := fnExactRowOkUptoRow, standIns := [], harness := (true, "84aa20d1a57207a1a58262888539f02cac044aa0dd71962121773dc8a10f5579"), looks := true }, kinds := [], alts := [], laidByText := true, laidKinds := [.handle], laidTests := true, laidLooks := .later }
def FnExactRowOkUptoCardSaid : Prop := Claim7.holds Tryz.pinned (.plain (OpenSpec.upto fnExactRowOkSpec)) fnExactRowOkUptoCard
end Rows
end Go.Proofs.YthdaejgmfognbaaGreatDoor
