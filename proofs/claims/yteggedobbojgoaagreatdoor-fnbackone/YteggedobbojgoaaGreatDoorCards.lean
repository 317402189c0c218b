/-
  DERIVED. GIVEN WITH THE SEED: THE CARDS: each row of YteggedobbojgoaaGreatDoorRows.lean that lists a variable, with what it lists TIED to the program's text (the seventh form; the later family's looks); each row that meets fmt, with fmt's text TOLD by the authors' own Lean function (tested against real Go, not proved from fmt's source: count such statements apart). THE CARD IS WHAT COUNTS. Prove the row's statement (the work); the ties are given (YteggedobbojgoaaGreatDoorTie.lean); close each card by the builder's one call (the guide's Derived/Test/ToyasCard.lean, 'card_holds'). Laid BY PROGRAM, IN A SANDBOX (cutbox-door.mjs). By AI agents, Wed Nov 11 2026. No macro, syntax, notation, axiom, sorry.
-/
import Derived.Test.YteggedobbojgoaaGreatDoorRows
import GoSem.ClaimSeven
namespace Go.Proofs.YteggedobbojgoaaGreatDoor
namespace Rows

/-- THE TIED CARD OF 'laws.FnBackOne'. -/
def fnBackOneCard : Claim7 := { stood := { row := fnBackOneRow, standIns := [], harness := (true, "193797ba187012de349bfe0511f9ae6584a528543b6eebf956109a998f2241a3"), looks := true }, kinds := [], alts := [], laidByText := true, laidKinds := [.handle], laidTests := true, laidLooks := .later }
def FnBackOneCardSaid : Prop := Claim7.holds Tryz.pinned (.plain (OpenSpec.ofChange fnBackOneSpec)) fnBackOneCard

/-- THE TIED CARD OF 'laws.FnCuts'. -/
def fnCutsCard : Claim7 := { stood := { row := fnCutsRow, standIns := [], harness := (true, "193797ba187012de349bfe0511f9ae6584a528543b6eebf956109a998f2241a3"), looks := true }, kinds := [], alts := [], laidByText := true, laidKinds := [.handle], laidTests := true, laidLooks := .later }
def FnCutsCardSaid : Prop := Claim7.holds Tryz.pinned (.plain (OpenSpec.ofChange fnCutsSpec)) fnCutsCard

/-- THE SECOND FORM's CARD OF 'laws.FnBackOne'. -/
def fnBackOneUptoCard : Claim7 := { stood := { row := fnBackOneUptoRow, standIns := [], harness := (true, "193797ba187012de349bfe0511f9ae6584a528543b6eebf956109a998f2241a3"), looks := true }, kinds := [], alts := [], laidByText := true, laidKinds := [.handle], laidTests := true, laidLooks := .later }
def FnBackOneUptoCardSaid : Prop := Claim7.holds Tryz.pinned (.plain (OpenSpec.upto fnBackOneSpec)) fnBackOneUptoCard

/-- THE SECOND FORM's CARD OF 'laws.FnCuts'. -/
def fnCutsUptoCard : Claim7 := { stood := { row := fnCutsUptoRow, standIns := [], harness := (true, "193797ba187012de349bfe0511f9ae6584a528543b6eebf956109a998f2241a3"), looks := true }, kinds := [], alts := [], laidByText := true, laidKinds := [.handle], laidTests := true, laidLooks := .later }
def FnCutsUptoCardSaid : Prop := Claim7.holds Tryz.pinned (.plain (OpenSpec.upto fnCutsSpec)) fnCutsUptoCard
end Rows
end Go.Proofs.YteggedobbojgoaaGreatDoor
