/- Proved: called with whatever live system, the program's ShotDone answers as the model's ShotDone and writes into no argument. One condition, tied to the program's text: errors.errorType holds what its text lays. -/
import Derived.Test.YtdfhpimdgfemjaaGreatDoorLa48
import Derived.Test.YtdfhpimdgfemjaaGreatDoorLa27
import Derived.Test.YtdfhpimdgfemjaaGreatDoorCards
import Derived.SevenTiedAt
namespace Go.Proofs.YtdfhpimdgfemjaaGreatDoor
open Go.ChangeShapes Go.WideShapes Go.ChangeAt Go.RowKit Go.Deep

theorem shotDonePlain (f : FuncId) (fn : Func) (hf : Tryz.pinned.checked.prog.funcNamed "loop.example/g00196/laws.FnExactShotDone" = some f) (hfn : Tryz.pinned.checked.prog.funcs[f]? = some fn) :
    true = Tryz.pinned.checked.prog.looks [] ∧ ∀ (j : Nat) t, fn.params[j]? = some t → Tryz.pinned.checked.prog.wantsStandIn t = false := by
  obtain rfl : f = 8 := Option.some.inj ((show Tryz.prog.funcNamed "loop.example/g00196/laws.FnExactShotDone" = some 8 by kernel_rfl).symm.trans hf) |>.symm
  obtain rfl : fn = Tryz.f8 := (Option.some.inj (Tryz.func8.symm.trans hfn)).symm
  refine ⟨by kernel_rfl, fun j t ht => ?_⟩
  rw [Tryz.params8] at ht
  have hm := Array.mem_of_getElem? ht
  simp at hm
  obtain rfl := hm
  exact (show Tryz.prog.wantsStandIn 51 = false by kernel_rfl)

theorem shotDone_card : Rows.FnExactShotDoneCardSaid :=
  Claim7.holds_tied_plain_at .later [] _ _ _ _ shotDoneSaid (fun _ h => by cases h) (by kernel_rfl) (fun _ h => by cases h) fnExactShotDone_row_tie rfl ⟨rfl, rfl⟩ (by kernel_rfl) rfl shotDonePlain (by kernel_rfl)

end Go.Proofs.YtdfhpimdgfemjaaGreatDoor
