/- FnExactShotDone: the law, said. -/
import Derived.Test.YtdfhpimdgfemjaaGreatDoorLa47
import Derived.Test.YtdfhpimdgfemjaaGreatDoorCards
import Derived.SevenTiedAt
namespace Go.Proofs.YtdfhpimdgfemjaaGreatDoor
open Go.ChangeShapes Go.WideShapes Go.ChangeAt Go.RowKit Go.Deep

theorem and_tt {a b : Bool} (h : a = true) (k : b = true) : (a && b) = true := by rw [h, k]; rfl
theorem shotDoneK1 : (Rows.fnExactShotDoneRow.inPlace == Tryz.pinned.checked.prog.inPlace 8) = true := by kernel_rfl
theorem shotDoneK2 : (Rows.fnExactShotDoneRow.unfollowed == Tryz.pinned.checked.prog.unfollowed 8) = true := by kernel_rfl
theorem shotDoneK3 : (Rows.fnExactShotDoneRow.recurses == Tryz.pinned.checked.prog.recurses 8) = true := by kernel_rfl
theorem shotDoneK4 : (Rows.fnExactShotDoneRow.named == Tryz.pinned.checked.prog.varsNamed 8) = true := by kernel_rfl
theorem shotDoneClosed : joinedFacts Tryz.pinned.checked.prog 8 Tryz.f8 Rows.fnExactShotDoneSpec Rows.fnExactShotDoneRow = true :=
  and_tt (and_tt (and_tt (and_tt (and_tt (and_tt (and_tt (and_tt (and_tt (and_tt (and_tt (and_tt (and_tt (and_tt (and_tt (and_tt (and_tt (and_tt (and_tt (and_tt (and_tt (and_tt (and_tt (and_tt (and_tt (and_tt (and_tt (and_tt (and_tt (and_tt (and_tt (by kernel_rfl) (by kernel_rfl)) (by kernel_rfl)) (by kernel_rfl)) (by kernel_rfl)) (by kernel_rfl)) (by kernel_rfl)) (by kernel_rfl)) (by kernel_rfl)) shotDoneK1) shotDoneK2) shotDoneK3) shotDoneK4) (by kernel_rfl)) (by kernel_rfl)) (by kernel_rfl)) (by kernel_rfl)) (by kernel_rfl)) (by kernel_rfl)) (by kernel_rfl)) (by kernel_rfl)) (by kernel_rfl)) (by kernel_rfl)) (by kernel_rfl)) (by kernel_rfl)) (by kernel_rfl)) (by kernel_rfl)) (by kernel_rfl)) (by kernel_rfl)) (by kernel_rfl)) (by kernel_rfl)) (by kernel_rfl)
theorem shotDoneSaid : Rows.FnExactShotDoneSaid :=
  OpenClaim.holds_of_wide 8 Tryz.f8 rfl rfl rfl rfl rfl rfl rfl ⟨rfl, rfl, rfl, rfl, rfl⟩ rfl rfl rfl rfl rfl (by kernel_rfl) Tryz.func8 shotDoneClosed
    (of_decide_eq_true (by kernel_rfl)) (by unfold Func.isWrapper; first | (rw [if_pos (by decide +kernel)]; kernel_rfl) | (rw [if_neg (by decide +kernel)]; exact ⟨rfl, rfl⟩))
    (fun os started H enc _ => shotDoneLifted os started H enc)

end Go.Proofs.YtdfhpimdgfemjaaGreatDoor
