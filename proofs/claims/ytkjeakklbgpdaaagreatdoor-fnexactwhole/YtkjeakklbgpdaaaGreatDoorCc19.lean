/- The walks of the program's stepOf and canCome. -/
import Derived.Test.YtkjeakklbgpdaaaGreatDoorCc0
import Derived.Test.YtkjeakklbgpdaaaGreatDoorCc13
import Derived.Laws.EntriesVeiled
namespace Go.Proofs.YtkjeakklbgpdaaaGreatDoor
set_option maxHeartbeats 1000000
open Go.RowKit
theorem stepOf_1 (w : World) :
  Calls Tryz.prog 157 #[.int .i64 1] w fun e w' => e = .returned (.func (.func 164) #[] #[]) ∧ Below w.heap.size w w' := by
 go_enter Tryz.func157, Tryz.ntmps157
 go_wp2_with fail
 refine bodyPost_ret (v := .func (.func 164) #[] #[]) (by simp [results, Tryz.results157, go_sem]) rfl ⟨rfl, ?_⟩
 go_grown
theorem stepOf_2 (w : World) :
  Calls Tryz.prog 157 #[.int .i64 2] w fun e w' => e = .returned (.func (.func 165) #[] #[]) ∧ Below w.heap.size w w' := by
 go_enter Tryz.func157, Tryz.ntmps157
 go_wp2_with fail
 refine bodyPost_ret (v := .func (.func 165) #[] #[]) (by simp [results, Tryz.results157, go_sem]) rfl ⟨rfl, ?_⟩
 go_grown
theorem stepOf_3 (w : World) :
  Calls Tryz.prog 157 #[.int .i64 3] w fun e w' => e = .returned (.func (.func 166) #[] #[]) ∧ Below w.heap.size w w' := by
 go_enter Tryz.func157, Tryz.ntmps157
 go_wp2_with fail
 refine bodyPost_ret (v := .func (.func 166) #[] #[]) (by simp [results, Tryz.results157, go_sem]) rfl ⟨rfl, ?_⟩
 go_grown
theorem stepOf_4 (w : World) :
  Calls Tryz.prog 157 #[.int .i64 4] w fun e w' => e = .returned (.func (.func 167) #[] #[]) ∧ Below w.heap.size w w' := by
 go_enter Tryz.func157, Tryz.ntmps157
 go_wp2_with fail
 refine bodyPost_ret (v := .func (.func 167) #[] #[]) (by simp [results, Tryz.results157, go_sem]) rfl ⟨rfl, ?_⟩
 go_grown
theorem stepOf_5 (w : World) :
  Calls Tryz.prog 157 #[.int .i64 5] w fun e w' => e = .returned (.func (.func 168) #[] #[]) ∧ Below w.heap.size w w' := by
 go_enter Tryz.func157, Tryz.ntmps157
 go_wp2_with fail
 refine bodyPost_ret (v := .func (.func 168) #[] #[]) (by simp [results, Tryz.results157, go_sem]) rfl ⟨rfl, ?_⟩
 go_grown
theorem stepOf_6 (w : World) :
  Calls Tryz.prog 157 #[.int .i64 6] w fun e w' => e = .returned (.func (.func 169) #[] #[]) ∧ Below w.heap.size w w' := by
 go_enter Tryz.func157, Tryz.ntmps157
 go_wp2_with fail
 refine bodyPost_ret (v := .func (.func 169) #[] #[]) (by simp [results, Tryz.results157, go_sem]) rfl ⟨rfl, ?_⟩
 go_grown
theorem stepOf_7 (w : World) :
  Calls Tryz.prog 157 #[.int .i64 7] w fun e w' => e = .returned (.func (.func 170) #[] #[]) ∧ Below w.heap.size w w' := by
 go_enter Tryz.func157, Tryz.ntmps157
 go_wp2_with fail
 refine bodyPost_ret (v := .func (.func 170) #[] #[]) (by simp [results, Tryz.results157, go_sem]) rfl ⟨rfl, ?_⟩
 go_grown
theorem stepOf_8 (w : World) :
  Calls Tryz.prog 157 #[.int .i64 8] w fun e w' => e = .returned (.func (.func 171) #[] #[]) ∧ Below w.heap.size w w' := by
 go_enter Tryz.func157, Tryz.ntmps157
 go_wp2_with fail
 refine bodyPost_ret (v := .func (.func 171) #[] #[]) (by simp [results, Tryz.results157, go_sem]) rfl ⟨rfl, ?_⟩
 go_grown
theorem stepOf_9 (w : World) :
  Calls Tryz.prog 157 #[.int .i64 9] w fun e w' => e = .returned (.func (.func 172) #[] #[]) ∧ Below w.heap.size w w' := by
 go_enter Tryz.func157, Tryz.ntmps157
 go_wp2_with fail
 refine bodyPost_ret (v := .func (.func 172) #[] #[]) (by simp [results, Tryz.results157, go_sem]) rfl ⟨rfl, ?_⟩
 go_grown
theorem stepOf_10 (w : World) :
  Calls Tryz.prog 157 #[.int .i64 10] w fun e w' => e = .returned (.func (.func 173) #[] #[]) ∧ Below w.heap.size w w' := by
 go_enter Tryz.func157, Tryz.ntmps157
 go_wp2_with fail
 refine bodyPost_ret (v := .func (.func 173) #[] #[]) (by simp [results, Tryz.results157, go_sem]) rfl ⟨rfl, ?_⟩
 go_grown
theorem stepOf_11 (w : World) :
  Calls Tryz.prog 157 #[.int .i64 11] w fun e w' => e = .returned (.func (.func 174) #[] #[]) ∧ Below w.heap.size w w' := by
 go_enter Tryz.func157, Tryz.ntmps157
 go_wp2_with fail
 refine bodyPost_ret (v := .func (.func 174) #[] #[]) (by simp [results, Tryz.results157, go_sem]) rfl ⟨rfl, ?_⟩
 go_grown
end Go.Proofs.YtkjeakklbgpdaaaGreatDoor
