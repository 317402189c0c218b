/- The walks of the program's stepOf and canCome. -/
import Derived.Test.YtdmpcnmbnfdfmaaGreatDoorFc0
import Derived.Test.YtdmpcnmbnfdfmaaGreatDoorFc17
import Derived.Laws.EntriesVeiled
namespace Go.Proofs.YtdmpcnmbnfdfmaaGreatDoor
set_option maxHeartbeats 1000000
open Go.RowKit
theorem stepOf_1 (w : World) :
  Calls Tryz.prog 92 #[.int .i64 1] w fun e w' => e = .returned (.func (.func 99) #[] #[]) ∧ Below w.heap.size w w' := by
 go_enter Tryz.func92, Tryz.ntmps92
 go_wp2_with fail
 refine bodyPost_ret (v := .func (.func 99) #[] #[]) (by simp [results, Tryz.results92, go_sem]) rfl ⟨rfl, ?_⟩
 go_grown
theorem stepOf_2 (w : World) :
  Calls Tryz.prog 92 #[.int .i64 2] w fun e w' => e = .returned (.func (.func 100) #[] #[]) ∧ Below w.heap.size w w' := by
 go_enter Tryz.func92, Tryz.ntmps92
 go_wp2_with fail
 refine bodyPost_ret (v := .func (.func 100) #[] #[]) (by simp [results, Tryz.results92, go_sem]) rfl ⟨rfl, ?_⟩
 go_grown
theorem stepOf_3 (w : World) :
  Calls Tryz.prog 92 #[.int .i64 3] w fun e w' => e = .returned (.func (.func 101) #[] #[]) ∧ Below w.heap.size w w' := by
 go_enter Tryz.func92, Tryz.ntmps92
 go_wp2_with fail
 refine bodyPost_ret (v := .func (.func 101) #[] #[]) (by simp [results, Tryz.results92, go_sem]) rfl ⟨rfl, ?_⟩
 go_grown
theorem stepOf_4 (w : World) :
  Calls Tryz.prog 92 #[.int .i64 4] w fun e w' => e = .returned (.func (.func 102) #[] #[]) ∧ Below w.heap.size w w' := by
 go_enter Tryz.func92, Tryz.ntmps92
 go_wp2_with fail
 refine bodyPost_ret (v := .func (.func 102) #[] #[]) (by simp [results, Tryz.results92, go_sem]) rfl ⟨rfl, ?_⟩
 go_grown
theorem stepOf_5 (w : World) :
  Calls Tryz.prog 92 #[.int .i64 5] w fun e w' => e = .returned (.func (.func 103) #[] #[]) ∧ Below w.heap.size w w' := by
 go_enter Tryz.func92, Tryz.ntmps92
 go_wp2_with fail
 refine bodyPost_ret (v := .func (.func 103) #[] #[]) (by simp [results, Tryz.results92, go_sem]) rfl ⟨rfl, ?_⟩
 go_grown
theorem stepOf_6 (w : World) :
  Calls Tryz.prog 92 #[.int .i64 6] w fun e w' => e = .returned (.func (.func 104) #[] #[]) ∧ Below w.heap.size w w' := by
 go_enter Tryz.func92, Tryz.ntmps92
 go_wp2_with fail
 refine bodyPost_ret (v := .func (.func 104) #[] #[]) (by simp [results, Tryz.results92, go_sem]) rfl ⟨rfl, ?_⟩
 go_grown
theorem stepOf_7 (w : World) :
  Calls Tryz.prog 92 #[.int .i64 7] w fun e w' => e = .returned (.func (.func 105) #[] #[]) ∧ Below w.heap.size w w' := by
 go_enter Tryz.func92, Tryz.ntmps92
 go_wp2_with fail
 refine bodyPost_ret (v := .func (.func 105) #[] #[]) (by simp [results, Tryz.results92, go_sem]) rfl ⟨rfl, ?_⟩
 go_grown
theorem stepOf_8 (w : World) :
  Calls Tryz.prog 92 #[.int .i64 8] w fun e w' => e = .returned (.func (.func 106) #[] #[]) ∧ Below w.heap.size w w' := by
 go_enter Tryz.func92, Tryz.ntmps92
 go_wp2_with fail
 refine bodyPost_ret (v := .func (.func 106) #[] #[]) (by simp [results, Tryz.results92, go_sem]) rfl ⟨rfl, ?_⟩
 go_grown
theorem stepOf_9 (w : World) :
  Calls Tryz.prog 92 #[.int .i64 9] w fun e w' => e = .returned (.func (.func 107) #[] #[]) ∧ Below w.heap.size w w' := by
 go_enter Tryz.func92, Tryz.ntmps92
 go_wp2_with fail
 refine bodyPost_ret (v := .func (.func 107) #[] #[]) (by simp [results, Tryz.results92, go_sem]) rfl ⟨rfl, ?_⟩
 go_grown
theorem stepOf_10 (w : World) :
  Calls Tryz.prog 92 #[.int .i64 10] w fun e w' => e = .returned (.func (.func 108) #[] #[]) ∧ Below w.heap.size w w' := by
 go_enter Tryz.func92, Tryz.ntmps92
 go_wp2_with fail
 refine bodyPost_ret (v := .func (.func 108) #[] #[]) (by simp [results, Tryz.results92, go_sem]) rfl ⟨rfl, ?_⟩
 go_grown
theorem stepOf_11 (w : World) :
  Calls Tryz.prog 92 #[.int .i64 11] w fun e w' => e = .returned (.func (.func 109) #[] #[]) ∧ Below w.heap.size w w' := by
 go_enter Tryz.func92, Tryz.ntmps92
 go_wp2_with fail
 refine bodyPost_ret (v := .func (.func 109) #[] #[]) (by simp [results, Tryz.results92, go_sem]) rfl ⟨rfl, ?_⟩
 go_grown
end Go.Proofs.YtdmpcnmbnfdfmaaGreatDoor
