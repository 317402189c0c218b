/- The walks of the program's stepOf and canCome. -/
import Derived.Test.YtkpbdcahpkpobabGreatDoorU26
import Derived.Laws.EntriesVeiled
namespace Go.Proofs.YtkpbdcahpkpobabGreatDoor
open Go.RowKit

set_option maxHeartbeats 1000000 in
theorem stepOf_1 (w : World) :
    Calls Tryz.prog 155 #[.int .i64 1] w fun e w' => e = .returned (.func (.func 171) #[] #[]) ∧ Below w.heap.size w w' := by
  go_enter Tryz.func155, Tryz.ntmps155
  go_wp2_with fail
  refine bodyPost_ret (v := .func (.func 171) #[] #[]) (by simp [results, Tryz.results155, go_sem]) rfl ⟨rfl, ?_⟩
  go_grown

set_option maxHeartbeats 1000000 in
theorem stepOf_2 (w : World) :
    Calls Tryz.prog 155 #[.int .i64 2] w fun e w' => e = .returned (.func (.func 172) #[] #[]) ∧ Below w.heap.size w w' := by
  go_enter Tryz.func155, Tryz.ntmps155
  go_wp2_with fail
  refine bodyPost_ret (v := .func (.func 172) #[] #[]) (by simp [results, Tryz.results155, go_sem]) rfl ⟨rfl, ?_⟩
  go_grown

set_option maxHeartbeats 1000000 in
theorem stepOf_3 (w : World) :
    Calls Tryz.prog 155 #[.int .i64 3] w fun e w' => e = .returned (.func (.func 173) #[] #[]) ∧ Below w.heap.size w w' := by
  go_enter Tryz.func155, Tryz.ntmps155
  go_wp2_with fail
  refine bodyPost_ret (v := .func (.func 173) #[] #[]) (by simp [results, Tryz.results155, go_sem]) rfl ⟨rfl, ?_⟩
  go_grown

set_option maxHeartbeats 1000000 in
theorem stepOf_4 (w : World) :
    Calls Tryz.prog 155 #[.int .i64 4] w fun e w' => e = .returned (.func (.func 174) #[] #[]) ∧ Below w.heap.size w w' := by
  go_enter Tryz.func155, Tryz.ntmps155
  go_wp2_with fail
  refine bodyPost_ret (v := .func (.func 174) #[] #[]) (by simp [results, Tryz.results155, go_sem]) rfl ⟨rfl, ?_⟩
  go_grown

set_option maxHeartbeats 1000000 in
theorem stepOf_5 (w : World) :
    Calls Tryz.prog 155 #[.int .i64 5] w fun e w' => e = .returned (.func (.func 175) #[] #[]) ∧ Below w.heap.size w w' := by
  go_enter Tryz.func155, Tryz.ntmps155
  go_wp2_with fail
  refine bodyPost_ret (v := .func (.func 175) #[] #[]) (by simp [results, Tryz.results155, go_sem]) rfl ⟨rfl, ?_⟩
  go_grown

set_option maxHeartbeats 1000000 in
theorem stepOf_6 (w : World) :
    Calls Tryz.prog 155 #[.int .i64 6] w fun e w' => e = .returned (.func (.func 176) #[] #[]) ∧ Below w.heap.size w w' := by
  go_enter Tryz.func155, Tryz.ntmps155
  go_wp2_with fail
  refine bodyPost_ret (v := .func (.func 176) #[] #[]) (by simp [results, Tryz.results155, go_sem]) rfl ⟨rfl, ?_⟩
  go_grown

set_option maxHeartbeats 1000000 in
theorem stepOf_7 (w : World) :
    Calls Tryz.prog 155 #[.int .i64 7] w fun e w' => e = .returned (.func (.func 177) #[] #[]) ∧ Below w.heap.size w w' := by
  go_enter Tryz.func155, Tryz.ntmps155
  go_wp2_with fail
  refine bodyPost_ret (v := .func (.func 177) #[] #[]) (by simp [results, Tryz.results155, go_sem]) rfl ⟨rfl, ?_⟩
  go_grown

set_option maxHeartbeats 1000000 in
theorem stepOf_8 (w : World) :
    Calls Tryz.prog 155 #[.int .i64 8] w fun e w' => e = .returned (.func (.func 178) #[] #[]) ∧ Below w.heap.size w w' := by
  go_enter Tryz.func155, Tryz.ntmps155
  go_wp2_with fail
  refine bodyPost_ret (v := .func (.func 178) #[] #[]) (by simp [results, Tryz.results155, go_sem]) rfl ⟨rfl, ?_⟩
  go_grown

set_option maxHeartbeats 1000000 in
theorem stepOf_9 (w : World) :
    Calls Tryz.prog 155 #[.int .i64 9] w fun e w' => e = .returned (.func (.func 179) #[] #[]) ∧ Below w.heap.size w w' := by
  go_enter Tryz.func155, Tryz.ntmps155
  go_wp2_with fail
  refine bodyPost_ret (v := .func (.func 179) #[] #[]) (by simp [results, Tryz.results155, go_sem]) rfl ⟨rfl, ?_⟩
  go_grown

set_option maxHeartbeats 1000000 in
theorem stepOf_10 (w : World) :
    Calls Tryz.prog 155 #[.int .i64 10] w fun e w' => e = .returned (.func (.func 180) #[] #[]) ∧ Below w.heap.size w w' := by
  go_enter Tryz.func155, Tryz.ntmps155
  go_wp2_with fail
  refine bodyPost_ret (v := .func (.func 180) #[] #[]) (by simp [results, Tryz.results155, go_sem]) rfl ⟨rfl, ?_⟩
  go_grown

set_option maxHeartbeats 1000000 in
theorem stepOf_11 (w : World) :
    Calls Tryz.prog 155 #[.int .i64 11] w fun e w' => e = .returned (.func (.func 181) #[] #[]) ∧ Below w.heap.size w w' := by
  go_enter Tryz.func155, Tryz.ntmps155
  go_wp2_with fail
  refine bodyPost_ret (v := .func (.func 181) #[] #[]) (by simp [results, Tryz.results155, go_sem]) rfl ⟨rfl, ?_⟩
  go_grown

end Go.Proofs.YtkpbdcahpkpobabGreatDoor
