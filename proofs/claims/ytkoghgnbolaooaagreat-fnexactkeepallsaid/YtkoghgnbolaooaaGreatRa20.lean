/- The walks of the program's stepOf and canCome. -/
import Derived.Test.YtkoghgnbolaooaaGreatRa15
import Derived.Laws.EntriesVeiled
namespace Go.Proofs.YtkoghgnbolaooaaGreat
open Go.RowKit

set_option maxHeartbeats 1000000 in
theorem stepOf_1 (w : World) :
    Calls Tryz.prog 68 #[.int .i64 1] w fun e w' => e = .returned (.func (.func 87) #[] #[]) ∧ Below w.heap.size w w' := by
  go_enter Tryz.func68, Tryz.ntmps68
  go_wp2_with fail
  refine bodyPost_ret (v := .func (.func 87) #[] #[]) (by simp [results, Tryz.results68, go_sem]) rfl ⟨rfl, ?_⟩
  go_grown

set_option maxHeartbeats 1000000 in
theorem stepOf_2 (w : World) :
    Calls Tryz.prog 68 #[.int .i64 2] w fun e w' => e = .returned (.func (.func 88) #[] #[]) ∧ Below w.heap.size w w' := by
  go_enter Tryz.func68, Tryz.ntmps68
  go_wp2_with fail
  refine bodyPost_ret (v := .func (.func 88) #[] #[]) (by simp [results, Tryz.results68, go_sem]) rfl ⟨rfl, ?_⟩
  go_grown

set_option maxHeartbeats 1000000 in
theorem stepOf_3 (w : World) :
    Calls Tryz.prog 68 #[.int .i64 3] w fun e w' => e = .returned (.func (.func 89) #[] #[]) ∧ Below w.heap.size w w' := by
  go_enter Tryz.func68, Tryz.ntmps68
  go_wp2_with fail
  refine bodyPost_ret (v := .func (.func 89) #[] #[]) (by simp [results, Tryz.results68, go_sem]) rfl ⟨rfl, ?_⟩
  go_grown

set_option maxHeartbeats 1000000 in
theorem stepOf_4 (w : World) :
    Calls Tryz.prog 68 #[.int .i64 4] w fun e w' => e = .returned (.func (.func 90) #[] #[]) ∧ Below w.heap.size w w' := by
  go_enter Tryz.func68, Tryz.ntmps68
  go_wp2_with fail
  refine bodyPost_ret (v := .func (.func 90) #[] #[]) (by simp [results, Tryz.results68, go_sem]) rfl ⟨rfl, ?_⟩
  go_grown

set_option maxHeartbeats 1000000 in
theorem stepOf_5 (w : World) :
    Calls Tryz.prog 68 #[.int .i64 5] w fun e w' => e = .returned (.func (.func 91) #[] #[]) ∧ Below w.heap.size w w' := by
  go_enter Tryz.func68, Tryz.ntmps68
  go_wp2_with fail
  refine bodyPost_ret (v := .func (.func 91) #[] #[]) (by simp [results, Tryz.results68, go_sem]) rfl ⟨rfl, ?_⟩
  go_grown

set_option maxHeartbeats 1000000 in
theorem stepOf_6 (w : World) :
    Calls Tryz.prog 68 #[.int .i64 6] w fun e w' => e = .returned (.func (.func 92) #[] #[]) ∧ Below w.heap.size w w' := by
  go_enter Tryz.func68, Tryz.ntmps68
  go_wp2_with fail
  refine bodyPost_ret (v := .func (.func 92) #[] #[]) (by simp [results, Tryz.results68, go_sem]) rfl ⟨rfl, ?_⟩
  go_grown

set_option maxHeartbeats 1000000 in
theorem stepOf_7 (w : World) :
    Calls Tryz.prog 68 #[.int .i64 7] w fun e w' => e = .returned (.func (.func 93) #[] #[]) ∧ Below w.heap.size w w' := by
  go_enter Tryz.func68, Tryz.ntmps68
  go_wp2_with fail
  refine bodyPost_ret (v := .func (.func 93) #[] #[]) (by simp [results, Tryz.results68, go_sem]) rfl ⟨rfl, ?_⟩
  go_grown

set_option maxHeartbeats 1000000 in
theorem stepOf_8 (w : World) :
    Calls Tryz.prog 68 #[.int .i64 8] w fun e w' => e = .returned (.func (.func 94) #[] #[]) ∧ Below w.heap.size w w' := by
  go_enter Tryz.func68, Tryz.ntmps68
  go_wp2_with fail
  refine bodyPost_ret (v := .func (.func 94) #[] #[]) (by simp [results, Tryz.results68, go_sem]) rfl ⟨rfl, ?_⟩
  go_grown

set_option maxHeartbeats 1000000 in
theorem stepOf_9 (w : World) :
    Calls Tryz.prog 68 #[.int .i64 9] w fun e w' => e = .returned (.func (.func 95) #[] #[]) ∧ Below w.heap.size w w' := by
  go_enter Tryz.func68, Tryz.ntmps68
  go_wp2_with fail
  refine bodyPost_ret (v := .func (.func 95) #[] #[]) (by simp [results, Tryz.results68, go_sem]) rfl ⟨rfl, ?_⟩
  go_grown

set_option maxHeartbeats 1000000 in
theorem stepOf_10 (w : World) :
    Calls Tryz.prog 68 #[.int .i64 10] w fun e w' => e = .returned (.func (.func 96) #[] #[]) ∧ Below w.heap.size w w' := by
  go_enter Tryz.func68, Tryz.ntmps68
  go_wp2_with fail
  refine bodyPost_ret (v := .func (.func 96) #[] #[]) (by simp [results, Tryz.results68, go_sem]) rfl ⟨rfl, ?_⟩
  go_grown

set_option maxHeartbeats 1000000 in
theorem stepOf_11 (w : World) :
    Calls Tryz.prog 68 #[.int .i64 11] w fun e w' => e = .returned (.func (.func 97) #[] #[]) ∧ Below w.heap.size w w' := by
  go_enter Tryz.func68, Tryz.ntmps68
  go_wp2_with fail
  refine bodyPost_ret (v := .func (.func 97) #[] #[]) (by simp [results, Tryz.results68, go_sem]) rfl ⟨rfl, ?_⟩
  go_grown

end Go.Proofs.YtkoghgnbolaooaaGreat
