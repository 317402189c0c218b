/- The walks of the program's stepOf and canCome. -/
import Derived.Test.YtmbmhpginegggaaDiA
import Derived.Laws.EntriesVeiled
namespace Go.Proofs.Ytmbmhpginegggaa
open Go.RowKit

set_option maxHeartbeats 1000000 in
theorem stepOf_1 (w : World) :
    Calls Try.prog 68 #[.int .i64 1] w fun e w' => e = .returned (.func (.func 83) #[] #[]) ∧ Below w.heap.size w w' := by
  go_enter Try.func68, Try.ntmps68
  go_wp2_with fail
  refine bodyPost_ret (v := .func (.func 83) #[] #[]) (by simp [results, Try.results68, go_sem]) rfl ⟨rfl, ?_⟩
  go_grown

set_option maxHeartbeats 1000000 in
theorem stepOf_2 (w : World) :
    Calls Try.prog 68 #[.int .i64 2] w fun e w' => e = .returned (.func (.func 84) #[] #[]) ∧ Below w.heap.size w w' := by
  go_enter Try.func68, Try.ntmps68
  go_wp2_with fail
  refine bodyPost_ret (v := .func (.func 84) #[] #[]) (by simp [results, Try.results68, go_sem]) rfl ⟨rfl, ?_⟩
  go_grown

set_option maxHeartbeats 1000000 in
theorem stepOf_3 (w : World) :
    Calls Try.prog 68 #[.int .i64 3] w fun e w' => e = .returned (.func (.func 85) #[] #[]) ∧ Below w.heap.size w w' := by
  go_enter Try.func68, Try.ntmps68
  go_wp2_with fail
  refine bodyPost_ret (v := .func (.func 85) #[] #[]) (by simp [results, Try.results68, go_sem]) rfl ⟨rfl, ?_⟩
  go_grown

set_option maxHeartbeats 1000000 in
theorem stepOf_4 (w : World) :
    Calls Try.prog 68 #[.int .i64 4] w fun e w' => e = .returned (.func (.func 86) #[] #[]) ∧ Below w.heap.size w w' := by
  go_enter Try.func68, Try.ntmps68
  go_wp2_with fail
  refine bodyPost_ret (v := .func (.func 86) #[] #[]) (by simp [results, Try.results68, go_sem]) rfl ⟨rfl, ?_⟩
  go_grown

set_option maxHeartbeats 1000000 in
theorem stepOf_5 (w : World) :
    Calls Try.prog 68 #[.int .i64 5] w fun e w' => e = .returned (.func (.func 87) #[] #[]) ∧ Below w.heap.size w w' := by
  go_enter Try.func68, Try.ntmps68
  go_wp2_with fail
  refine bodyPost_ret (v := .func (.func 87) #[] #[]) (by simp [results, Try.results68, go_sem]) rfl ⟨rfl, ?_⟩
  go_grown

set_option maxHeartbeats 1000000 in
theorem stepOf_6 (w : World) :
    Calls Try.prog 68 #[.int .i64 6] w fun e w' => e = .returned (.func (.func 88) #[] #[]) ∧ Below w.heap.size w w' := by
  go_enter Try.func68, Try.ntmps68
  go_wp2_with fail
  refine bodyPost_ret (v := .func (.func 88) #[] #[]) (by simp [results, Try.results68, go_sem]) rfl ⟨rfl, ?_⟩
  go_grown

set_option maxHeartbeats 1000000 in
theorem stepOf_7 (w : World) :
    Calls Try.prog 68 #[.int .i64 7] w fun e w' => e = .returned (.func (.func 89) #[] #[]) ∧ Below w.heap.size w w' := by
  go_enter Try.func68, Try.ntmps68
  go_wp2_with fail
  refine bodyPost_ret (v := .func (.func 89) #[] #[]) (by simp [results, Try.results68, go_sem]) rfl ⟨rfl, ?_⟩
  go_grown

set_option maxHeartbeats 1000000 in
theorem stepOf_8 (w : World) :
    Calls Try.prog 68 #[.int .i64 8] w fun e w' => e = .returned (.func (.func 90) #[] #[]) ∧ Below w.heap.size w w' := by
  go_enter Try.func68, Try.ntmps68
  go_wp2_with fail
  refine bodyPost_ret (v := .func (.func 90) #[] #[]) (by simp [results, Try.results68, go_sem]) rfl ⟨rfl, ?_⟩
  go_grown

set_option maxHeartbeats 1000000 in
theorem stepOf_9 (w : World) :
    Calls Try.prog 68 #[.int .i64 9] w fun e w' => e = .returned (.func (.func 91) #[] #[]) ∧ Below w.heap.size w w' := by
  go_enter Try.func68, Try.ntmps68
  go_wp2_with fail
  refine bodyPost_ret (v := .func (.func 91) #[] #[]) (by simp [results, Try.results68, go_sem]) rfl ⟨rfl, ?_⟩
  go_grown

set_option maxHeartbeats 1000000 in
theorem stepOf_10 (w : World) :
    Calls Try.prog 68 #[.int .i64 10] w fun e w' => e = .returned (.func (.func 92) #[] #[]) ∧ Below w.heap.size w w' := by
  go_enter Try.func68, Try.ntmps68
  go_wp2_with fail
  refine bodyPost_ret (v := .func (.func 92) #[] #[]) (by simp [results, Try.results68, go_sem]) rfl ⟨rfl, ?_⟩
  go_grown

set_option maxHeartbeats 1000000 in
theorem stepOf_11 (w : World) :
    Calls Try.prog 68 #[.int .i64 11] w fun e w' => e = .returned (.func (.func 93) #[] #[]) ∧ Below w.heap.size w w' := by
  go_enter Try.func68, Try.ntmps68
  go_wp2_with fail
  refine bodyPost_ret (v := .func (.func 93) #[] #[]) (by simp [results, Try.results68, go_sem]) rfl ⟨rfl, ?_⟩
  go_grown

end Go.Proofs.Ytmbmhpginegggaa
