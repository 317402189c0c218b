/- The walks of placeFits, a theorem a kind of place, for every argument. -/
import Derived.Test.YtcmmlklanjhfoaaGreatDoorGa1
namespace Go.Proofs.YtcmmlklanjhfoaaGreatDoor
open Go.RowKit

theorem as_set_set (v : Value) (w : World) : (Instr.typeAssert (.iface 166 v) 139 166 true).run Tryz.prog w = .ok (.tuple #[v, .bool true]) w := by kernel_rfl
theorem as_set_calc (v : Value) (w : World) : (Instr.typeAssert (.iface 166 v) 139 168 true).run Tryz.prog w = .ok (.tuple #[.agg #[.int .i64 0, .int .i64 0, .int .i64 0, .int .i64 0], .bool false]) w := by kernel_rfl
theorem as_set_send (v : Value) (w : World) : (Instr.typeAssert (.iface 166 v) 139 160 true).run Tryz.prog w = .ok (.tuple #[.agg #[.int .i64 0, .int .i64 0], .bool false]) w := by kernel_rfl
theorem as_set_take (v : Value) (w : World) : (Instr.typeAssert (.iface 166 v) 139 162 true).run Tryz.prog w = .ok (.tuple #[.agg #[.int .i64 0, .int .i64 0], .bool false]) w := by kernel_rfl
theorem as_set_print (v : Value) (w : World) : (Instr.typeAssert (.iface 166 v) 139 164 true).run Tryz.prog w = .ok (.tuple #[.agg #[.int .i64 0], .bool false]) w := by kernel_rfl
theorem as_set_jump (v : Value) (w : World) : (Instr.typeAssert (.iface 166 v) 139 170 true).run Tryz.prog w = .ok (.tuple #[.agg #[.int .i64 0], .bool false]) w := by kernel_rfl
theorem as_set_zero (v : Value) (w : World) : (Instr.typeAssert (.iface 166 v) 139 172 true).run Tryz.prog w = .ok (.tuple #[.agg #[.int .i64 0, .int .i64 0], .bool false]) w := by kernel_rfl
theorem as_set_end (v : Value) (w : World) : (Instr.typeAssert (.iface 166 v) 139 174 true).run Tryz.prog w = .ok (.tuple #[.agg #[], .bool false]) w := by kernel_rfl
theorem as_calc_set (v : Value) (w : World) : (Instr.typeAssert (.iface 168 v) 139 166 true).run Tryz.prog w = .ok (.tuple #[.agg #[.int .i64 0, .int .i64 0], .bool false]) w := by kernel_rfl
theorem as_calc_calc (v : Value) (w : World) : (Instr.typeAssert (.iface 168 v) 139 168 true).run Tryz.prog w = .ok (.tuple #[v, .bool true]) w := by kernel_rfl
theorem as_calc_send (v : Value) (w : World) : (Instr.typeAssert (.iface 168 v) 139 160 true).run Tryz.prog w = .ok (.tuple #[.agg #[.int .i64 0, .int .i64 0], .bool false]) w := by kernel_rfl
theorem as_calc_take (v : Value) (w : World) : (Instr.typeAssert (.iface 168 v) 139 162 true).run Tryz.prog w = .ok (.tuple #[.agg #[.int .i64 0, .int .i64 0], .bool false]) w := by kernel_rfl
theorem as_calc_print (v : Value) (w : World) : (Instr.typeAssert (.iface 168 v) 139 164 true).run Tryz.prog w = .ok (.tuple #[.agg #[.int .i64 0], .bool false]) w := by kernel_rfl
theorem as_calc_jump (v : Value) (w : World) : (Instr.typeAssert (.iface 168 v) 139 170 true).run Tryz.prog w = .ok (.tuple #[.agg #[.int .i64 0], .bool false]) w := by kernel_rfl
theorem as_calc_zero (v : Value) (w : World) : (Instr.typeAssert (.iface 168 v) 139 172 true).run Tryz.prog w = .ok (.tuple #[.agg #[.int .i64 0, .int .i64 0], .bool false]) w := by kernel_rfl
theorem as_calc_end (v : Value) (w : World) : (Instr.typeAssert (.iface 168 v) 139 174 true).run Tryz.prog w = .ok (.tuple #[.agg #[], .bool false]) w := by kernel_rfl
theorem as_send_set (v : Value) (w : World) : (Instr.typeAssert (.iface 160 v) 139 166 true).run Tryz.prog w = .ok (.tuple #[.agg #[.int .i64 0, .int .i64 0], .bool false]) w := by kernel_rfl
theorem as_send_calc (v : Value) (w : World) : (Instr.typeAssert (.iface 160 v) 139 168 true).run Tryz.prog w = .ok (.tuple #[.agg #[.int .i64 0, .int .i64 0, .int .i64 0, .int .i64 0], .bool false]) w := by kernel_rfl
theorem as_send_send (v : Value) (w : World) : (Instr.typeAssert (.iface 160 v) 139 160 true).run Tryz.prog w = .ok (.tuple #[v, .bool true]) w := by kernel_rfl
theorem as_send_take (v : Value) (w : World) : (Instr.typeAssert (.iface 160 v) 139 162 true).run Tryz.prog w = .ok (.tuple #[.agg #[.int .i64 0, .int .i64 0], .bool false]) w := by kernel_rfl
theorem as_send_print (v : Value) (w : World) : (Instr.typeAssert (.iface 160 v) 139 164 true).run Tryz.prog w = .ok (.tuple #[.agg #[.int .i64 0], .bool false]) w := by kernel_rfl
theorem as_send_jump (v : Value) (w : World) : (Instr.typeAssert (.iface 160 v) 139 170 true).run Tryz.prog w = .ok (.tuple #[.agg #[.int .i64 0], .bool false]) w := by kernel_rfl
theorem as_send_zero (v : Value) (w : World) : (Instr.typeAssert (.iface 160 v) 139 172 true).run Tryz.prog w = .ok (.tuple #[.agg #[.int .i64 0, .int .i64 0], .bool false]) w := by kernel_rfl
theorem as_send_end (v : Value) (w : World) : (Instr.typeAssert (.iface 160 v) 139 174 true).run Tryz.prog w = .ok (.tuple #[.agg #[], .bool false]) w := by kernel_rfl
theorem as_take_set (v : Value) (w : World) : (Instr.typeAssert (.iface 162 v) 139 166 true).run Tryz.prog w = .ok (.tuple #[.agg #[.int .i64 0, .int .i64 0], .bool false]) w := by kernel_rfl
theorem as_take_calc (v : Value) (w : World) : (Instr.typeAssert (.iface 162 v) 139 168 true).run Tryz.prog w = .ok (.tuple #[.agg #[.int .i64 0, .int .i64 0, .int .i64 0, .int .i64 0], .bool false]) w := by kernel_rfl
theorem as_take_send (v : Value) (w : World) : (Instr.typeAssert (.iface 162 v) 139 160 true).run Tryz.prog w = .ok (.tuple #[.agg #[.int .i64 0, .int .i64 0], .bool false]) w := by kernel_rfl
theorem as_take_take (v : Value) (w : World) : (Instr.typeAssert (.iface 162 v) 139 162 true).run Tryz.prog w = .ok (.tuple #[v, .bool true]) w := by kernel_rfl
theorem as_take_print (v : Value) (w : World) : (Instr.typeAssert (.iface 162 v) 139 164 true).run Tryz.prog w = .ok (.tuple #[.agg #[.int .i64 0], .bool false]) w := by kernel_rfl
theorem as_take_jump (v : Value) (w : World) : (Instr.typeAssert (.iface 162 v) 139 170 true).run Tryz.prog w = .ok (.tuple #[.agg #[.int .i64 0], .bool false]) w := by kernel_rfl
theorem as_take_zero (v : Value) (w : World) : (Instr.typeAssert (.iface 162 v) 139 172 true).run Tryz.prog w = .ok (.tuple #[.agg #[.int .i64 0, .int .i64 0], .bool false]) w := by kernel_rfl
theorem as_take_end (v : Value) (w : World) : (Instr.typeAssert (.iface 162 v) 139 174 true).run Tryz.prog w = .ok (.tuple #[.agg #[], .bool false]) w := by kernel_rfl
theorem as_print_set (v : Value) (w : World) : (Instr.typeAssert (.iface 164 v) 139 166 true).run Tryz.prog w = .ok (.tuple #[.agg #[.int .i64 0, .int .i64 0], .bool false]) w := by kernel_rfl
theorem as_print_calc (v : Value) (w : World) : (Instr.typeAssert (.iface 164 v) 139 168 true).run Tryz.prog w = .ok (.tuple #[.agg #[.int .i64 0, .int .i64 0, .int .i64 0, .int .i64 0], .bool false]) w := by kernel_rfl
theorem as_print_send (v : Value) (w : World) : (Instr.typeAssert (.iface 164 v) 139 160 true).run Tryz.prog w = .ok (.tuple #[.agg #[.int .i64 0, .int .i64 0], .bool false]) w := by kernel_rfl
theorem as_print_take (v : Value) (w : World) : (Instr.typeAssert (.iface 164 v) 139 162 true).run Tryz.prog w = .ok (.tuple #[.agg #[.int .i64 0, .int .i64 0], .bool false]) w := by kernel_rfl
theorem as_print_print (v : Value) (w : World) : (Instr.typeAssert (.iface 164 v) 139 164 true).run Tryz.prog w = .ok (.tuple #[v, .bool true]) w := by kernel_rfl
theorem as_print_jump (v : Value) (w : World) : (Instr.typeAssert (.iface 164 v) 139 170 true).run Tryz.prog w = .ok (.tuple #[.agg #[.int .i64 0], .bool false]) w := by kernel_rfl
theorem as_print_zero (v : Value) (w : World) : (Instr.typeAssert (.iface 164 v) 139 172 true).run Tryz.prog w = .ok (.tuple #[.agg #[.int .i64 0, .int .i64 0], .bool false]) w := by kernel_rfl
theorem as_print_end (v : Value) (w : World) : (Instr.typeAssert (.iface 164 v) 139 174 true).run Tryz.prog w = .ok (.tuple #[.agg #[], .bool false]) w := by kernel_rfl
theorem as_jump_set (v : Value) (w : World) : (Instr.typeAssert (.iface 170 v) 139 166 true).run Tryz.prog w = .ok (.tuple #[.agg #[.int .i64 0, .int .i64 0], .bool false]) w := by kernel_rfl
theorem as_jump_calc (v : Value) (w : World) : (Instr.typeAssert (.iface 170 v) 139 168 true).run Tryz.prog w = .ok (.tuple #[.agg #[.int .i64 0, .int .i64 0, .int .i64 0, .int .i64 0], .bool false]) w := by kernel_rfl
theorem as_jump_send (v : Value) (w : World) : (Instr.typeAssert (.iface 170 v) 139 160 true).run Tryz.prog w = .ok (.tuple #[.agg #[.int .i64 0, .int .i64 0], .bool false]) w := by kernel_rfl
theorem as_jump_take (v : Value) (w : World) : (Instr.typeAssert (.iface 170 v) 139 162 true).run Tryz.prog w = .ok (.tuple #[.agg #[.int .i64 0, .int .i64 0], .bool false]) w := by kernel_rfl
theorem as_jump_print (v : Value) (w : World) : (Instr.typeAssert (.iface 170 v) 139 164 true).run Tryz.prog w = .ok (.tuple #[.agg #[.int .i64 0], .bool false]) w := by kernel_rfl
theorem as_jump_jump (v : Value) (w : World) : (Instr.typeAssert (.iface 170 v) 139 170 true).run Tryz.prog w = .ok (.tuple #[v, .bool true]) w := by kernel_rfl
theorem as_jump_zero (v : Value) (w : World) : (Instr.typeAssert (.iface 170 v) 139 172 true).run Tryz.prog w = .ok (.tuple #[.agg #[.int .i64 0, .int .i64 0], .bool false]) w := by kernel_rfl
theorem as_jump_end (v : Value) (w : World) : (Instr.typeAssert (.iface 170 v) 139 174 true).run Tryz.prog w = .ok (.tuple #[.agg #[], .bool false]) w := by kernel_rfl
theorem as_zero_set (v : Value) (w : World) : (Instr.typeAssert (.iface 172 v) 139 166 true).run Tryz.prog w = .ok (.tuple #[.agg #[.int .i64 0, .int .i64 0], .bool false]) w := by kernel_rfl
theorem as_zero_calc (v : Value) (w : World) : (Instr.typeAssert (.iface 172 v) 139 168 true).run Tryz.prog w = .ok (.tuple #[.agg #[.int .i64 0, .int .i64 0, .int .i64 0, .int .i64 0], .bool false]) w := by kernel_rfl
theorem as_zero_send (v : Value) (w : World) : (Instr.typeAssert (.iface 172 v) 139 160 true).run Tryz.prog w = .ok (.tuple #[.agg #[.int .i64 0, .int .i64 0], .bool false]) w := by kernel_rfl
theorem as_zero_take (v : Value) (w : World) : (Instr.typeAssert (.iface 172 v) 139 162 true).run Tryz.prog w = .ok (.tuple #[.agg #[.int .i64 0, .int .i64 0], .bool false]) w := by kernel_rfl
theorem as_zero_print (v : Value) (w : World) : (Instr.typeAssert (.iface 172 v) 139 164 true).run Tryz.prog w = .ok (.tuple #[.agg #[.int .i64 0], .bool false]) w := by kernel_rfl
theorem as_zero_jump (v : Value) (w : World) : (Instr.typeAssert (.iface 172 v) 139 170 true).run Tryz.prog w = .ok (.tuple #[.agg #[.int .i64 0], .bool false]) w := by kernel_rfl
theorem as_zero_zero (v : Value) (w : World) : (Instr.typeAssert (.iface 172 v) 139 172 true).run Tryz.prog w = .ok (.tuple #[v, .bool true]) w := by kernel_rfl
theorem as_zero_end (v : Value) (w : World) : (Instr.typeAssert (.iface 172 v) 139 174 true).run Tryz.prog w = .ok (.tuple #[.agg #[], .bool false]) w := by kernel_rfl
theorem as_end_set (v : Value) (w : World) : (Instr.typeAssert (.iface 174 v) 139 166 true).run Tryz.prog w = .ok (.tuple #[.agg #[.int .i64 0, .int .i64 0], .bool false]) w := by kernel_rfl
theorem as_end_calc (v : Value) (w : World) : (Instr.typeAssert (.iface 174 v) 139 168 true).run Tryz.prog w = .ok (.tuple #[.agg #[.int .i64 0, .int .i64 0, .int .i64 0, .int .i64 0], .bool false]) w := by kernel_rfl
theorem as_end_send (v : Value) (w : World) : (Instr.typeAssert (.iface 174 v) 139 160 true).run Tryz.prog w = .ok (.tuple #[.agg #[.int .i64 0, .int .i64 0], .bool false]) w := by kernel_rfl
theorem as_end_take (v : Value) (w : World) : (Instr.typeAssert (.iface 174 v) 139 162 true).run Tryz.prog w = .ok (.tuple #[.agg #[.int .i64 0, .int .i64 0], .bool false]) w := by kernel_rfl
theorem as_end_print (v : Value) (w : World) : (Instr.typeAssert (.iface 174 v) 139 164 true).run Tryz.prog w = .ok (.tuple #[.agg #[.int .i64 0], .bool false]) w := by kernel_rfl
theorem as_end_jump (v : Value) (w : World) : (Instr.typeAssert (.iface 174 v) 139 170 true).run Tryz.prog w = .ok (.tuple #[.agg #[.int .i64 0], .bool false]) w := by kernel_rfl
theorem as_end_zero (v : Value) (w : World) : (Instr.typeAssert (.iface 174 v) 139 172 true).run Tryz.prog w = .ok (.tuple #[.agg #[.int .i64 0, .int .i64 0], .bool false]) w := by kernel_rfl
theorem as_end_end (v : Value) (w : World) : (Instr.typeAssert (.iface 174 v) 139 174 true).run Tryz.prog w = .ok (.tuple #[v, .bool true]) w := by kernel_rfl

end Go.Proofs.YtcmmlklanjhfoaaGreatDoor

namespace Go.Proofs.YtcmmlklanjhfoaaGreatDoor
open Go.RowKit
attribute [local go_sem] as_set_set as_set_calc as_set_send as_set_take as_set_print as_set_jump as_set_zero as_set_end as_calc_set as_calc_calc as_calc_send as_calc_take as_calc_print as_calc_jump as_calc_zero as_calc_end as_send_set as_send_calc as_send_send as_send_take as_send_print as_send_jump as_send_zero as_send_end as_take_set as_take_calc as_take_send as_take_take as_take_print as_take_jump as_take_zero as_take_end as_print_set as_print_calc as_print_send as_print_take as_print_print as_print_jump as_print_zero as_print_end as_jump_set as_jump_calc as_jump_send as_jump_take as_jump_print as_jump_jump as_jump_zero as_jump_end as_zero_set as_zero_calc as_zero_send as_zero_take as_zero_print as_zero_jump as_zero_zero as_zero_end as_end_set as_end_calc as_end_send as_end_take as_end_print as_end_jump as_end_zero as_end_end


set_option maxHeartbeats 1000000 in
theorem fits_set (r n places procs : Int) (w : World) :
    Calls Tryz.prog 117 #[.iface 166 (setV r n), .int .i64 places, .int .i64 procs] w fun e w' => e = .returned (.bool (belB r 4 && inB n (-1000000000) 1000000000)) ∧ Below w.heap.size w w' := by
  rcases Bool.eq_false_or_eq_true (belB r 4) with t0 | t0 <;> rcases Bool.eq_false_or_eq_true (inB n (-1000000000) 1000000000) with t1 | t1
  all_goals
    go_enter Tryz.func117, Tryz.ntmps117
    go_wp2_with (first | (go_at_call 123; refine (isReg_any _ _).mono ?_; rintro e w' ⟨rfl, rfl⟩) | (go_at_call 80; refine (isNum_any _ _).mono ?_; rintro e w' ⟨rfl, rfl⟩) | (go_at_call 81; refine (isBelow_any _ _ _).mono ?_; rintro e w' ⟨rfl, rfl⟩))
    go_ret
    exact ⟨by rw [t0, t1] <;> rfl, by go_grown⟩


set_option maxHeartbeats 1000000 in
theorem fits_calc (op r a b places procs : Int) (w : World) :
    Calls Tryz.prog 117 #[.iface 168 (calcV op r a b), .int .i64 places, .int .i64 procs] w fun e w' => e = .returned (.bool (belB r 4 && belB a 4 && belB b 4)) ∧ Below w.heap.size w w' := by
  rcases Bool.eq_false_or_eq_true (belB r 4) with t0 | t0 <;> rcases Bool.eq_false_or_eq_true (belB a 4) with t1 | t1 <;> rcases Bool.eq_false_or_eq_true (belB b 4) with t2 | t2
  all_goals
    go_enter Tryz.func117, Tryz.ntmps117
    go_wp2_with (first | (go_at_call 123; refine (isReg_any _ _).mono ?_; rintro e w' ⟨rfl, rfl⟩) | (go_at_call 80; refine (isNum_any _ _).mono ?_; rintro e w' ⟨rfl, rfl⟩) | (go_at_call 81; refine (isBelow_any _ _ _).mono ?_; rintro e w' ⟨rfl, rfl⟩))
    go_ret
    exact ⟨by rw [t0, t1, t2] <;> rfl, by go_grown⟩


set_option maxHeartbeats 1000000 in
theorem fits_send (n a places procs : Int) (w : World) :
    Calls Tryz.prog 117 #[.iface 160 (sendV n a), .int .i64 places, .int .i64 procs] w fun e w' => e = .returned (.bool (belB a 4 && belB n procs)) ∧ Below w.heap.size w w' := by
  rcases Bool.eq_false_or_eq_true (belB a 4) with t0 | t0 <;> rcases Bool.eq_false_or_eq_true (belB n procs) with t1 | t1
  all_goals
    go_enter Tryz.func117, Tryz.ntmps117
    go_wp2_with (first | (go_at_call 123; refine (isReg_any _ _).mono ?_; rintro e w' ⟨rfl, rfl⟩) | (go_at_call 80; refine (isNum_any _ _).mono ?_; rintro e w' ⟨rfl, rfl⟩) | (go_at_call 81; refine (isBelow_any _ _ _).mono ?_; rintro e w' ⟨rfl, rfl⟩))
    go_ret
    exact ⟨by rw [t0, t1] <;> rfl, by go_grown⟩


set_option maxHeartbeats 1000000 in
theorem fits_take (r n places procs : Int) (w : World) :
    Calls Tryz.prog 117 #[.iface 162 (takeV r n), .int .i64 places, .int .i64 procs] w fun e w' => e = .returned (.bool (belB r 4 && ((n == 9) || belB n procs))) ∧ Below w.heap.size w w' := by
  rcases Bool.eq_false_or_eq_true (belB r 4) with t0 | t0 <;> rcases Bool.eq_false_or_eq_true ((n == 9)) with t1 | t1 <;> rcases Bool.eq_false_or_eq_true (belB n procs) with t2 | t2
  all_goals
    go_enter Tryz.func117, Tryz.ntmps117
    go_wp2_with (first | (go_at_call 123; refine (isReg_any _ _).mono ?_; rintro e w' ⟨rfl, rfl⟩) | (go_at_call 80; refine (isNum_any _ _).mono ?_; rintro e w' ⟨rfl, rfl⟩) | (go_at_call 81; refine (isBelow_any _ _ _).mono ?_; rintro e w' ⟨rfl, rfl⟩))
    go_ret
    exact ⟨by rw [t0, t1, t2] <;> rfl, by go_grown⟩


set_option maxHeartbeats 1000000 in
theorem fits_print (a places procs : Int) (w : World) :
    Calls Tryz.prog 117 #[.iface 164 (printV a), .int .i64 places, .int .i64 procs] w fun e w' => e = .returned (.bool (belB a 4)) ∧ Below w.heap.size w w' := by
  go_enter Tryz.func117, Tryz.ntmps117
  go_wp2_with (first | (go_at_call 123; refine (isReg_any _ _).mono ?_; rintro e w' ⟨rfl, rfl⟩) | (go_at_call 80; refine (isNum_any _ _).mono ?_; rintro e w' ⟨rfl, rfl⟩) | (go_at_call 81; refine (isBelow_any _ _ _).mono ?_; rintro e w' ⟨rfl, rfl⟩))
  go_ret
  exact ⟨rfl, by go_grown⟩


set_option maxHeartbeats 1000000 in
theorem fits_jump (n places procs : Int) (w : World) :
    Calls Tryz.prog 117 #[.iface 170 (jumpV n), .int .i64 places, .int .i64 procs] w fun e w' => e = .returned (.bool (belB n places)) ∧ Below w.heap.size w w' := by
  go_enter Tryz.func117, Tryz.ntmps117
  go_wp2_with (first | (go_at_call 123; refine (isReg_any _ _).mono ?_; rintro e w' ⟨rfl, rfl⟩) | (go_at_call 80; refine (isNum_any _ _).mono ?_; rintro e w' ⟨rfl, rfl⟩) | (go_at_call 81; refine (isBelow_any _ _ _).mono ?_; rintro e w' ⟨rfl, rfl⟩))
  go_ret
  exact ⟨rfl, by go_grown⟩


set_option maxHeartbeats 1000000 in
theorem fits_zero (a n places procs : Int) (w : World) :
    Calls Tryz.prog 117 #[.iface 172 (zeroV a n), .int .i64 places, .int .i64 procs] w fun e w' => e = .returned (.bool (belB a 4 && belB n places)) ∧ Below w.heap.size w w' := by
  rcases Bool.eq_false_or_eq_true (belB a 4) with t0 | t0 <;> rcases Bool.eq_false_or_eq_true (belB n places) with t1 | t1
  all_goals
    go_enter Tryz.func117, Tryz.ntmps117
    go_wp2_with (first | (go_at_call 123; refine (isReg_any _ _).mono ?_; rintro e w' ⟨rfl, rfl⟩) | (go_at_call 80; refine (isNum_any _ _).mono ?_; rintro e w' ⟨rfl, rfl⟩) | (go_at_call 81; refine (isBelow_any _ _ _).mono ?_; rintro e w' ⟨rfl, rfl⟩))
    go_ret
    exact ⟨by rw [t0, t1] <;> rfl, by go_grown⟩


set_option maxHeartbeats 1000000 in
theorem fits_end (places procs : Int) (w : World) :
    Calls Tryz.prog 117 #[.iface 174 endV, .int .i64 places, .int .i64 procs] w fun e w' => e = .returned (.bool (true)) ∧ Below w.heap.size w w' := by
  go_enter Tryz.func117, Tryz.ntmps117
  go_wp2_with (first | (go_at_call 123; refine (isReg_any _ _).mono ?_; rintro e w' ⟨rfl, rfl⟩) | (go_at_call 80; refine (isNum_any _ _).mono ?_; rintro e w' ⟨rfl, rfl⟩) | (go_at_call 81; refine (isBelow_any _ _ _).mono ?_; rintro e w' ⟨rfl, rfl⟩))
  go_ret
  exact ⟨rfl, by go_grown⟩


end Go.Proofs.YtcmmlklanjhfoaaGreatDoor
