/- Small facts on worlds, and when two Ins are alike. -/
import Derived.Test.YtkoghgnbolaooaaGreatRa1
namespace Go.Proofs.YtkoghgnbolaooaaGreat
open Go.RowKit

theorem as_set_set (v : Value) (w : World) : (Instr.typeAssert (.iface 148 v) 123 148 true).run Tryz.prog w = .ok (.tuple #[v, .bool true]) w := by kernel_rfl
theorem as_set_calc (v : Value) (w : World) : (Instr.typeAssert (.iface 148 v) 123 150 true).run Tryz.prog w = .ok (.tuple #[.agg #[.int .i64 0, .int .i64 0, .int .i64 0, .int .i64 0], .bool false]) w := by kernel_rfl
theorem as_set_send (v : Value) (w : World) : (Instr.typeAssert (.iface 148 v) 123 142 true).run Tryz.prog w = .ok (.tuple #[.agg #[.int .i64 0, .int .i64 0], .bool false]) w := by kernel_rfl
theorem as_set_take (v : Value) (w : World) : (Instr.typeAssert (.iface 148 v) 123 144 true).run Tryz.prog w = .ok (.tuple #[.agg #[.int .i64 0, .int .i64 0], .bool false]) w := by kernel_rfl
theorem as_set_print (v : Value) (w : World) : (Instr.typeAssert (.iface 148 v) 123 146 true).run Tryz.prog w = .ok (.tuple #[.agg #[.int .i64 0], .bool false]) w := by kernel_rfl
theorem as_set_jump (v : Value) (w : World) : (Instr.typeAssert (.iface 148 v) 123 152 true).run Tryz.prog w = .ok (.tuple #[.agg #[.int .i64 0], .bool false]) w := by kernel_rfl
theorem as_set_zero (v : Value) (w : World) : (Instr.typeAssert (.iface 148 v) 123 154 true).run Tryz.prog w = .ok (.tuple #[.agg #[.int .i64 0, .int .i64 0], .bool false]) w := by kernel_rfl
theorem as_set_end (v : Value) (w : World) : (Instr.typeAssert (.iface 148 v) 123 156 true).run Tryz.prog w = .ok (.tuple #[.agg #[], .bool false]) w := by kernel_rfl
theorem as_calc_set (v : Value) (w : World) : (Instr.typeAssert (.iface 150 v) 123 148 true).run Tryz.prog w = .ok (.tuple #[.agg #[.int .i64 0, .int .i64 0], .bool false]) w := by kernel_rfl
theorem as_calc_calc (v : Value) (w : World) : (Instr.typeAssert (.iface 150 v) 123 150 true).run Tryz.prog w = .ok (.tuple #[v, .bool true]) w := by kernel_rfl
theorem as_calc_send (v : Value) (w : World) : (Instr.typeAssert (.iface 150 v) 123 142 true).run Tryz.prog w = .ok (.tuple #[.agg #[.int .i64 0, .int .i64 0], .bool false]) w := by kernel_rfl
theorem as_calc_take (v : Value) (w : World) : (Instr.typeAssert (.iface 150 v) 123 144 true).run Tryz.prog w = .ok (.tuple #[.agg #[.int .i64 0, .int .i64 0], .bool false]) w := by kernel_rfl
theorem as_calc_print (v : Value) (w : World) : (Instr.typeAssert (.iface 150 v) 123 146 true).run Tryz.prog w = .ok (.tuple #[.agg #[.int .i64 0], .bool false]) w := by kernel_rfl
theorem as_calc_jump (v : Value) (w : World) : (Instr.typeAssert (.iface 150 v) 123 152 true).run Tryz.prog w = .ok (.tuple #[.agg #[.int .i64 0], .bool false]) w := by kernel_rfl
theorem as_calc_zero (v : Value) (w : World) : (Instr.typeAssert (.iface 150 v) 123 154 true).run Tryz.prog w = .ok (.tuple #[.agg #[.int .i64 0, .int .i64 0], .bool false]) w := by kernel_rfl
theorem as_calc_end (v : Value) (w : World) : (Instr.typeAssert (.iface 150 v) 123 156 true).run Tryz.prog w = .ok (.tuple #[.agg #[], .bool false]) w := by kernel_rfl
theorem as_send_set (v : Value) (w : World) : (Instr.typeAssert (.iface 142 v) 123 148 true).run Tryz.prog w = .ok (.tuple #[.agg #[.int .i64 0, .int .i64 0], .bool false]) w := by kernel_rfl
theorem as_send_calc (v : Value) (w : World) : (Instr.typeAssert (.iface 142 v) 123 150 true).run Tryz.prog w = .ok (.tuple #[.agg #[.int .i64 0, .int .i64 0, .int .i64 0, .int .i64 0], .bool false]) w := by kernel_rfl
theorem as_send_send (v : Value) (w : World) : (Instr.typeAssert (.iface 142 v) 123 142 true).run Tryz.prog w = .ok (.tuple #[v, .bool true]) w := by kernel_rfl
theorem as_send_take (v : Value) (w : World) : (Instr.typeAssert (.iface 142 v) 123 144 true).run Tryz.prog w = .ok (.tuple #[.agg #[.int .i64 0, .int .i64 0], .bool false]) w := by kernel_rfl
theorem as_send_print (v : Value) (w : World) : (Instr.typeAssert (.iface 142 v) 123 146 true).run Tryz.prog w = .ok (.tuple #[.agg #[.int .i64 0], .bool false]) w := by kernel_rfl
theorem as_send_jump (v : Value) (w : World) : (Instr.typeAssert (.iface 142 v) 123 152 true).run Tryz.prog w = .ok (.tuple #[.agg #[.int .i64 0], .bool false]) w := by kernel_rfl
theorem as_send_zero (v : Value) (w : World) : (Instr.typeAssert (.iface 142 v) 123 154 true).run Tryz.prog w = .ok (.tuple #[.agg #[.int .i64 0, .int .i64 0], .bool false]) w := by kernel_rfl
theorem as_send_end (v : Value) (w : World) : (Instr.typeAssert (.iface 142 v) 123 156 true).run Tryz.prog w = .ok (.tuple #[.agg #[], .bool false]) w := by kernel_rfl
theorem as_take_set (v : Value) (w : World) : (Instr.typeAssert (.iface 144 v) 123 148 true).run Tryz.prog w = .ok (.tuple #[.agg #[.int .i64 0, .int .i64 0], .bool false]) w := by kernel_rfl
theorem as_take_calc (v : Value) (w : World) : (Instr.typeAssert (.iface 144 v) 123 150 true).run Tryz.prog w = .ok (.tuple #[.agg #[.int .i64 0, .int .i64 0, .int .i64 0, .int .i64 0], .bool false]) w := by kernel_rfl
theorem as_take_send (v : Value) (w : World) : (Instr.typeAssert (.iface 144 v) 123 142 true).run Tryz.prog w = .ok (.tuple #[.agg #[.int .i64 0, .int .i64 0], .bool false]) w := by kernel_rfl
theorem as_take_take (v : Value) (w : World) : (Instr.typeAssert (.iface 144 v) 123 144 true).run Tryz.prog w = .ok (.tuple #[v, .bool true]) w := by kernel_rfl
theorem as_take_print (v : Value) (w : World) : (Instr.typeAssert (.iface 144 v) 123 146 true).run Tryz.prog w = .ok (.tuple #[.agg #[.int .i64 0], .bool false]) w := by kernel_rfl
theorem as_take_jump (v : Value) (w : World) : (Instr.typeAssert (.iface 144 v) 123 152 true).run Tryz.prog w = .ok (.tuple #[.agg #[.int .i64 0], .bool false]) w := by kernel_rfl
theorem as_take_zero (v : Value) (w : World) : (Instr.typeAssert (.iface 144 v) 123 154 true).run Tryz.prog w = .ok (.tuple #[.agg #[.int .i64 0, .int .i64 0], .bool false]) w := by kernel_rfl
theorem as_take_end (v : Value) (w : World) : (Instr.typeAssert (.iface 144 v) 123 156 true).run Tryz.prog w = .ok (.tuple #[.agg #[], .bool false]) w := by kernel_rfl
theorem as_print_set (v : Value) (w : World) : (Instr.typeAssert (.iface 146 v) 123 148 true).run Tryz.prog w = .ok (.tuple #[.agg #[.int .i64 0, .int .i64 0], .bool false]) w := by kernel_rfl
theorem as_print_calc (v : Value) (w : World) : (Instr.typeAssert (.iface 146 v) 123 150 true).run Tryz.prog w = .ok (.tuple #[.agg #[.int .i64 0, .int .i64 0, .int .i64 0, .int .i64 0], .bool false]) w := by kernel_rfl
theorem as_print_send (v : Value) (w : World) : (Instr.typeAssert (.iface 146 v) 123 142 true).run Tryz.prog w = .ok (.tuple #[.agg #[.int .i64 0, .int .i64 0], .bool false]) w := by kernel_rfl
theorem as_print_take (v : Value) (w : World) : (Instr.typeAssert (.iface 146 v) 123 144 true).run Tryz.prog w = .ok (.tuple #[.agg #[.int .i64 0, .int .i64 0], .bool false]) w := by kernel_rfl
theorem as_print_print (v : Value) (w : World) : (Instr.typeAssert (.iface 146 v) 123 146 true).run Tryz.prog w = .ok (.tuple #[v, .bool true]) w := by kernel_rfl
theorem as_print_jump (v : Value) (w : World) : (Instr.typeAssert (.iface 146 v) 123 152 true).run Tryz.prog w = .ok (.tuple #[.agg #[.int .i64 0], .bool false]) w := by kernel_rfl
theorem as_print_zero (v : Value) (w : World) : (Instr.typeAssert (.iface 146 v) 123 154 true).run Tryz.prog w = .ok (.tuple #[.agg #[.int .i64 0, .int .i64 0], .bool false]) w := by kernel_rfl
theorem as_print_end (v : Value) (w : World) : (Instr.typeAssert (.iface 146 v) 123 156 true).run Tryz.prog w = .ok (.tuple #[.agg #[], .bool false]) w := by kernel_rfl
theorem as_jump_set (v : Value) (w : World) : (Instr.typeAssert (.iface 152 v) 123 148 true).run Tryz.prog w = .ok (.tuple #[.agg #[.int .i64 0, .int .i64 0], .bool false]) w := by kernel_rfl
theorem as_jump_calc (v : Value) (w : World) : (Instr.typeAssert (.iface 152 v) 123 150 true).run Tryz.prog w = .ok (.tuple #[.agg #[.int .i64 0, .int .i64 0, .int .i64 0, .int .i64 0], .bool false]) w := by kernel_rfl
theorem as_jump_send (v : Value) (w : World) : (Instr.typeAssert (.iface 152 v) 123 142 true).run Tryz.prog w = .ok (.tuple #[.agg #[.int .i64 0, .int .i64 0], .bool false]) w := by kernel_rfl
theorem as_jump_take (v : Value) (w : World) : (Instr.typeAssert (.iface 152 v) 123 144 true).run Tryz.prog w = .ok (.tuple #[.agg #[.int .i64 0, .int .i64 0], .bool false]) w := by kernel_rfl
theorem as_jump_print (v : Value) (w : World) : (Instr.typeAssert (.iface 152 v) 123 146 true).run Tryz.prog w = .ok (.tuple #[.agg #[.int .i64 0], .bool false]) w := by kernel_rfl
theorem as_jump_jump (v : Value) (w : World) : (Instr.typeAssert (.iface 152 v) 123 152 true).run Tryz.prog w = .ok (.tuple #[v, .bool true]) w := by kernel_rfl
theorem as_jump_zero (v : Value) (w : World) : (Instr.typeAssert (.iface 152 v) 123 154 true).run Tryz.prog w = .ok (.tuple #[.agg #[.int .i64 0, .int .i64 0], .bool false]) w := by kernel_rfl
theorem as_jump_end (v : Value) (w : World) : (Instr.typeAssert (.iface 152 v) 123 156 true).run Tryz.prog w = .ok (.tuple #[.agg #[], .bool false]) w := by kernel_rfl
theorem as_zero_set (v : Value) (w : World) : (Instr.typeAssert (.iface 154 v) 123 148 true).run Tryz.prog w = .ok (.tuple #[.agg #[.int .i64 0, .int .i64 0], .bool false]) w := by kernel_rfl
theorem as_zero_calc (v : Value) (w : World) : (Instr.typeAssert (.iface 154 v) 123 150 true).run Tryz.prog w = .ok (.tuple #[.agg #[.int .i64 0, .int .i64 0, .int .i64 0, .int .i64 0], .bool false]) w := by kernel_rfl
theorem as_zero_send (v : Value) (w : World) : (Instr.typeAssert (.iface 154 v) 123 142 true).run Tryz.prog w = .ok (.tuple #[.agg #[.int .i64 0, .int .i64 0], .bool false]) w := by kernel_rfl
theorem as_zero_take (v : Value) (w : World) : (Instr.typeAssert (.iface 154 v) 123 144 true).run Tryz.prog w = .ok (.tuple #[.agg #[.int .i64 0, .int .i64 0], .bool false]) w := by kernel_rfl
theorem as_zero_print (v : Value) (w : World) : (Instr.typeAssert (.iface 154 v) 123 146 true).run Tryz.prog w = .ok (.tuple #[.agg #[.int .i64 0], .bool false]) w := by kernel_rfl
theorem as_zero_jump (v : Value) (w : World) : (Instr.typeAssert (.iface 154 v) 123 152 true).run Tryz.prog w = .ok (.tuple #[.agg #[.int .i64 0], .bool false]) w := by kernel_rfl
theorem as_zero_zero (v : Value) (w : World) : (Instr.typeAssert (.iface 154 v) 123 154 true).run Tryz.prog w = .ok (.tuple #[v, .bool true]) w := by kernel_rfl
theorem as_zero_end (v : Value) (w : World) : (Instr.typeAssert (.iface 154 v) 123 156 true).run Tryz.prog w = .ok (.tuple #[.agg #[], .bool false]) w := by kernel_rfl
theorem as_end_set (v : Value) (w : World) : (Instr.typeAssert (.iface 156 v) 123 148 true).run Tryz.prog w = .ok (.tuple #[.agg #[.int .i64 0, .int .i64 0], .bool false]) w := by kernel_rfl
theorem as_end_calc (v : Value) (w : World) : (Instr.typeAssert (.iface 156 v) 123 150 true).run Tryz.prog w = .ok (.tuple #[.agg #[.int .i64 0, .int .i64 0, .int .i64 0, .int .i64 0], .bool false]) w := by kernel_rfl
theorem as_end_send (v : Value) (w : World) : (Instr.typeAssert (.iface 156 v) 123 142 true).run Tryz.prog w = .ok (.tuple #[.agg #[.int .i64 0, .int .i64 0], .bool false]) w := by kernel_rfl
theorem as_end_take (v : Value) (w : World) : (Instr.typeAssert (.iface 156 v) 123 144 true).run Tryz.prog w = .ok (.tuple #[.agg #[.int .i64 0, .int .i64 0], .bool false]) w := by kernel_rfl
theorem as_end_print (v : Value) (w : World) : (Instr.typeAssert (.iface 156 v) 123 146 true).run Tryz.prog w = .ok (.tuple #[.agg #[.int .i64 0], .bool false]) w := by kernel_rfl
theorem as_end_jump (v : Value) (w : World) : (Instr.typeAssert (.iface 156 v) 123 152 true).run Tryz.prog w = .ok (.tuple #[.agg #[.int .i64 0], .bool false]) w := by kernel_rfl
theorem as_end_zero (v : Value) (w : World) : (Instr.typeAssert (.iface 156 v) 123 154 true).run Tryz.prog w = .ok (.tuple #[.agg #[.int .i64 0, .int .i64 0], .bool false]) w := by kernel_rfl
theorem as_end_end (v : Value) (w : World) : (Instr.typeAssert (.iface 156 v) 123 156 true).run Tryz.prog w = .ok (.tuple #[v, .bool true]) w := by kernel_rfl

end Go.Proofs.YtkoghgnbolaooaaGreat

namespace Go.Proofs.YtkoghgnbolaooaaGreat
open Go.RowKit
attribute [local go_sem] as_set_set as_set_calc as_set_send as_set_take as_set_print as_set_jump as_set_zero as_set_end as_calc_set as_calc_calc as_calc_send as_calc_take as_calc_print as_calc_jump as_calc_zero as_calc_end as_send_set as_send_calc as_send_send as_send_take as_send_print as_send_jump as_send_zero as_send_end as_take_set as_take_calc as_take_send as_take_take as_take_print as_take_jump as_take_zero as_take_end as_print_set as_print_calc as_print_send as_print_take as_print_print as_print_jump as_print_zero as_print_end as_jump_set as_jump_calc as_jump_send as_jump_take as_jump_print as_jump_jump as_jump_zero as_jump_end as_zero_set as_zero_calc as_zero_send as_zero_take as_zero_print as_zero_jump as_zero_zero as_zero_end as_end_set as_end_calc as_end_send as_end_take as_end_print as_end_jump as_end_zero as_end_end


set_option maxHeartbeats 1000000 in
theorem fits_set (r n places procs : Int) (w : World) :
    Calls Tryz.prog 115 #[.iface 148 (setV r n), .int .i64 places, .int .i64 procs] w fun e w' => e = .returned (.bool (belB r 4 && inB n (-1000000000) 1000000000)) ∧ Below w.heap.size w w' := by
  rcases Bool.eq_false_or_eq_true (belB r 4) with t0 | t0 <;> rcases Bool.eq_false_or_eq_true (inB n (-1000000000) 1000000000) with t1 | t1
  all_goals
    go_enter Tryz.func115, Tryz.ntmps115
    go_wp2_with (first | (go_at_call 121; refine (isReg_any _ _).mono ?_; rintro e w' ⟨rfl, rfl⟩) | (go_at_call 81; refine (isNum_any _ _).mono ?_; rintro e w' ⟨rfl, rfl⟩) | (go_at_call 82; refine (isBelow_any _ _ _).mono ?_; rintro e w' ⟨rfl, rfl⟩))
    go_ret
    exact ⟨by rw [t0, t1] <;> rfl, by go_grown⟩


set_option maxHeartbeats 1000000 in
theorem fits_calc (op r a b places procs : Int) (w : World) :
    Calls Tryz.prog 115 #[.iface 150 (calcV op r a b), .int .i64 places, .int .i64 procs] w fun e w' => e = .returned (.bool (belB r 4 && belB a 4 && belB b 4)) ∧ Below w.heap.size w w' := by
  rcases Bool.eq_false_or_eq_true (belB r 4) with t0 | t0 <;> rcases Bool.eq_false_or_eq_true (belB a 4) with t1 | t1 <;> rcases Bool.eq_false_or_eq_true (belB b 4) with t2 | t2
  all_goals
    go_enter Tryz.func115, Tryz.ntmps115
    go_wp2_with (first | (go_at_call 121; refine (isReg_any _ _).mono ?_; rintro e w' ⟨rfl, rfl⟩) | (go_at_call 81; refine (isNum_any _ _).mono ?_; rintro e w' ⟨rfl, rfl⟩) | (go_at_call 82; refine (isBelow_any _ _ _).mono ?_; rintro e w' ⟨rfl, rfl⟩))
    go_ret
    exact ⟨by rw [t0, t1, t2] <;> rfl, by go_grown⟩


set_option maxHeartbeats 1000000 in
theorem fits_send (n a places procs : Int) (w : World) :
    Calls Tryz.prog 115 #[.iface 142 (sendV n a), .int .i64 places, .int .i64 procs] w fun e w' => e = .returned (.bool (belB a 4 && belB n procs)) ∧ Below w.heap.size w w' := by
  rcases Bool.eq_false_or_eq_true (belB a 4) with t0 | t0 <;> rcases Bool.eq_false_or_eq_true (belB n procs) with t1 | t1
  all_goals
    go_enter Tryz.func115, Tryz.ntmps115
    go_wp2_with (first | (go_at_call 121; refine (isReg_any _ _).mono ?_; rintro e w' ⟨rfl, rfl⟩) | (go_at_call 81; refine (isNum_any _ _).mono ?_; rintro e w' ⟨rfl, rfl⟩) | (go_at_call 82; refine (isBelow_any _ _ _).mono ?_; rintro e w' ⟨rfl, rfl⟩))
    go_ret
    exact ⟨by rw [t0, t1] <;> rfl, by go_grown⟩


set_option maxHeartbeats 1000000 in
theorem fits_take (r n places procs : Int) (w : World) :
    Calls Tryz.prog 115 #[.iface 144 (takeV r n), .int .i64 places, .int .i64 procs] w fun e w' => e = .returned (.bool (belB r 4 && ((n == 9) || belB n procs))) ∧ Below w.heap.size w w' := by
  rcases Bool.eq_false_or_eq_true (belB r 4) with t0 | t0 <;> rcases Bool.eq_false_or_eq_true ((n == 9)) with t1 | t1 <;> rcases Bool.eq_false_or_eq_true (belB n procs) with t2 | t2
  all_goals
    go_enter Tryz.func115, Tryz.ntmps115
    go_wp2_with (first | (go_at_call 121; refine (isReg_any _ _).mono ?_; rintro e w' ⟨rfl, rfl⟩) | (go_at_call 81; refine (isNum_any _ _).mono ?_; rintro e w' ⟨rfl, rfl⟩) | (go_at_call 82; refine (isBelow_any _ _ _).mono ?_; rintro e w' ⟨rfl, rfl⟩))
    go_ret
    exact ⟨by rw [t0, t1, t2] <;> rfl, by go_grown⟩


set_option maxHeartbeats 1000000 in
theorem fits_print (a places procs : Int) (w : World) :
    Calls Tryz.prog 115 #[.iface 146 (printV a), .int .i64 places, .int .i64 procs] w fun e w' => e = .returned (.bool (belB a 4)) ∧ Below w.heap.size w w' := by
  go_enter Tryz.func115, Tryz.ntmps115
  go_wp2_with (first | (go_at_call 121; refine (isReg_any _ _).mono ?_; rintro e w' ⟨rfl, rfl⟩) | (go_at_call 81; refine (isNum_any _ _).mono ?_; rintro e w' ⟨rfl, rfl⟩) | (go_at_call 82; refine (isBelow_any _ _ _).mono ?_; rintro e w' ⟨rfl, rfl⟩))
  go_ret
  exact ⟨rfl, by go_grown⟩


set_option maxHeartbeats 1000000 in
theorem fits_jump (n places procs : Int) (w : World) :
    Calls Tryz.prog 115 #[.iface 152 (jumpV n), .int .i64 places, .int .i64 procs] w fun e w' => e = .returned (.bool (belB n places)) ∧ Below w.heap.size w w' := by
  go_enter Tryz.func115, Tryz.ntmps115
  go_wp2_with (first | (go_at_call 121; refine (isReg_any _ _).mono ?_; rintro e w' ⟨rfl, rfl⟩) | (go_at_call 81; refine (isNum_any _ _).mono ?_; rintro e w' ⟨rfl, rfl⟩) | (go_at_call 82; refine (isBelow_any _ _ _).mono ?_; rintro e w' ⟨rfl, rfl⟩))
  go_ret
  exact ⟨rfl, by go_grown⟩


set_option maxHeartbeats 1000000 in
theorem fits_zero (a n places procs : Int) (w : World) :
    Calls Tryz.prog 115 #[.iface 154 (zeroV a n), .int .i64 places, .int .i64 procs] w fun e w' => e = .returned (.bool (belB a 4 && belB n places)) ∧ Below w.heap.size w w' := by
  rcases Bool.eq_false_or_eq_true (belB a 4) with t0 | t0 <;> rcases Bool.eq_false_or_eq_true (belB n places) with t1 | t1
  all_goals
    go_enter Tryz.func115, Tryz.ntmps115
    go_wp2_with (first | (go_at_call 121; refine (isReg_any _ _).mono ?_; rintro e w' ⟨rfl, rfl⟩) | (go_at_call 81; refine (isNum_any _ _).mono ?_; rintro e w' ⟨rfl, rfl⟩) | (go_at_call 82; refine (isBelow_any _ _ _).mono ?_; rintro e w' ⟨rfl, rfl⟩))
    go_ret
    exact ⟨by rw [t0, t1] <;> rfl, by go_grown⟩


set_option maxHeartbeats 1000000 in
theorem fits_end (places procs : Int) (w : World) :
    Calls Tryz.prog 115 #[.iface 156 endV, .int .i64 places, .int .i64 procs] w fun e w' => e = .returned (.bool (true)) ∧ Below w.heap.size w w' := by
  go_enter Tryz.func115, Tryz.ntmps115
  go_wp2_with (first | (go_at_call 121; refine (isReg_any _ _).mono ?_; rintro e w' ⟨rfl, rfl⟩) | (go_at_call 81; refine (isNum_any _ _).mono ?_; rintro e w' ⟨rfl, rfl⟩) | (go_at_call 82; refine (isBelow_any _ _ _).mono ?_; rintro e w' ⟨rfl, rfl⟩))
  go_ret
  exact ⟨rfl, by go_grown⟩


end Go.Proofs.YtkoghgnbolaooaaGreat

namespace Go.Proofs.YtkoghgnbolaooaaGreat
open Go.RowKit

def insEqB (o1 r1 a1 b1 n1 o2 r2 a2 b2 n2 : Int) : Bool := o1 == o2 && (r1 == r2 && (a1 == a2 && (b1 == b2 && n1 == n2)))
theorem eql_ins (o1 r1 a1 b1 n1 o2 r2 a2 b2 n2 : Int) (w : World) : (binOp .eql 55 (insV o1 r1 a1 b1 n1) (insV o2 r2 a2 b2 n2)).run Tryz.prog w = .ok (.bool (insEqB o1 r1 a1 b1 n1 o2 r2 a2 b2 n2)) w := by
  rw [run_eql_struct, show (10000 : Nat) = 9998 + 1 + 1 from rfl, run_equalIn_agg w (9998 + 1) 55 _ _ (by kernel_rfl) (by kernel_rfl)]
  simp only [insEqB]
  by_cases h1 : o1 = o2 <;> by_cases h2 : r1 = r2 <;> by_cases h3 : a1 = a2 <;> by_cases h4 : b1 = b2 <;> by_cases h5 : n1 = n2 <;> simp [go_sem, h1, h2, h3, h4, h5]

theorem implIns_below1 {w w1 : World} {o : Obj} (h1 : Below (w.alloc o).heap.size (w.alloc o) w1) : Below w.heap.size w w1.drew := by
  have h0 : Below w.heap.size w (w.alloc o) := (Below.refl _ _).alloc (Nat.le_refl _) _
  have hs : w.heap.size ≤ (w.alloc o).heap.size := by simp
  exact (h0.trans (h1.mono hs)).drew
theorem implIns_below2 {w w1 w2 : World} {o : Obj} (h1 : Below (w.alloc o).heap.size (w.alloc o) w1) (h2 : Below w1.drew.heap.size w1.drew w2) : Below w.heap.size w w2 := by
  have h0 : Below w.heap.size w (w.alloc o) := (Below.refl _ _).alloc (Nat.le_refl _) _
  have hs : w.heap.size ≤ (w.alloc o).heap.size := by simp
  exact (h0.trans (h1.mono hs)).drew.trans (h2.mono (Nat.le_trans hs h1.size))
theorem implIns_below3 {w w1 w2 w3 : World} {o : Obj} (h1 : Below (w.alloc o).heap.size (w.alloc o) w1) (h2 : Below w1.drew.heap.size w1.drew w2) (h3 : Below w2.heap.size w2 w3) : Below w.heap.size w w3 :=
  implIns_below2 h1 (h2.trans (h3.mono h2.size))

end Go.Proofs.YtkoghgnbolaooaaGreat
