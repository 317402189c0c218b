/- What a type assertion of one kind of place to another answers. -/
import Derived.Test.YtkpbdcahpkpobaaGreatDoorT2
namespace Go.Proofs.YtkpbdcahpkpobaaGreatDoor
open Go.RowKit

theorem as_set_set (v : Value) (w : World) : (Instr.typeAssert (.iface 224 v) 205 224 true).run Tryz.prog w = .ok (.tuple #[v, .bool true]) w := by kernel_rfl
theorem as_set_calc (v : Value) (w : World) : (Instr.typeAssert (.iface 224 v) 205 226 true).run Tryz.prog w = .ok (.tuple #[.agg #[.int .i64 0, .int .i64 0, .int .i64 0, .int .i64 0], .bool false]) w := by kernel_rfl
theorem as_set_send (v : Value) (w : World) : (Instr.typeAssert (.iface 224 v) 205 228 true).run Tryz.prog w = .ok (.tuple #[.agg #[.int .i64 0, .int .i64 0], .bool false]) w := by kernel_rfl
theorem as_set_take (v : Value) (w : World) : (Instr.typeAssert (.iface 224 v) 205 230 true).run Tryz.prog w = .ok (.tuple #[.agg #[.int .i64 0, .int .i64 0], .bool false]) w := by kernel_rfl
theorem as_set_print (v : Value) (w : World) : (Instr.typeAssert (.iface 224 v) 205 232 true).run Tryz.prog w = .ok (.tuple #[.agg #[.int .i64 0], .bool false]) w := by kernel_rfl
theorem as_set_jump (v : Value) (w : World) : (Instr.typeAssert (.iface 224 v) 205 234 true).run Tryz.prog w = .ok (.tuple #[.agg #[.int .i64 0], .bool false]) w := by kernel_rfl
theorem as_set_zero (v : Value) (w : World) : (Instr.typeAssert (.iface 224 v) 205 236 true).run Tryz.prog w = .ok (.tuple #[.agg #[.int .i64 0, .int .i64 0], .bool false]) w := by kernel_rfl
theorem as_set_end (v : Value) (w : World) : (Instr.typeAssert (.iface 224 v) 205 238 true).run Tryz.prog w = .ok (.tuple #[.agg #[], .bool false]) w := by kernel_rfl
theorem as_calc_set (v : Value) (w : World) : (Instr.typeAssert (.iface 226 v) 205 224 true).run Tryz.prog w = .ok (.tuple #[.agg #[.int .i64 0, .int .i64 0], .bool false]) w := by kernel_rfl
theorem as_calc_calc (v : Value) (w : World) : (Instr.typeAssert (.iface 226 v) 205 226 true).run Tryz.prog w = .ok (.tuple #[v, .bool true]) w := by kernel_rfl
theorem as_calc_send (v : Value) (w : World) : (Instr.typeAssert (.iface 226 v) 205 228 true).run Tryz.prog w = .ok (.tuple #[.agg #[.int .i64 0, .int .i64 0], .bool false]) w := by kernel_rfl
theorem as_calc_take (v : Value) (w : World) : (Instr.typeAssert (.iface 226 v) 205 230 true).run Tryz.prog w = .ok (.tuple #[.agg #[.int .i64 0, .int .i64 0], .bool false]) w := by kernel_rfl
theorem as_calc_print (v : Value) (w : World) : (Instr.typeAssert (.iface 226 v) 205 232 true).run Tryz.prog w = .ok (.tuple #[.agg #[.int .i64 0], .bool false]) w := by kernel_rfl
theorem as_calc_jump (v : Value) (w : World) : (Instr.typeAssert (.iface 226 v) 205 234 true).run Tryz.prog w = .ok (.tuple #[.agg #[.int .i64 0], .bool false]) w := by kernel_rfl
theorem as_calc_zero (v : Value) (w : World) : (Instr.typeAssert (.iface 226 v) 205 236 true).run Tryz.prog w = .ok (.tuple #[.agg #[.int .i64 0, .int .i64 0], .bool false]) w := by kernel_rfl
theorem as_calc_end (v : Value) (w : World) : (Instr.typeAssert (.iface 226 v) 205 238 true).run Tryz.prog w = .ok (.tuple #[.agg #[], .bool false]) w := by kernel_rfl
theorem as_send_set (v : Value) (w : World) : (Instr.typeAssert (.iface 228 v) 205 224 true).run Tryz.prog w = .ok (.tuple #[.agg #[.int .i64 0, .int .i64 0], .bool false]) w := by kernel_rfl
theorem as_send_calc (v : Value) (w : World) : (Instr.typeAssert (.iface 228 v) 205 226 true).run Tryz.prog w = .ok (.tuple #[.agg #[.int .i64 0, .int .i64 0, .int .i64 0, .int .i64 0], .bool false]) w := by kernel_rfl
theorem as_send_send (v : Value) (w : World) : (Instr.typeAssert (.iface 228 v) 205 228 true).run Tryz.prog w = .ok (.tuple #[v, .bool true]) w := by kernel_rfl
theorem as_send_take (v : Value) (w : World) : (Instr.typeAssert (.iface 228 v) 205 230 true).run Tryz.prog w = .ok (.tuple #[.agg #[.int .i64 0, .int .i64 0], .bool false]) w := by kernel_rfl
theorem as_send_print (v : Value) (w : World) : (Instr.typeAssert (.iface 228 v) 205 232 true).run Tryz.prog w = .ok (.tuple #[.agg #[.int .i64 0], .bool false]) w := by kernel_rfl
theorem as_send_jump (v : Value) (w : World) : (Instr.typeAssert (.iface 228 v) 205 234 true).run Tryz.prog w = .ok (.tuple #[.agg #[.int .i64 0], .bool false]) w := by kernel_rfl
theorem as_send_zero (v : Value) (w : World) : (Instr.typeAssert (.iface 228 v) 205 236 true).run Tryz.prog w = .ok (.tuple #[.agg #[.int .i64 0, .int .i64 0], .bool false]) w := by kernel_rfl
theorem as_send_end (v : Value) (w : World) : (Instr.typeAssert (.iface 228 v) 205 238 true).run Tryz.prog w = .ok (.tuple #[.agg #[], .bool false]) w := by kernel_rfl
theorem as_take_set (v : Value) (w : World) : (Instr.typeAssert (.iface 230 v) 205 224 true).run Tryz.prog w = .ok (.tuple #[.agg #[.int .i64 0, .int .i64 0], .bool false]) w := by kernel_rfl
theorem as_take_calc (v : Value) (w : World) : (Instr.typeAssert (.iface 230 v) 205 226 true).run Tryz.prog w = .ok (.tuple #[.agg #[.int .i64 0, .int .i64 0, .int .i64 0, .int .i64 0], .bool false]) w := by kernel_rfl
theorem as_take_send (v : Value) (w : World) : (Instr.typeAssert (.iface 230 v) 205 228 true).run Tryz.prog w = .ok (.tuple #[.agg #[.int .i64 0, .int .i64 0], .bool false]) w := by kernel_rfl
theorem as_take_take (v : Value) (w : World) : (Instr.typeAssert (.iface 230 v) 205 230 true).run Tryz.prog w = .ok (.tuple #[v, .bool true]) w := by kernel_rfl
theorem as_take_print (v : Value) (w : World) : (Instr.typeAssert (.iface 230 v) 205 232 true).run Tryz.prog w = .ok (.tuple #[.agg #[.int .i64 0], .bool false]) w := by kernel_rfl
theorem as_take_jump (v : Value) (w : World) : (Instr.typeAssert (.iface 230 v) 205 234 true).run Tryz.prog w = .ok (.tuple #[.agg #[.int .i64 0], .bool false]) w := by kernel_rfl
theorem as_take_zero (v : Value) (w : World) : (Instr.typeAssert (.iface 230 v) 205 236 true).run Tryz.prog w = .ok (.tuple #[.agg #[.int .i64 0, .int .i64 0], .bool false]) w := by kernel_rfl
theorem as_take_end (v : Value) (w : World) : (Instr.typeAssert (.iface 230 v) 205 238 true).run Tryz.prog w = .ok (.tuple #[.agg #[], .bool false]) w := by kernel_rfl
theorem as_print_set (v : Value) (w : World) : (Instr.typeAssert (.iface 232 v) 205 224 true).run Tryz.prog w = .ok (.tuple #[.agg #[.int .i64 0, .int .i64 0], .bool false]) w := by kernel_rfl
theorem as_print_calc (v : Value) (w : World) : (Instr.typeAssert (.iface 232 v) 205 226 true).run Tryz.prog w = .ok (.tuple #[.agg #[.int .i64 0, .int .i64 0, .int .i64 0, .int .i64 0], .bool false]) w := by kernel_rfl
theorem as_print_send (v : Value) (w : World) : (Instr.typeAssert (.iface 232 v) 205 228 true).run Tryz.prog w = .ok (.tuple #[.agg #[.int .i64 0, .int .i64 0], .bool false]) w := by kernel_rfl
theorem as_print_take (v : Value) (w : World) : (Instr.typeAssert (.iface 232 v) 205 230 true).run Tryz.prog w = .ok (.tuple #[.agg #[.int .i64 0, .int .i64 0], .bool false]) w := by kernel_rfl
theorem as_print_print (v : Value) (w : World) : (Instr.typeAssert (.iface 232 v) 205 232 true).run Tryz.prog w = .ok (.tuple #[v, .bool true]) w := by kernel_rfl
theorem as_print_jump (v : Value) (w : World) : (Instr.typeAssert (.iface 232 v) 205 234 true).run Tryz.prog w = .ok (.tuple #[.agg #[.int .i64 0], .bool false]) w := by kernel_rfl
theorem as_print_zero (v : Value) (w : World) : (Instr.typeAssert (.iface 232 v) 205 236 true).run Tryz.prog w = .ok (.tuple #[.agg #[.int .i64 0, .int .i64 0], .bool false]) w := by kernel_rfl
theorem as_print_end (v : Value) (w : World) : (Instr.typeAssert (.iface 232 v) 205 238 true).run Tryz.prog w = .ok (.tuple #[.agg #[], .bool false]) w := by kernel_rfl
theorem as_jump_set (v : Value) (w : World) : (Instr.typeAssert (.iface 234 v) 205 224 true).run Tryz.prog w = .ok (.tuple #[.agg #[.int .i64 0, .int .i64 0], .bool false]) w := by kernel_rfl
theorem as_jump_calc (v : Value) (w : World) : (Instr.typeAssert (.iface 234 v) 205 226 true).run Tryz.prog w = .ok (.tuple #[.agg #[.int .i64 0, .int .i64 0, .int .i64 0, .int .i64 0], .bool false]) w := by kernel_rfl
theorem as_jump_send (v : Value) (w : World) : (Instr.typeAssert (.iface 234 v) 205 228 true).run Tryz.prog w = .ok (.tuple #[.agg #[.int .i64 0, .int .i64 0], .bool false]) w := by kernel_rfl
theorem as_jump_take (v : Value) (w : World) : (Instr.typeAssert (.iface 234 v) 205 230 true).run Tryz.prog w = .ok (.tuple #[.agg #[.int .i64 0, .int .i64 0], .bool false]) w := by kernel_rfl
theorem as_jump_print (v : Value) (w : World) : (Instr.typeAssert (.iface 234 v) 205 232 true).run Tryz.prog w = .ok (.tuple #[.agg #[.int .i64 0], .bool false]) w := by kernel_rfl
theorem as_jump_jump (v : Value) (w : World) : (Instr.typeAssert (.iface 234 v) 205 234 true).run Tryz.prog w = .ok (.tuple #[v, .bool true]) w := by kernel_rfl
theorem as_jump_zero (v : Value) (w : World) : (Instr.typeAssert (.iface 234 v) 205 236 true).run Tryz.prog w = .ok (.tuple #[.agg #[.int .i64 0, .int .i64 0], .bool false]) w := by kernel_rfl
theorem as_jump_end (v : Value) (w : World) : (Instr.typeAssert (.iface 234 v) 205 238 true).run Tryz.prog w = .ok (.tuple #[.agg #[], .bool false]) w := by kernel_rfl
theorem as_zero_set (v : Value) (w : World) : (Instr.typeAssert (.iface 236 v) 205 224 true).run Tryz.prog w = .ok (.tuple #[.agg #[.int .i64 0, .int .i64 0], .bool false]) w := by kernel_rfl
theorem as_zero_calc (v : Value) (w : World) : (Instr.typeAssert (.iface 236 v) 205 226 true).run Tryz.prog w = .ok (.tuple #[.agg #[.int .i64 0, .int .i64 0, .int .i64 0, .int .i64 0], .bool false]) w := by kernel_rfl
theorem as_zero_send (v : Value) (w : World) : (Instr.typeAssert (.iface 236 v) 205 228 true).run Tryz.prog w = .ok (.tuple #[.agg #[.int .i64 0, .int .i64 0], .bool false]) w := by kernel_rfl
theorem as_zero_take (v : Value) (w : World) : (Instr.typeAssert (.iface 236 v) 205 230 true).run Tryz.prog w = .ok (.tuple #[.agg #[.int .i64 0, .int .i64 0], .bool false]) w := by kernel_rfl
theorem as_zero_print (v : Value) (w : World) : (Instr.typeAssert (.iface 236 v) 205 232 true).run Tryz.prog w = .ok (.tuple #[.agg #[.int .i64 0], .bool false]) w := by kernel_rfl
theorem as_zero_jump (v : Value) (w : World) : (Instr.typeAssert (.iface 236 v) 205 234 true).run Tryz.prog w = .ok (.tuple #[.agg #[.int .i64 0], .bool false]) w := by kernel_rfl
theorem as_zero_zero (v : Value) (w : World) : (Instr.typeAssert (.iface 236 v) 205 236 true).run Tryz.prog w = .ok (.tuple #[v, .bool true]) w := by kernel_rfl
theorem as_zero_end (v : Value) (w : World) : (Instr.typeAssert (.iface 236 v) 205 238 true).run Tryz.prog w = .ok (.tuple #[.agg #[], .bool false]) w := by kernel_rfl
theorem as_end_set (v : Value) (w : World) : (Instr.typeAssert (.iface 238 v) 205 224 true).run Tryz.prog w = .ok (.tuple #[.agg #[.int .i64 0, .int .i64 0], .bool false]) w := by kernel_rfl
theorem as_end_calc (v : Value) (w : World) : (Instr.typeAssert (.iface 238 v) 205 226 true).run Tryz.prog w = .ok (.tuple #[.agg #[.int .i64 0, .int .i64 0, .int .i64 0, .int .i64 0], .bool false]) w := by kernel_rfl
theorem as_end_send (v : Value) (w : World) : (Instr.typeAssert (.iface 238 v) 205 228 true).run Tryz.prog w = .ok (.tuple #[.agg #[.int .i64 0, .int .i64 0], .bool false]) w := by kernel_rfl
theorem as_end_take (v : Value) (w : World) : (Instr.typeAssert (.iface 238 v) 205 230 true).run Tryz.prog w = .ok (.tuple #[.agg #[.int .i64 0, .int .i64 0], .bool false]) w := by kernel_rfl
theorem as_end_print (v : Value) (w : World) : (Instr.typeAssert (.iface 238 v) 205 232 true).run Tryz.prog w = .ok (.tuple #[.agg #[.int .i64 0], .bool false]) w := by kernel_rfl
theorem as_end_jump (v : Value) (w : World) : (Instr.typeAssert (.iface 238 v) 205 234 true).run Tryz.prog w = .ok (.tuple #[.agg #[.int .i64 0], .bool false]) w := by kernel_rfl
theorem as_end_zero (v : Value) (w : World) : (Instr.typeAssert (.iface 238 v) 205 236 true).run Tryz.prog w = .ok (.tuple #[.agg #[.int .i64 0, .int .i64 0], .bool false]) w := by kernel_rfl
theorem as_end_end (v : Value) (w : World) : (Instr.typeAssert (.iface 238 v) 205 238 true).run Tryz.prog w = .ok (.tuple #[v, .bool true]) w := by kernel_rfl

end Go.Proofs.YtkpbdcahpkpobaaGreatDoor
