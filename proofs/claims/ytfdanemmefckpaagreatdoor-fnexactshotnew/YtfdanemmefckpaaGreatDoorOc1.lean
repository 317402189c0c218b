/- Small facts on worlds, and when two Ins are alike. -/
import Derived.Test.YtfdanemmefckpaaGreatDoorOc0
import Derived.Test.YtfdanemmefckpaaGreatDoorRows
import Derived.WalkKit
import Derived.WalkSpells
import Derived.WalkLawsBesides
import Derived.Handy
namespace Go.Proofs.YtfdanemmefckpaaGreatDoor
set_option maxHeartbeats 1000000
open Go.RowKit
def inB (x lo hi : Int) : Bool := decide (lo ≤ x ∧ x ≤ hi)
def belB (x n : Int) : Bool := decide (0 ≤ x ∧ x < n)
theorem l1In_any (x lo hi : Int) (w : World) :
  Calls Tryz.prog 51 #[.int .i64 x, .int .i64 lo, .int .i64 hi] w fun e w' => e = .returned (.bool (inB x lo hi)) ∧ w' = w := by
 by_cases h1 : lo ≤ x
 ·by_cases h2 : x ≤ hi
  ·go_enter Tryz.func51, Tryz.ntmps51
   go_wp2
   go_ret
   exact ⟨by simp [inB, h1, h2], rfl⟩
  ·go_enter Tryz.func51, Tryz.ntmps51
   go_wp2
   go_ret
   exact ⟨by simp [inB, h1, h2], rfl⟩
 ·go_enter Tryz.func51, Tryz.ntmps51
  go_wp2
  go_ret
  exact ⟨by simp [inB]; omega, rfl⟩
theorem isBelow_any (x n : Int) (w : World) :
  Calls Tryz.prog 57 #[.int .i64 x, .int .i64 n] w fun e w' => e = .returned (.bool (belB x n)) ∧ w' = w := by
 by_cases h1 : 0 ≤ x
 ·by_cases h2 : x < n
  ·go_enter Tryz.func57, Tryz.ntmps57
   go_wp2
   go_ret
   exact ⟨by simp [belB, h1, h2], rfl⟩
  ·go_enter Tryz.func57, Tryz.ntmps57
   go_wp2
   go_ret
   exact ⟨by simp [belB, h1, h2], rfl⟩
 ·go_enter Tryz.func57, Tryz.ntmps57
  go_wp2
  go_ret
  exact ⟨by simp [belB]; omega, rfl⟩
theorem isReg_any (x : Int) (w : World) :
  Calls Tryz.prog 255 #[.int .i64 x] w fun e w' => e = .returned (.bool (belB x 4)) ∧ w' = w := by
 go_enter Tryz.func255, Tryz.ntmps255
 go_wp2_with (go_at_call 57; refine (isBelow_any _ _ _).mono ?_; rintro e w' ⟨rfl, rfl⟩)
 go_ret
 exact ⟨rfl, rfl⟩
theorem isNum_any (x : Int) (w : World) :
  Calls Tryz.prog 225 #[.int .i64 x] w fun e w' => e = .returned (.bool (inB x (-1000000000) 1000000000)) ∧ w' = w := by
 by_cases h1 : -1000000000 ≤ x
 ·by_cases h2 : x ≤ 1000000000
  ·go_enter Tryz.func225, Tryz.ntmps225
   go_wp2
   go_ret
   exact ⟨by simp [inB, h1, h2], rfl⟩
  ·go_enter Tryz.func225, Tryz.ntmps225
   go_wp2
   go_ret
   exact ⟨by simp [inB, h1, h2], rfl⟩
 ·go_enter Tryz.func225, Tryz.ntmps225
  go_wp2
  go_ret
  exact ⟨by simp [inB]; omega, rfl⟩
theorem l1Num_any (x : Int) (w : World) :
  Calls Tryz.prog 154 #[.int .i64 x] w fun e w' => e = .returned (.bool (inB x (-1000000000) 1000000000)) ∧ w' = w := by
 go_enter Tryz.func154, Tryz.ntmps154
 go_wp2_with (go_at_call 51; refine (l1In_any _ _ _ _).mono ?_; rintro e w' ⟨rfl, rfl⟩)
 go_ret
 exact ⟨rfl, rfl⟩
abbrev insV (op r a b n : Int) : Value := .agg #[.int .i64 op, .int .i64 r, .int .i64 a, .int .i64 b, .int .i64 n]
theorem toIns_any (op r a b n : Int) (w : World) :
  Calls Tryz.prog 157 #[insV op r a b n] w fun e w' => e = .returned (insV op r a b n) ∧ Below w.heap.size w w' := by
 go_enter Tryz.func157, Tryz.ntmps157
 go_wp2
 refine bodyPost_ret (v := insV op r a b n) (by simp [results, Tryz.results157, go_sem]) rfl ⟨rfl, ?_⟩
 go_grown
abbrev setV (r n : Int) : Value := .agg #[.int .i64 r, .int .i64 n]
theorem placeOf_set (r a b n : Int) (w : World) :
  Calls Tryz.prog 196 #[insV 1 r a b n] w fun e w' => e = .returned (.iface 276 (setV r n)) ∧ Below w.heap.size w w' := by
 go_enter Tryz.func196, Tryz.ntmps196
 go_wp2
 go_ret
 exact ⟨rfl, by go_grown⟩
theorem ins_set (r n : Int) (w : World) :
  Calls Tryz.prog 284 #[setV r n] w fun e w' => e = .returned (insV 1 r 0 0 n) ∧ Below w.heap.size w w' := by
 go_enter Tryz.func284, Tryz.ntmps284
 go_wp2
 refine bodyPost_ret (v := insV 1 r 0 0 n) (by simp [results, Tryz.results284, go_sem]) rfl ⟨rfl, ?_⟩
 go_grown
abbrev calcV (op r a b : Int) : Value := .agg #[.int .i64 op, .int .i64 r, .int .i64 a, .int .i64 b]
theorem placeOf_calc2 (r a b n : Int) (w : World) :
  Calls Tryz.prog 196 #[insV 2 r a b n] w fun e w' => e = .returned (.iface 278 (calcV 2 r a b)) ∧ Below w.heap.size w w' := by
 go_enter Tryz.func196, Tryz.ntmps196
 go_wp2
 go_ret
 exact ⟨rfl, by go_grown⟩
theorem placeOf_calc3 (r a b n : Int) (w : World) :
  Calls Tryz.prog 196 #[insV 3 r a b n] w fun e w' => e = .returned (.iface 278 (calcV 3 r a b)) ∧ Below w.heap.size w w' := by
 go_enter Tryz.func196, Tryz.ntmps196
 go_wp2
 go_ret
 exact ⟨rfl, by go_grown⟩
theorem placeOf_calc4 (r a b n : Int) (w : World) :
  Calls Tryz.prog 196 #[insV 4 r a b n] w fun e w' => e = .returned (.iface 278 (calcV 4 r a b)) ∧ Below w.heap.size w w' := by
 go_enter Tryz.func196, Tryz.ntmps196
 go_wp2
 go_ret
 exact ⟨rfl, by go_grown⟩
theorem placeOf_calc5 (r a b n : Int) (w : World) :
  Calls Tryz.prog 196 #[insV 5 r a b n] w fun e w' => e = .returned (.iface 278 (calcV 5 r a b)) ∧ Below w.heap.size w w' := by
 go_enter Tryz.func196, Tryz.ntmps196
 go_wp2
 go_ret
 exact ⟨rfl, by go_grown⟩
theorem ins_calc (op r a b : Int) (w : World) :
  Calls Tryz.prog 285 #[calcV op r a b] w fun e w' => e = .returned (insV op r a b 0) ∧ Below w.heap.size w w' := by
 go_enter Tryz.func285, Tryz.ntmps285
 go_wp2
 refine bodyPost_ret (v := insV op r a b 0) (by simp [results, Tryz.results285, go_sem]) rfl ⟨rfl, ?_⟩
 go_grown
abbrev sendV (n a : Int) : Value := .agg #[.int .i64 n, .int .i64 a]
theorem placeOf_send (r a b n : Int) (w : World) :
  Calls Tryz.prog 196 #[insV 6 r a b n] w fun e w' => e = .returned (.iface 270 (sendV n a)) ∧ Below w.heap.size w w' := by
 go_enter Tryz.func196, Tryz.ntmps196
 go_wp2
 go_ret
 exact ⟨rfl, by go_grown⟩
theorem ins_send (n a : Int) (w : World) :
  Calls Tryz.prog 281 #[sendV n a] w fun e w' => e = .returned (insV 6 0 a 0 n) ∧ Below w.heap.size w w' := by
 go_enter Tryz.func281, Tryz.ntmps281
 go_wp2
 refine bodyPost_ret (v := insV 6 0 a 0 n) (by simp [results, Tryz.results281, go_sem]) rfl ⟨rfl, ?_⟩
 go_grown
abbrev takeV (r n : Int) : Value := .agg #[.int .i64 r, .int .i64 n]
theorem placeOf_take (r a b n : Int) (w : World) :
  Calls Tryz.prog 196 #[insV 7 r a b n] w fun e w' => e = .returned (.iface 272 (takeV r n)) ∧ Below w.heap.size w w' := by
 go_enter Tryz.func196, Tryz.ntmps196
 go_wp2
 go_ret
 exact ⟨rfl, by go_grown⟩
theorem ins_take (r n : Int) (w : World) :
  Calls Tryz.prog 282 #[takeV r n] w fun e w' => e = .returned (insV 7 r 0 0 n) ∧ Below w.heap.size w w' := by
 go_enter Tryz.func282, Tryz.ntmps282
 go_wp2
 refine bodyPost_ret (v := insV 7 r 0 0 n) (by simp [results, Tryz.results282, go_sem]) rfl ⟨rfl, ?_⟩
 go_grown
abbrev printV (a : Int) : Value := .agg #[.int .i64 a]
theorem placeOf_print (r a b n : Int) (w : World) :
  Calls Tryz.prog 196 #[insV 8 r a b n] w fun e w' => e = .returned (.iface 274 (printV a)) ∧ Below w.heap.size w w' := by
 go_enter Tryz.func196, Tryz.ntmps196
 go_wp2
 go_ret
 exact ⟨rfl, by go_grown⟩
theorem ins_print (a : Int) (w : World) :
  Calls Tryz.prog 283 #[printV a] w fun e w' => e = .returned (insV 8 0 a 0 0) ∧ Below w.heap.size w w' := by
 go_enter Tryz.func283, Tryz.ntmps283
 go_wp2
 refine bodyPost_ret (v := insV 8 0 a 0 0) (by simp [results, Tryz.results283, go_sem]) rfl ⟨rfl, ?_⟩
 go_grown
abbrev jumpV (n : Int) : Value := .agg #[.int .i64 n]
theorem placeOf_jump (r a b n : Int) (w : World) :
  Calls Tryz.prog 196 #[insV 9 r a b n] w fun e w' => e = .returned (.iface 280 (jumpV n)) ∧ Below w.heap.size w w' := by
 go_enter Tryz.func196, Tryz.ntmps196
 go_wp2
 go_ret
 exact ⟨rfl, by go_grown⟩
theorem ins_jump (n : Int) (w : World) :
  Calls Tryz.prog 286 #[jumpV n] w fun e w' => e = .returned (insV 9 0 0 0 n) ∧ Below w.heap.size w w' := by
 go_enter Tryz.func286, Tryz.ntmps286
 go_wp2
 refine bodyPost_ret (v := insV 9 0 0 0 n) (by simp [results, Tryz.results286, go_sem]) rfl ⟨rfl, ?_⟩
 go_grown
abbrev zeroV (a n : Int) : Value := .agg #[.int .i64 a, .int .i64 n]
theorem placeOf_zero (r a b n : Int) (w : World) :
  Calls Tryz.prog 196 #[insV 10 r a b n] w fun e w' => e = .returned (.iface 282 (zeroV a n)) ∧ Below w.heap.size w w' := by
 go_enter Tryz.func196, Tryz.ntmps196
 go_wp2
 go_ret
 exact ⟨rfl, by go_grown⟩
theorem ins_zero (a n : Int) (w : World) :
  Calls Tryz.prog 287 #[zeroV a n] w fun e w' => e = .returned (insV 10 0 a 0 n) ∧ Below w.heap.size w w' := by
 go_enter Tryz.func287, Tryz.ntmps287
 go_wp2
 refine bodyPost_ret (v := insV 10 0 a 0 n) (by simp [results, Tryz.results287, go_sem]) rfl ⟨rfl, ?_⟩
 go_grown
abbrev endV : Value := .agg #[]
theorem placeOf_end (r a b n : Int) (w : World) :
  Calls Tryz.prog 196 #[insV 11 r a b n] w fun e w' => e = .returned (.iface 283 endV) ∧ Below w.heap.size w w' := by
 go_enter Tryz.func196, Tryz.ntmps196
 go_wp2
 go_ret
 exact ⟨rfl, by go_grown⟩
theorem ins_end (w : World) :
  Calls Tryz.prog 288 #[endV] w fun e w' => e = .returned (insV 11 0 0 0 0) ∧ Below w.heap.size w w' := by
 go_enter Tryz.func288, Tryz.ntmps288
 go_wp2
 refine bodyPost_ret (v := insV 11 0 0 0 0) (by simp [results, Tryz.results288, go_sem]) rfl ⟨rfl, ?_⟩
 go_grown
theorem placeOf_calc (op r a b n : Int) (w : World) (h1 : 2 ≤ op) (h2 : op ≤ 5) :
  Calls Tryz.prog 196 #[insV op r a b n] w fun e w' => e = .returned (.iface 278 (calcV op r a b)) ∧ Below w.heap.size w w' := by
 have h : op = 2 ∨ op = 3 ∨ op = 4 ∨ op = 5 := by omega
 rcases h with rfl | rfl | rfl | rfl
 ·exact placeOf_calc2 r a b n w
 ·exact placeOf_calc3 r a b n w
 ·exact placeOf_calc4 r a b n w
 ·exact placeOf_calc5 r a b n w
theorem placeOf_none (op r a b n : Int) (w : World) (h : op < 1 ∨ 11 < op) :
  Calls Tryz.prog 196 #[insV op r a b n] w fun e w' => e = .returned .nilIface ∧ Below w.heap.size w w' := by
 have h1 : (op == 1) = false := by simp; omega
 have h2 : (op == 2) = false := by simp; omega
 have h3 : (op == 3) = false := by simp; omega
 have h4 : (op == 4) = false := by simp; omega
 have h5 : (op == 5) = false := by simp; omega
 have h6 : (op == 6) = false := by simp; omega
 have h7 : (op == 7) = false := by simp; omega
 have h8 : (op == 8) = false := by simp; omega
 have h9 : (op == 9) = false := by simp; omega
 have h10 : (op == 10) = false := by simp; omega
 have h11 : (op == 11) = false := by simp; omega
 clear h
 go_enter Tryz.func196, Tryz.ntmps196
 go_wp2
 go_ret
 exact ⟨rfl, by go_grown⟩
theorem as_set_set (v : Value) (w : World) : (Instr.typeAssert (.iface 276 v) 238 276 true).run Tryz.prog w = .ok (.tuple #[v, .bool true]) w := by kernel_rfl
theorem as_set_calc (v : Value) (w : World) : (Instr.typeAssert (.iface 276 v) 238 278 true).run Tryz.prog w = .ok (.tuple #[.agg #[.int .i64 0, .int .i64 0, .int .i64 0, .int .i64 0], .bool false]) w := by kernel_rfl
theorem as_set_send (v : Value) (w : World) : (Instr.typeAssert (.iface 276 v) 238 270 true).run Tryz.prog w = .ok (.tuple #[.agg #[.int .i64 0, .int .i64 0], .bool false]) w := by kernel_rfl
theorem as_set_take (v : Value) (w : World) : (Instr.typeAssert (.iface 276 v) 238 272 true).run Tryz.prog w = .ok (.tuple #[.agg #[.int .i64 0, .int .i64 0], .bool false]) w := by kernel_rfl
theorem as_set_print (v : Value) (w : World) : (Instr.typeAssert (.iface 276 v) 238 274 true).run Tryz.prog w = .ok (.tuple #[.agg #[.int .i64 0], .bool false]) w := by kernel_rfl
theorem as_set_jump (v : Value) (w : World) : (Instr.typeAssert (.iface 276 v) 238 280 true).run Tryz.prog w = .ok (.tuple #[.agg #[.int .i64 0], .bool false]) w := by kernel_rfl
theorem as_set_zero (v : Value) (w : World) : (Instr.typeAssert (.iface 276 v) 238 282 true).run Tryz.prog w = .ok (.tuple #[.agg #[.int .i64 0, .int .i64 0], .bool false]) w := by kernel_rfl
theorem as_set_end (v : Value) (w : World) : (Instr.typeAssert (.iface 276 v) 238 283 true).run Tryz.prog w = .ok (.tuple #[.agg #[], .bool false]) w := by kernel_rfl
theorem as_calc_set (v : Value) (w : World) : (Instr.typeAssert (.iface 278 v) 238 276 true).run Tryz.prog w = .ok (.tuple #[.agg #[.int .i64 0, .int .i64 0], .bool false]) w := by kernel_rfl
theorem as_calc_calc (v : Value) (w : World) : (Instr.typeAssert (.iface 278 v) 238 278 true).run Tryz.prog w = .ok (.tuple #[v, .bool true]) w := by kernel_rfl
theorem as_calc_send (v : Value) (w : World) : (Instr.typeAssert (.iface 278 v) 238 270 true).run Tryz.prog w = .ok (.tuple #[.agg #[.int .i64 0, .int .i64 0], .bool false]) w := by kernel_rfl
theorem as_calc_take (v : Value) (w : World) : (Instr.typeAssert (.iface 278 v) 238 272 true).run Tryz.prog w = .ok (.tuple #[.agg #[.int .i64 0, .int .i64 0], .bool false]) w := by kernel_rfl
theorem as_calc_print (v : Value) (w : World) : (Instr.typeAssert (.iface 278 v) 238 274 true).run Tryz.prog w = .ok (.tuple #[.agg #[.int .i64 0], .bool false]) w := by kernel_rfl
theorem as_calc_jump (v : Value) (w : World) : (Instr.typeAssert (.iface 278 v) 238 280 true).run Tryz.prog w = .ok (.tuple #[.agg #[.int .i64 0], .bool false]) w := by kernel_rfl
theorem as_calc_zero (v : Value) (w : World) : (Instr.typeAssert (.iface 278 v) 238 282 true).run Tryz.prog w = .ok (.tuple #[.agg #[.int .i64 0, .int .i64 0], .bool false]) w := by kernel_rfl
theorem as_calc_end (v : Value) (w : World) : (Instr.typeAssert (.iface 278 v) 238 283 true).run Tryz.prog w = .ok (.tuple #[.agg #[], .bool false]) w := by kernel_rfl
theorem as_send_set (v : Value) (w : World) : (Instr.typeAssert (.iface 270 v) 238 276 true).run Tryz.prog w = .ok (.tuple #[.agg #[.int .i64 0, .int .i64 0], .bool false]) w := by kernel_rfl
theorem as_send_calc (v : Value) (w : World) : (Instr.typeAssert (.iface 270 v) 238 278 true).run Tryz.prog w = .ok (.tuple #[.agg #[.int .i64 0, .int .i64 0, .int .i64 0, .int .i64 0], .bool false]) w := by kernel_rfl
theorem as_send_send (v : Value) (w : World) : (Instr.typeAssert (.iface 270 v) 238 270 true).run Tryz.prog w = .ok (.tuple #[v, .bool true]) w := by kernel_rfl
theorem as_send_take (v : Value) (w : World) : (Instr.typeAssert (.iface 270 v) 238 272 true).run Tryz.prog w = .ok (.tuple #[.agg #[.int .i64 0, .int .i64 0], .bool false]) w := by kernel_rfl
theorem as_send_print (v : Value) (w : World) : (Instr.typeAssert (.iface 270 v) 238 274 true).run Tryz.prog w = .ok (.tuple #[.agg #[.int .i64 0], .bool false]) w := by kernel_rfl
theorem as_send_jump (v : Value) (w : World) : (Instr.typeAssert (.iface 270 v) 238 280 true).run Tryz.prog w = .ok (.tuple #[.agg #[.int .i64 0], .bool false]) w := by kernel_rfl
theorem as_send_zero (v : Value) (w : World) : (Instr.typeAssert (.iface 270 v) 238 282 true).run Tryz.prog w = .ok (.tuple #[.agg #[.int .i64 0, .int .i64 0], .bool false]) w := by kernel_rfl
theorem as_send_end (v : Value) (w : World) : (Instr.typeAssert (.iface 270 v) 238 283 true).run Tryz.prog w = .ok (.tuple #[.agg #[], .bool false]) w := by kernel_rfl
theorem as_take_set (v : Value) (w : World) : (Instr.typeAssert (.iface 272 v) 238 276 true).run Tryz.prog w = .ok (.tuple #[.agg #[.int .i64 0, .int .i64 0], .bool false]) w := by kernel_rfl
theorem as_take_calc (v : Value) (w : World) : (Instr.typeAssert (.iface 272 v) 238 278 true).run Tryz.prog w = .ok (.tuple #[.agg #[.int .i64 0, .int .i64 0, .int .i64 0, .int .i64 0], .bool false]) w := by kernel_rfl
theorem as_take_send (v : Value) (w : World) : (Instr.typeAssert (.iface 272 v) 238 270 true).run Tryz.prog w = .ok (.tuple #[.agg #[.int .i64 0, .int .i64 0], .bool false]) w := by kernel_rfl
theorem as_take_take (v : Value) (w : World) : (Instr.typeAssert (.iface 272 v) 238 272 true).run Tryz.prog w = .ok (.tuple #[v, .bool true]) w := by kernel_rfl
theorem as_take_print (v : Value) (w : World) : (Instr.typeAssert (.iface 272 v) 238 274 true).run Tryz.prog w = .ok (.tuple #[.agg #[.int .i64 0], .bool false]) w := by kernel_rfl
theorem as_take_jump (v : Value) (w : World) : (Instr.typeAssert (.iface 272 v) 238 280 true).run Tryz.prog w = .ok (.tuple #[.agg #[.int .i64 0], .bool false]) w := by kernel_rfl
theorem as_take_zero (v : Value) (w : World) : (Instr.typeAssert (.iface 272 v) 238 282 true).run Tryz.prog w = .ok (.tuple #[.agg #[.int .i64 0, .int .i64 0], .bool false]) w := by kernel_rfl
theorem as_take_end (v : Value) (w : World) : (Instr.typeAssert (.iface 272 v) 238 283 true).run Tryz.prog w = .ok (.tuple #[.agg #[], .bool false]) w := by kernel_rfl
theorem as_print_set (v : Value) (w : World) : (Instr.typeAssert (.iface 274 v) 238 276 true).run Tryz.prog w = .ok (.tuple #[.agg #[.int .i64 0, .int .i64 0], .bool false]) w := by kernel_rfl
theorem as_print_calc (v : Value) (w : World) : (Instr.typeAssert (.iface 274 v) 238 278 true).run Tryz.prog w = .ok (.tuple #[.agg #[.int .i64 0, .int .i64 0, .int .i64 0, .int .i64 0], .bool false]) w := by kernel_rfl
theorem as_print_send (v : Value) (w : World) : (Instr.typeAssert (.iface 274 v) 238 270 true).run Tryz.prog w = .ok (.tuple #[.agg #[.int .i64 0, .int .i64 0], .bool false]) w := by kernel_rfl
theorem as_print_take (v : Value) (w : World) : (Instr.typeAssert (.iface 274 v) 238 272 true).run Tryz.prog w = .ok (.tuple #[.agg #[.int .i64 0, .int .i64 0], .bool false]) w := by kernel_rfl
theorem as_print_print (v : Value) (w : World) : (Instr.typeAssert (.iface 274 v) 238 274 true).run Tryz.prog w = .ok (.tuple #[v, .bool true]) w := by kernel_rfl
theorem as_print_jump (v : Value) (w : World) : (Instr.typeAssert (.iface 274 v) 238 280 true).run Tryz.prog w = .ok (.tuple #[.agg #[.int .i64 0], .bool false]) w := by kernel_rfl
theorem as_print_zero (v : Value) (w : World) : (Instr.typeAssert (.iface 274 v) 238 282 true).run Tryz.prog w = .ok (.tuple #[.agg #[.int .i64 0, .int .i64 0], .bool false]) w := by kernel_rfl
theorem as_print_end (v : Value) (w : World) : (Instr.typeAssert (.iface 274 v) 238 283 true).run Tryz.prog w = .ok (.tuple #[.agg #[], .bool false]) w := by kernel_rfl
theorem as_jump_set (v : Value) (w : World) : (Instr.typeAssert (.iface 280 v) 238 276 true).run Tryz.prog w = .ok (.tuple #[.agg #[.int .i64 0, .int .i64 0], .bool false]) w := by kernel_rfl
theorem as_jump_calc (v : Value) (w : World) : (Instr.typeAssert (.iface 280 v) 238 278 true).run Tryz.prog w = .ok (.tuple #[.agg #[.int .i64 0, .int .i64 0, .int .i64 0, .int .i64 0], .bool false]) w := by kernel_rfl
theorem as_jump_send (v : Value) (w : World) : (Instr.typeAssert (.iface 280 v) 238 270 true).run Tryz.prog w = .ok (.tuple #[.agg #[.int .i64 0, .int .i64 0], .bool false]) w := by kernel_rfl
theorem as_jump_take (v : Value) (w : World) : (Instr.typeAssert (.iface 280 v) 238 272 true).run Tryz.prog w = .ok (.tuple #[.agg #[.int .i64 0, .int .i64 0], .bool false]) w := by kernel_rfl
theorem as_jump_print (v : Value) (w : World) : (Instr.typeAssert (.iface 280 v) 238 274 true).run Tryz.prog w = .ok (.tuple #[.agg #[.int .i64 0], .bool false]) w := by kernel_rfl
theorem as_jump_jump (v : Value) (w : World) : (Instr.typeAssert (.iface 280 v) 238 280 true).run Tryz.prog w = .ok (.tuple #[v, .bool true]) w := by kernel_rfl
theorem as_jump_zero (v : Value) (w : World) : (Instr.typeAssert (.iface 280 v) 238 282 true).run Tryz.prog w = .ok (.tuple #[.agg #[.int .i64 0, .int .i64 0], .bool false]) w := by kernel_rfl
theorem as_jump_end (v : Value) (w : World) : (Instr.typeAssert (.iface 280 v) 238 283 true).run Tryz.prog w = .ok (.tuple #[.agg #[], .bool false]) w := by kernel_rfl
theorem as_zero_set (v : Value) (w : World) : (Instr.typeAssert (.iface 282 v) 238 276 true).run Tryz.prog w = .ok (.tuple #[.agg #[.int .i64 0, .int .i64 0], .bool false]) w := by kernel_rfl
theorem as_zero_calc (v : Value) (w : World) : (Instr.typeAssert (.iface 282 v) 238 278 true).run Tryz.prog w = .ok (.tuple #[.agg #[.int .i64 0, .int .i64 0, .int .i64 0, .int .i64 0], .bool false]) w := by kernel_rfl
theorem as_zero_send (v : Value) (w : World) : (Instr.typeAssert (.iface 282 v) 238 270 true).run Tryz.prog w = .ok (.tuple #[.agg #[.int .i64 0, .int .i64 0], .bool false]) w := by kernel_rfl
theorem as_zero_take (v : Value) (w : World) : (Instr.typeAssert (.iface 282 v) 238 272 true).run Tryz.prog w = .ok (.tuple #[.agg #[.int .i64 0, .int .i64 0], .bool false]) w := by kernel_rfl
theorem as_zero_print (v : Value) (w : World) : (Instr.typeAssert (.iface 282 v) 238 274 true).run Tryz.prog w = .ok (.tuple #[.agg #[.int .i64 0], .bool false]) w := by kernel_rfl
theorem as_zero_jump (v : Value) (w : World) : (Instr.typeAssert (.iface 282 v) 238 280 true).run Tryz.prog w = .ok (.tuple #[.agg #[.int .i64 0], .bool false]) w := by kernel_rfl
theorem as_zero_zero (v : Value) (w : World) : (Instr.typeAssert (.iface 282 v) 238 282 true).run Tryz.prog w = .ok (.tuple #[v, .bool true]) w := by kernel_rfl
theorem as_zero_end (v : Value) (w : World) : (Instr.typeAssert (.iface 282 v) 238 283 true).run Tryz.prog w = .ok (.tuple #[.agg #[], .bool false]) w := by kernel_rfl
theorem as_end_set (v : Value) (w : World) : (Instr.typeAssert (.iface 283 v) 238 276 true).run Tryz.prog w = .ok (.tuple #[.agg #[.int .i64 0, .int .i64 0], .bool false]) w := by kernel_rfl
theorem as_end_calc (v : Value) (w : World) : (Instr.typeAssert (.iface 283 v) 238 278 true).run Tryz.prog w = .ok (.tuple #[.agg #[.int .i64 0, .int .i64 0, .int .i64 0, .int .i64 0], .bool false]) w := by kernel_rfl
theorem as_end_send (v : Value) (w : World) : (Instr.typeAssert (.iface 283 v) 238 270 true).run Tryz.prog w = .ok (.tuple #[.agg #[.int .i64 0, .int .i64 0], .bool false]) w := by kernel_rfl
theorem as_end_take (v : Value) (w : World) : (Instr.typeAssert (.iface 283 v) 238 272 true).run Tryz.prog w = .ok (.tuple #[.agg #[.int .i64 0, .int .i64 0], .bool false]) w := by kernel_rfl
theorem as_end_print (v : Value) (w : World) : (Instr.typeAssert (.iface 283 v) 238 274 true).run Tryz.prog w = .ok (.tuple #[.agg #[.int .i64 0], .bool false]) w := by kernel_rfl
theorem as_end_jump (v : Value) (w : World) : (Instr.typeAssert (.iface 283 v) 238 280 true).run Tryz.prog w = .ok (.tuple #[.agg #[.int .i64 0], .bool false]) w := by kernel_rfl
theorem as_end_zero (v : Value) (w : World) : (Instr.typeAssert (.iface 283 v) 238 282 true).run Tryz.prog w = .ok (.tuple #[.agg #[.int .i64 0, .int .i64 0], .bool false]) w := by kernel_rfl
theorem as_end_end (v : Value) (w : World) : (Instr.typeAssert (.iface 283 v) 238 283 true).run Tryz.prog w = .ok (.tuple #[v, .bool true]) w := by kernel_rfl
attribute [local go_sem] as_set_set as_set_calc as_set_send as_set_take as_set_print as_set_jump as_set_zero as_set_end as_calc_set as_calc_calc as_calc_send as_calc_take as_calc_print as_calc_jump as_calc_zero as_calc_end as_send_set as_send_calc as_send_send as_send_take as_send_print as_send_jump as_send_zero as_send_end as_take_set as_take_calc as_take_send as_take_take as_take_print as_take_jump as_take_zero as_take_end as_print_set as_print_calc as_print_send as_print_take as_print_print as_print_jump as_print_zero as_print_end as_jump_set as_jump_calc as_jump_send as_jump_take as_jump_print as_jump_jump as_jump_zero as_jump_end as_zero_set as_zero_calc as_zero_send as_zero_take as_zero_print as_zero_jump as_zero_zero as_zero_end as_end_set as_end_calc as_end_send as_end_take as_end_print as_end_jump as_end_zero as_end_end
theorem fits_set (r n places procs : Int) (w : World) :
  Calls Tryz.prog 238 #[.iface 276 (setV r n), .int .i64 places, .int .i64 procs] w fun e w' => e = .returned (.bool (belB r 4 && inB n (-1000000000) 1000000000)) ∧ Below w.heap.size w w' := by
 rcases Bool.eq_false_or_eq_true (belB r 4) with t0 | t0 <;> rcases Bool.eq_false_or_eq_true (inB n (-1000000000) 1000000000) with t1 | t1
 all_goals
  go_enter Tryz.func238, Tryz.ntmps238
  go_wp2_with (first | (go_at_call 255; refine (isReg_any _ _).mono ?_; rintro e w' ⟨rfl, rfl⟩) | (go_at_call 225; refine (isNum_any _ _).mono ?_; rintro e w' ⟨rfl, rfl⟩) | (go_at_call 57; refine (isBelow_any _ _ _).mono ?_; rintro e w' ⟨rfl, rfl⟩))
  go_ret
  exact ⟨by rw [t0, t1] <;> rfl, by go_grown⟩
theorem fits_calc (op r a b places procs : Int) (w : World) :
  Calls Tryz.prog 238 #[.iface 278 (calcV op r a b), .int .i64 places, .int .i64 procs] w fun e w' => e = .returned (.bool (belB r 4 && belB a 4 && belB b 4)) ∧ Below w.heap.size w w' := by
 rcases Bool.eq_false_or_eq_true (belB r 4) with t0 | t0 <;> rcases Bool.eq_false_or_eq_true (belB a 4) with t1 | t1 <;> rcases Bool.eq_false_or_eq_true (belB b 4) with t2 | t2
 all_goals
  go_enter Tryz.func238, Tryz.ntmps238
  go_wp2_with (first | (go_at_call 255; refine (isReg_any _ _).mono ?_; rintro e w' ⟨rfl, rfl⟩) | (go_at_call 225; refine (isNum_any _ _).mono ?_; rintro e w' ⟨rfl, rfl⟩) | (go_at_call 57; refine (isBelow_any _ _ _).mono ?_; rintro e w' ⟨rfl, rfl⟩))
  go_ret
  exact ⟨by rw [t0, t1, t2] <;> rfl, by go_grown⟩
theorem fits_send (n a places procs : Int) (w : World) :
  Calls Tryz.prog 238 #[.iface 270 (sendV n a), .int .i64 places, .int .i64 procs] w fun e w' => e = .returned (.bool (belB a 4 && belB n procs)) ∧ Below w.heap.size w w' := by
 rcases Bool.eq_false_or_eq_true (belB a 4) with t0 | t0 <;> rcases Bool.eq_false_or_eq_true (belB n procs) with t1 | t1
 all_goals
  go_enter Tryz.func238, Tryz.ntmps238
  go_wp2_with (first | (go_at_call 255; refine (isReg_any _ _).mono ?_; rintro e w' ⟨rfl, rfl⟩) | (go_at_call 225; refine (isNum_any _ _).mono ?_; rintro e w' ⟨rfl, rfl⟩) | (go_at_call 57; refine (isBelow_any _ _ _).mono ?_; rintro e w' ⟨rfl, rfl⟩))
  go_ret
  exact ⟨by rw [t0, t1] <;> rfl, by go_grown⟩
theorem fits_take (r n places procs : Int) (w : World) :
  Calls Tryz.prog 238 #[.iface 272 (takeV r n), .int .i64 places, .int .i64 procs] w fun e w' => e = .returned (.bool (belB r 4 && ((n == 9) || belB n procs))) ∧ Below w.heap.size w w' := by
 rcases Bool.eq_false_or_eq_true (belB r 4) with t0 | t0 <;> rcases Bool.eq_false_or_eq_true ((n == 9)) with t1 | t1 <;> rcases Bool.eq_false_or_eq_true (belB n procs) with t2 | t2
 all_goals
  go_enter Tryz.func238, Tryz.ntmps238
  go_wp2_with (first | (go_at_call 255; refine (isReg_any _ _).mono ?_; rintro e w' ⟨rfl, rfl⟩) | (go_at_call 225; refine (isNum_any _ _).mono ?_; rintro e w' ⟨rfl, rfl⟩) | (go_at_call 57; refine (isBelow_any _ _ _).mono ?_; rintro e w' ⟨rfl, rfl⟩))
  go_ret
  exact ⟨by rw [t0, t1, t2] <;> rfl, by go_grown⟩
theorem fits_print (a places procs : Int) (w : World) :
  Calls Tryz.prog 238 #[.iface 274 (printV a), .int .i64 places, .int .i64 procs] w fun e w' => e = .returned (.bool (belB a 4)) ∧ Below w.heap.size w w' := by
 go_enter Tryz.func238, Tryz.ntmps238
 go_wp2_with (first | (go_at_call 255; refine (isReg_any _ _).mono ?_; rintro e w' ⟨rfl, rfl⟩) | (go_at_call 225; refine (isNum_any _ _).mono ?_; rintro e w' ⟨rfl, rfl⟩) | (go_at_call 57; refine (isBelow_any _ _ _).mono ?_; rintro e w' ⟨rfl, rfl⟩))
 go_ret
 exact ⟨rfl, by go_grown⟩
theorem fits_jump (n places procs : Int) (w : World) :
  Calls Tryz.prog 238 #[.iface 280 (jumpV n), .int .i64 places, .int .i64 procs] w fun e w' => e = .returned (.bool (belB n places)) ∧ Below w.heap.size w w' := by
 go_enter Tryz.func238, Tryz.ntmps238
 go_wp2_with (first | (go_at_call 255; refine (isReg_any _ _).mono ?_; rintro e w' ⟨rfl, rfl⟩) | (go_at_call 225; refine (isNum_any _ _).mono ?_; rintro e w' ⟨rfl, rfl⟩) | (go_at_call 57; refine (isBelow_any _ _ _).mono ?_; rintro e w' ⟨rfl, rfl⟩))
 go_ret
 exact ⟨rfl, by go_grown⟩
theorem fits_zero (a n places procs : Int) (w : World) :
  Calls Tryz.prog 238 #[.iface 282 (zeroV a n), .int .i64 places, .int .i64 procs] w fun e w' => e = .returned (.bool (belB a 4 && belB n places)) ∧ Below w.heap.size w w' := by
 rcases Bool.eq_false_or_eq_true (belB a 4) with t0 | t0 <;> rcases Bool.eq_false_or_eq_true (belB n places) with t1 | t1
 all_goals
  go_enter Tryz.func238, Tryz.ntmps238
  go_wp2_with (first | (go_at_call 255; refine (isReg_any _ _).mono ?_; rintro e w' ⟨rfl, rfl⟩) | (go_at_call 225; refine (isNum_any _ _).mono ?_; rintro e w' ⟨rfl, rfl⟩) | (go_at_call 57; refine (isBelow_any _ _ _).mono ?_; rintro e w' ⟨rfl, rfl⟩))
  go_ret
  exact ⟨by rw [t0, t1] <;> rfl, by go_grown⟩
theorem fits_end (places procs : Int) (w : World) :
  Calls Tryz.prog 238 #[.iface 283 endV, .int .i64 places, .int .i64 procs] w fun e w' => e = .returned (.bool (true)) ∧ Below w.heap.size w w' := by
 go_enter Tryz.func238, Tryz.ntmps238
 go_wp2_with (first | (go_at_call 255; refine (isReg_any _ _).mono ?_; rintro e w' ⟨rfl, rfl⟩) | (go_at_call 225; refine (isNum_any _ _).mono ?_; rintro e w' ⟨rfl, rfl⟩) | (go_at_call 57; refine (isBelow_any _ _ _).mono ?_; rintro e w' ⟨rfl, rfl⟩))
 go_ret
 exact ⟨rfl, by go_grown⟩
def insEqB (o1 r1 a1 b1 n1 o2 r2 a2 b2 n2 : Int) : Bool := o1 == o2 && (r1 == r2 && (a1 == a2 && (b1 == b2 && n1 == n2)))
theorem eql_ins (o1 r1 a1 b1 n1 o2 r2 a2 b2 n2 : Int) (w : World) : (binOp .eql 149 (insV o1 r1 a1 b1 n1) (insV o2 r2 a2 b2 n2)).run Tryz.prog w = .ok (.bool (insEqB o1 r1 a1 b1 n1 o2 r2 a2 b2 n2)) w := by
 rw [run_eql_struct, show (10000 : Nat) = 9998 + 1 + 1 from rfl, run_equalIn_agg w (9998 + 1) 149 _ _ (by kernel_rfl) (by kernel_rfl)]
 simp only [insEqB]
 by_cases h1 : o1 = o2 <;> by_cases h2 : r1 = r2 <;> by_cases h3 : a1 = a2 <;> by_cases h4 : b1 = b2 <;> by_cases h5 : n1 = n2 <;> simp [go_sem, h1, h2, h3, h4, h5]
theorem implIns_below1 {w w1 : World} {o : Obj} (h1 : Below (w.alloc o).heap.size (w.alloc o) w1) : Below w.heap.size w w1.drew := by
 have h0 : Below w.heap.size w (w.alloc o) := (Below.refl _ _).alloc (Nat.le_refl _) _
 have hs : w.heap.size ≤ (w.alloc o).heap.size := by simp
 exact (h0.trans (h1.mono hs)).drew
theorem implIns_below2 {w w1 w2 : World} {o : Obj} (h1 : Below (w.alloc o).heap.size (w.alloc o) w1) (h2 : Below w1.drew.heap.size w1.drew w2) : Below w.heap.size w w2 := by
 have h0 : Below w.heap.size w (w.alloc o) := (Below.refl _ _).alloc (Nat.le_refl _) _
 have hs : w.heap.size ≤ (w.alloc o).heap.size := by simp
 exact (h0.trans (h1.mono hs)).drew.trans (h2.mono (Nat.le_trans hs h1.size))
theorem implIns_below3 {w w1 w2 w3 : World} {o : Obj} (h1 : Below (w.alloc o).heap.size (w.alloc o) w1) (h2 : Below w1.drew.heap.size w1.drew w2) (h3 : Below w2.heap.size w2 w3) : Below w.heap.size w w3 :=
 implIns_below2 h1 (h2.trans (h3.mono h2.size))
end Go.Proofs.YtfdanemmefckpaaGreatDoor
