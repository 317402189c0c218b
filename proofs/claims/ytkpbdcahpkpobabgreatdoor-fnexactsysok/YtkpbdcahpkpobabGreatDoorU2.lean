/- The walks of toIns, of the methods ins and of placeOf, for every argument. -/
import Derived.Test.YtkpbdcahpkpobabGreatDoorU1
namespace Go.Proofs.YtkpbdcahpkpobabGreatDoor
open Go.RowKit

abbrev insV (op r a b n : Int) : Value := .agg #[.int .i64 op, .int .i64 r, .int .i64 a, .int .i64 b, .int .i64 n]

set_option maxHeartbeats 400000 in
theorem toIns_any (op r a b n : Int) (w : World) :
    Calls Tryz.prog 100 #[insV op r a b n] w fun e w' => e = .returned (insV op r a b n) ∧ Below w.heap.size w w' := by
  go_enter Tryz.func100, Tryz.ntmps100
  go_wp2
  refine bodyPost_ret (v := insV op r a b n) (by simp [results, Tryz.results100, go_sem]) rfl ⟨rfl, ?_⟩
  go_grown

abbrev setV (r n : Int) : Value := .agg #[.int .i64 r, .int .i64 n]

set_option maxHeartbeats 400000 in
theorem placeOf_set (r a b n : Int) (w : World) :
    Calls Tryz.prog 149 #[insV 1 r a b n] w fun e w' => e = .returned (.iface 214 (setV r n)) ∧ Below w.heap.size w w' := by
  go_enter Tryz.func149, Tryz.ntmps149
  go_wp2
  go_ret
  exact ⟨rfl, by go_grown⟩


set_option maxHeartbeats 400000 in
theorem ins_set (r n : Int) (w : World) :
    Calls Tryz.prog 217 #[setV r n] w fun e w' => e = .returned (insV 1 r 0 0 n) ∧ Below w.heap.size w w' := by
  go_enter Tryz.func217, Tryz.ntmps217
  go_wp2
  refine bodyPost_ret (v := insV 1 r 0 0 n) (by simp [results, Tryz.results217, go_sem]) rfl ⟨rfl, ?_⟩
  go_grown

abbrev calcV (op r a b : Int) : Value := .agg #[.int .i64 op, .int .i64 r, .int .i64 a, .int .i64 b]

set_option maxHeartbeats 400000 in
theorem placeOf_calc2 (r a b n : Int) (w : World) :
    Calls Tryz.prog 149 #[insV 2 r a b n] w fun e w' => e = .returned (.iface 216 (calcV 2 r a b)) ∧ Below w.heap.size w w' := by
  go_enter Tryz.func149, Tryz.ntmps149
  go_wp2
  go_ret
  exact ⟨rfl, by go_grown⟩


set_option maxHeartbeats 400000 in
theorem placeOf_calc3 (r a b n : Int) (w : World) :
    Calls Tryz.prog 149 #[insV 3 r a b n] w fun e w' => e = .returned (.iface 216 (calcV 3 r a b)) ∧ Below w.heap.size w w' := by
  go_enter Tryz.func149, Tryz.ntmps149
  go_wp2
  go_ret
  exact ⟨rfl, by go_grown⟩


set_option maxHeartbeats 400000 in
theorem placeOf_calc4 (r a b n : Int) (w : World) :
    Calls Tryz.prog 149 #[insV 4 r a b n] w fun e w' => e = .returned (.iface 216 (calcV 4 r a b)) ∧ Below w.heap.size w w' := by
  go_enter Tryz.func149, Tryz.ntmps149
  go_wp2
  go_ret
  exact ⟨rfl, by go_grown⟩


set_option maxHeartbeats 400000 in
theorem placeOf_calc5 (r a b n : Int) (w : World) :
    Calls Tryz.prog 149 #[insV 5 r a b n] w fun e w' => e = .returned (.iface 216 (calcV 5 r a b)) ∧ Below w.heap.size w w' := by
  go_enter Tryz.func149, Tryz.ntmps149
  go_wp2
  go_ret
  exact ⟨rfl, by go_grown⟩


set_option maxHeartbeats 400000 in
theorem ins_calc (op r a b : Int) (w : World) :
    Calls Tryz.prog 218 #[calcV op r a b] w fun e w' => e = .returned (insV op r a b 0) ∧ Below w.heap.size w w' := by
  go_enter Tryz.func218, Tryz.ntmps218
  go_wp2
  refine bodyPost_ret (v := insV op r a b 0) (by simp [results, Tryz.results218, go_sem]) rfl ⟨rfl, ?_⟩
  go_grown

abbrev sendV (n a : Int) : Value := .agg #[.int .i64 n, .int .i64 a]

set_option maxHeartbeats 400000 in
theorem placeOf_send (r a b n : Int) (w : World) :
    Calls Tryz.prog 149 #[insV 6 r a b n] w fun e w' => e = .returned (.iface 208 (sendV n a)) ∧ Below w.heap.size w w' := by
  go_enter Tryz.func149, Tryz.ntmps149
  go_wp2
  go_ret
  exact ⟨rfl, by go_grown⟩


set_option maxHeartbeats 400000 in
theorem ins_send (n a : Int) (w : World) :
    Calls Tryz.prog 214 #[sendV n a] w fun e w' => e = .returned (insV 6 0 a 0 n) ∧ Below w.heap.size w w' := by
  go_enter Tryz.func214, Tryz.ntmps214
  go_wp2
  refine bodyPost_ret (v := insV 6 0 a 0 n) (by simp [results, Tryz.results214, go_sem]) rfl ⟨rfl, ?_⟩
  go_grown

abbrev takeV (r n : Int) : Value := .agg #[.int .i64 r, .int .i64 n]

set_option maxHeartbeats 400000 in
theorem placeOf_take (r a b n : Int) (w : World) :
    Calls Tryz.prog 149 #[insV 7 r a b n] w fun e w' => e = .returned (.iface 210 (takeV r n)) ∧ Below w.heap.size w w' := by
  go_enter Tryz.func149, Tryz.ntmps149
  go_wp2
  go_ret
  exact ⟨rfl, by go_grown⟩


set_option maxHeartbeats 400000 in
theorem ins_take (r n : Int) (w : World) :
    Calls Tryz.prog 215 #[takeV r n] w fun e w' => e = .returned (insV 7 r 0 0 n) ∧ Below w.heap.size w w' := by
  go_enter Tryz.func215, Tryz.ntmps215
  go_wp2
  refine bodyPost_ret (v := insV 7 r 0 0 n) (by simp [results, Tryz.results215, go_sem]) rfl ⟨rfl, ?_⟩
  go_grown

abbrev printV (a : Int) : Value := .agg #[.int .i64 a]

set_option maxHeartbeats 400000 in
theorem placeOf_print (r a b n : Int) (w : World) :
    Calls Tryz.prog 149 #[insV 8 r a b n] w fun e w' => e = .returned (.iface 212 (printV a)) ∧ Below w.heap.size w w' := by
  go_enter Tryz.func149, Tryz.ntmps149
  go_wp2
  go_ret
  exact ⟨rfl, by go_grown⟩


set_option maxHeartbeats 400000 in
theorem ins_print (a : Int) (w : World) :
    Calls Tryz.prog 216 #[printV a] w fun e w' => e = .returned (insV 8 0 a 0 0) ∧ Below w.heap.size w w' := by
  go_enter Tryz.func216, Tryz.ntmps216
  go_wp2
  refine bodyPost_ret (v := insV 8 0 a 0 0) (by simp [results, Tryz.results216, go_sem]) rfl ⟨rfl, ?_⟩
  go_grown

abbrev jumpV (n : Int) : Value := .agg #[.int .i64 n]

set_option maxHeartbeats 400000 in
theorem placeOf_jump (r a b n : Int) (w : World) :
    Calls Tryz.prog 149 #[insV 9 r a b n] w fun e w' => e = .returned (.iface 218 (jumpV n)) ∧ Below w.heap.size w w' := by
  go_enter Tryz.func149, Tryz.ntmps149
  go_wp2
  go_ret
  exact ⟨rfl, by go_grown⟩


set_option maxHeartbeats 400000 in
theorem ins_jump (n : Int) (w : World) :
    Calls Tryz.prog 219 #[jumpV n] w fun e w' => e = .returned (insV 9 0 0 0 n) ∧ Below w.heap.size w w' := by
  go_enter Tryz.func219, Tryz.ntmps219
  go_wp2
  refine bodyPost_ret (v := insV 9 0 0 0 n) (by simp [results, Tryz.results219, go_sem]) rfl ⟨rfl, ?_⟩
  go_grown

abbrev zeroV (a n : Int) : Value := .agg #[.int .i64 a, .int .i64 n]

set_option maxHeartbeats 400000 in
theorem placeOf_zero (r a b n : Int) (w : World) :
    Calls Tryz.prog 149 #[insV 10 r a b n] w fun e w' => e = .returned (.iface 220 (zeroV a n)) ∧ Below w.heap.size w w' := by
  go_enter Tryz.func149, Tryz.ntmps149
  go_wp2
  go_ret
  exact ⟨rfl, by go_grown⟩


set_option maxHeartbeats 400000 in
theorem ins_zero (a n : Int) (w : World) :
    Calls Tryz.prog 220 #[zeroV a n] w fun e w' => e = .returned (insV 10 0 a 0 n) ∧ Below w.heap.size w w' := by
  go_enter Tryz.func220, Tryz.ntmps220
  go_wp2
  refine bodyPost_ret (v := insV 10 0 a 0 n) (by simp [results, Tryz.results220, go_sem]) rfl ⟨rfl, ?_⟩
  go_grown

abbrev endV : Value := .agg #[]

set_option maxHeartbeats 400000 in
theorem placeOf_end (r a b n : Int) (w : World) :
    Calls Tryz.prog 149 #[insV 11 r a b n] w fun e w' => e = .returned (.iface 222 endV) ∧ Below w.heap.size w w' := by
  go_enter Tryz.func149, Tryz.ntmps149
  go_wp2
  go_ret
  exact ⟨rfl, by go_grown⟩


set_option maxHeartbeats 400000 in
theorem ins_end (w : World) :
    Calls Tryz.prog 221 #[endV] w fun e w' => e = .returned (insV 11 0 0 0 0) ∧ Below w.heap.size w w' := by
  go_enter Tryz.func221, Tryz.ntmps221
  go_wp2
  refine bodyPost_ret (v := insV 11 0 0 0 0) (by simp [results, Tryz.results221, go_sem]) rfl ⟨rfl, ?_⟩
  go_grown


theorem placeOf_calc (op r a b n : Int) (w : World) (h1 : 2 ≤ op) (h2 : op ≤ 5) :
    Calls Tryz.prog 149 #[insV op r a b n] w fun e w' => e = .returned (.iface 216 (calcV op r a b)) ∧ Below w.heap.size w w' := by
  have h : op = 2 ∨ op = 3 ∨ op = 4 ∨ op = 5 := by omega
  rcases h with rfl | rfl | rfl | rfl
  · exact placeOf_calc2 r a b n w
  · exact placeOf_calc3 r a b n w
  · exact placeOf_calc4 r a b n w
  · exact placeOf_calc5 r a b n w


/-- An op that is none has no place. -/
theorem placeOf_none (op r a b n : Int) (w : World) (h : op < 1 ∨ 11 < op) :
    Calls Tryz.prog 149 #[insV op r a b n] w fun e w' => e = .returned .nilIface ∧ Below w.heap.size w w' := by
  have h1 : (op == 1) = false := by simp; omega
  have h2 : (op == 2) = false := by simp; omega
  have h3 : (op == 3) = false := by simp; omega
  have h4 : (op == 4) = false := by simp; omega
  have h5 : (op == 5) = false := by simp; omega
  have h6 : (op == 6) = false := by simp; omega
  have h7 : (op == 7) = false := by simp; omega
  have h8 : (op == 8) = false := by simp; omega
  have h9 : (op == 9) = false := by simp; omega
  have h10 : (op == 10) = false := by simp; omega
  have h11 : (op == 11) = false := by simp; omega
  clear h
  go_enter Tryz.func149, Tryz.ntmps149
  go_wp2
  go_ret
  exact ⟨rfl, by go_grown⟩

end Go.Proofs.YtkpbdcahpkpobabGreatDoor
