/- The walks of toIns, of the methods ins and of placeOf, for every argument. -/
import Derived.Test.YtdlfdelngolkgaaDoorInsA
namespace Go.Proofs.YtdlfdelngolkgaaDoor
open Go.RowKit

abbrev insV (op r a b n : Int) : Value := .agg #[.int .i64 op, .int .i64 r, .int .i64 a, .int .i64 b, .int .i64 n]


abbrev setV (r n : Int) : Value := .agg #[.int .i64 r, .int .i64 n]

set_option maxHeartbeats 400000 in
theorem placeOf_set (r a b n : Int) (w : World) :
    Calls Tryd.prog 19 #[insV 1 r a b n] w fun e w' => e = .returned (.iface 63 (setV r n)) ∧ Below w.heap.size w w' := by
  go_enter Tryd.func19, Tryd.ntmps19
  go_wp2
  go_ret
  exact ⟨rfl, by go_grown⟩


set_option maxHeartbeats 400000 in
theorem ins_set (r n : Int) (w : World) :
    Calls Tryd.prog 97 #[setV r n] w fun e w' => e = .returned (insV 1 r 0 0 n) ∧ Below w.heap.size w w' := by
  go_enter Tryd.func97, Tryd.ntmps97
  go_wp2
  refine bodyPost_ret (v := insV 1 r 0 0 n) (by simp [results, Tryd.results97, go_sem]) rfl ⟨rfl, ?_⟩
  go_grown

abbrev calcV (op r a b : Int) : Value := .agg #[.int .i64 op, .int .i64 r, .int .i64 a, .int .i64 b]

set_option maxHeartbeats 400000 in
theorem placeOf_calc2 (r a b n : Int) (w : World) :
    Calls Tryd.prog 19 #[insV 2 r a b n] w fun e w' => e = .returned (.iface 66 (calcV 2 r a b)) ∧ Below w.heap.size w w' := by
  go_enter Tryd.func19, Tryd.ntmps19
  go_wp2
  go_ret
  exact ⟨rfl, by go_grown⟩


set_option maxHeartbeats 400000 in
theorem placeOf_calc3 (r a b n : Int) (w : World) :
    Calls Tryd.prog 19 #[insV 3 r a b n] w fun e w' => e = .returned (.iface 66 (calcV 3 r a b)) ∧ Below w.heap.size w w' := by
  go_enter Tryd.func19, Tryd.ntmps19
  go_wp2
  go_ret
  exact ⟨rfl, by go_grown⟩


set_option maxHeartbeats 400000 in
theorem placeOf_calc4 (r a b n : Int) (w : World) :
    Calls Tryd.prog 19 #[insV 4 r a b n] w fun e w' => e = .returned (.iface 66 (calcV 4 r a b)) ∧ Below w.heap.size w w' := by
  go_enter Tryd.func19, Tryd.ntmps19
  go_wp2
  go_ret
  exact ⟨rfl, by go_grown⟩


set_option maxHeartbeats 400000 in
theorem placeOf_calc5 (r a b n : Int) (w : World) :
    Calls Tryd.prog 19 #[insV 5 r a b n] w fun e w' => e = .returned (.iface 66 (calcV 5 r a b)) ∧ Below w.heap.size w w' := by
  go_enter Tryd.func19, Tryd.ntmps19
  go_wp2
  go_ret
  exact ⟨rfl, by go_grown⟩


set_option maxHeartbeats 400000 in
theorem ins_calc (op r a b : Int) (w : World) :
    Calls Tryd.prog 98 #[calcV op r a b] w fun e w' => e = .returned (insV op r a b 0) ∧ Below w.heap.size w w' := by
  go_enter Tryd.func98, Tryd.ntmps98
  go_wp2
  refine bodyPost_ret (v := insV op r a b 0) (by simp [results, Tryd.results98, go_sem]) rfl ⟨rfl, ?_⟩
  go_grown

abbrev sendV (n a : Int) : Value := .agg #[.int .i64 n, .int .i64 a]

set_option maxHeartbeats 400000 in
theorem placeOf_send (r a b n : Int) (w : World) :
    Calls Tryd.prog 19 #[insV 6 r a b n] w fun e w' => e = .returned (.iface 68 (sendV n a)) ∧ Below w.heap.size w w' := by
  go_enter Tryd.func19, Tryd.ntmps19
  go_wp2
  go_ret
  exact ⟨rfl, by go_grown⟩


set_option maxHeartbeats 400000 in
theorem ins_send (n a : Int) (w : World) :
    Calls Tryd.prog 99 #[sendV n a] w fun e w' => e = .returned (insV 6 0 a 0 n) ∧ Below w.heap.size w w' := by
  go_enter Tryd.func99, Tryd.ntmps99
  go_wp2
  refine bodyPost_ret (v := insV 6 0 a 0 n) (by simp [results, Tryd.results99, go_sem]) rfl ⟨rfl, ?_⟩
  go_grown

abbrev takeV (r n : Int) : Value := .agg #[.int .i64 r, .int .i64 n]

set_option maxHeartbeats 400000 in
theorem placeOf_take (r a b n : Int) (w : World) :
    Calls Tryd.prog 19 #[insV 7 r a b n] w fun e w' => e = .returned (.iface 70 (takeV r n)) ∧ Below w.heap.size w w' := by
  go_enter Tryd.func19, Tryd.ntmps19
  go_wp2
  go_ret
  exact ⟨rfl, by go_grown⟩


set_option maxHeartbeats 400000 in
theorem ins_take (r n : Int) (w : World) :
    Calls Tryd.prog 100 #[takeV r n] w fun e w' => e = .returned (insV 7 r 0 0 n) ∧ Below w.heap.size w w' := by
  go_enter Tryd.func100, Tryd.ntmps100
  go_wp2
  refine bodyPost_ret (v := insV 7 r 0 0 n) (by simp [results, Tryd.results100, go_sem]) rfl ⟨rfl, ?_⟩
  go_grown

abbrev printV (a : Int) : Value := .agg #[.int .i64 a]

set_option maxHeartbeats 400000 in
theorem placeOf_print (r a b n : Int) (w : World) :
    Calls Tryd.prog 19 #[insV 8 r a b n] w fun e w' => e = .returned (.iface 72 (printV a)) ∧ Below w.heap.size w w' := by
  go_enter Tryd.func19, Tryd.ntmps19
  go_wp2
  go_ret
  exact ⟨rfl, by go_grown⟩


set_option maxHeartbeats 400000 in
theorem ins_print (a : Int) (w : World) :
    Calls Tryd.prog 101 #[printV a] w fun e w' => e = .returned (insV 8 0 a 0 0) ∧ Below w.heap.size w w' := by
  go_enter Tryd.func101, Tryd.ntmps101
  go_wp2
  refine bodyPost_ret (v := insV 8 0 a 0 0) (by simp [results, Tryd.results101, go_sem]) rfl ⟨rfl, ?_⟩
  go_grown

abbrev jumpV (n : Int) : Value := .agg #[.int .i64 n]

set_option maxHeartbeats 400000 in
theorem placeOf_jump (r a b n : Int) (w : World) :
    Calls Tryd.prog 19 #[insV 9 r a b n] w fun e w' => e = .returned (.iface 74 (jumpV n)) ∧ Below w.heap.size w w' := by
  go_enter Tryd.func19, Tryd.ntmps19
  go_wp2
  go_ret
  exact ⟨rfl, by go_grown⟩


set_option maxHeartbeats 400000 in
theorem ins_jump (n : Int) (w : World) :
    Calls Tryd.prog 102 #[jumpV n] w fun e w' => e = .returned (insV 9 0 0 0 n) ∧ Below w.heap.size w w' := by
  go_enter Tryd.func102, Tryd.ntmps102
  go_wp2
  refine bodyPost_ret (v := insV 9 0 0 0 n) (by simp [results, Tryd.results102, go_sem]) rfl ⟨rfl, ?_⟩
  go_grown

abbrev zeroV (a n : Int) : Value := .agg #[.int .i64 a, .int .i64 n]

set_option maxHeartbeats 400000 in
theorem placeOf_zero (r a b n : Int) (w : World) :
    Calls Tryd.prog 19 #[insV 10 r a b n] w fun e w' => e = .returned (.iface 76 (zeroV a n)) ∧ Below w.heap.size w w' := by
  go_enter Tryd.func19, Tryd.ntmps19
  go_wp2
  go_ret
  exact ⟨rfl, by go_grown⟩


set_option maxHeartbeats 400000 in
theorem ins_zero (a n : Int) (w : World) :
    Calls Tryd.prog 103 #[zeroV a n] w fun e w' => e = .returned (insV 10 0 a 0 n) ∧ Below w.heap.size w w' := by
  go_enter Tryd.func103, Tryd.ntmps103
  go_wp2
  refine bodyPost_ret (v := insV 10 0 a 0 n) (by simp [results, Tryd.results103, go_sem]) rfl ⟨rfl, ?_⟩
  go_grown

abbrev endV : Value := .agg #[]

set_option maxHeartbeats 400000 in
theorem placeOf_end (r a b n : Int) (w : World) :
    Calls Tryd.prog 19 #[insV 11 r a b n] w fun e w' => e = .returned (.iface 78 endV) ∧ Below w.heap.size w w' := by
  go_enter Tryd.func19, Tryd.ntmps19
  go_wp2
  go_ret
  exact ⟨rfl, by go_grown⟩


set_option maxHeartbeats 400000 in
theorem ins_end (w : World) :
    Calls Tryd.prog 104 #[endV] w fun e w' => e = .returned (insV 11 0 0 0 0) ∧ Below w.heap.size w w' := by
  go_enter Tryd.func104, Tryd.ntmps104
  go_wp2
  refine bodyPost_ret (v := insV 11 0 0 0 0) (by simp [results, Tryd.results104, go_sem]) rfl ⟨rfl, ?_⟩
  go_grown


theorem placeOf_calc (op r a b n : Int) (w : World) (h1 : 2 ≤ op) (h2 : op ≤ 5) :
    Calls Tryd.prog 19 #[insV op r a b n] w fun e w' => e = .returned (.iface 66 (calcV op r a b)) ∧ Below w.heap.size w w' := by
  have h : op = 2 ∨ op = 3 ∨ op = 4 ∨ op = 5 := by omega
  rcases h with rfl | rfl | rfl | rfl
  · exact placeOf_calc2 r a b n w
  · exact placeOf_calc3 r a b n w
  · exact placeOf_calc4 r a b n w
  · exact placeOf_calc5 r a b n w


/-- An op that is none has no place. -/
theorem placeOf_none (op r a b n : Int) (w : World) (h : op < 1 ∨ 11 < op) :
    Calls Tryd.prog 19 #[insV op r a b n] w fun e w' => e = .returned .nilIface ∧ Below w.heap.size w w' := by
  have h1 : (op == 1) = false := by simp; omega
  have h2 : (op == 2) = false := by simp; omega
  have h3 : (op == 3) = false := by simp; omega
  have h4 : (op == 4) = false := by simp; omega
  have h5 : (op == 5) = false := by simp; omega
  have h6 : (op == 6) = false := by simp; omega
  have h7 : (op == 7) = false := by simp; omega
  have h8 : (op == 8) = false := by simp; omega
  have h9 : (op == 9) = false := by simp; omega
  have h10 : (op == 10) = false := by simp; omega
  have h11 : (op == 11) = false := by simp; omega
  clear h
  go_enter Tryd.func19, Tryd.ntmps19
  go_wp2
  go_ret
  exact ⟨rfl, by go_grown⟩

end Go.Proofs.YtdlfdelngolkgaaDoor
