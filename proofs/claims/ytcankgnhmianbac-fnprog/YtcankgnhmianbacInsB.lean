/- The walks of toIns, of the methods ins and of placeOf, for every argument. -/
import Derived.Test.YtcankgnhmianbacInsA
namespace Go.Proofs.Ytcankgnhmianbac
open Go.RowKit

abbrev insV (op r a b n : Int) : Value := .agg #[.int .i64 op, .int .i64 r, .int .i64 a, .int .i64 b, .int .i64 n]


abbrev setV (r n : Int) : Value := .agg #[.int .i64 r, .int .i64 n]

set_option maxHeartbeats 400000 in
theorem placeOf_set (r a b n : Int) (w : World) :
    Calls Try.prog 18 #[insV 1 r a b n] w fun e w' => e = .returned (.iface 53 (setV r n)) ∧ Below w.heap.size w w' := by
  go_enter Try.func18, Try.ntmps18
  go_wp2
  go_ret
  exact ⟨rfl, by go_grown⟩


set_option maxHeartbeats 400000 in
theorem ins_set (r n : Int) (w : World) :
    Calls Try.prog 42 #[setV r n] w fun e w' => e = .returned (insV 1 r 0 0 n) ∧ Below w.heap.size w w' := by
  go_enter Try.func42, Try.ntmps42
  go_wp2
  refine bodyPost_ret (v := insV 1 r 0 0 n) (by simp [results, Try.results42, go_sem]) rfl ⟨rfl, ?_⟩
  go_grown

abbrev calcV (op r a b : Int) : Value := .agg #[.int .i64 op, .int .i64 r, .int .i64 a, .int .i64 b]

set_option maxHeartbeats 400000 in
theorem placeOf_calc2 (r a b n : Int) (w : World) :
    Calls Try.prog 18 #[insV 2 r a b n] w fun e w' => e = .returned (.iface 55 (calcV 2 r a b)) ∧ Below w.heap.size w w' := by
  go_enter Try.func18, Try.ntmps18
  go_wp2
  go_ret
  exact ⟨rfl, by go_grown⟩


set_option maxHeartbeats 400000 in
theorem placeOf_calc3 (r a b n : Int) (w : World) :
    Calls Try.prog 18 #[insV 3 r a b n] w fun e w' => e = .returned (.iface 55 (calcV 3 r a b)) ∧ Below w.heap.size w w' := by
  go_enter Try.func18, Try.ntmps18
  go_wp2
  go_ret
  exact ⟨rfl, by go_grown⟩


set_option maxHeartbeats 400000 in
theorem placeOf_calc4 (r a b n : Int) (w : World) :
    Calls Try.prog 18 #[insV 4 r a b n] w fun e w' => e = .returned (.iface 55 (calcV 4 r a b)) ∧ Below w.heap.size w w' := by
  go_enter Try.func18, Try.ntmps18
  go_wp2
  go_ret
  exact ⟨rfl, by go_grown⟩


set_option maxHeartbeats 400000 in
theorem placeOf_calc5 (r a b n : Int) (w : World) :
    Calls Try.prog 18 #[insV 5 r a b n] w fun e w' => e = .returned (.iface 55 (calcV 5 r a b)) ∧ Below w.heap.size w w' := by
  go_enter Try.func18, Try.ntmps18
  go_wp2
  go_ret
  exact ⟨rfl, by go_grown⟩


set_option maxHeartbeats 400000 in
theorem ins_calc (op r a b : Int) (w : World) :
    Calls Try.prog 43 #[calcV op r a b] w fun e w' => e = .returned (insV op r a b 0) ∧ Below w.heap.size w w' := by
  go_enter Try.func43, Try.ntmps43
  go_wp2
  refine bodyPost_ret (v := insV op r a b 0) (by simp [results, Try.results43, go_sem]) rfl ⟨rfl, ?_⟩
  go_grown

abbrev sendV (n a : Int) : Value := .agg #[.int .i64 n, .int .i64 a]

set_option maxHeartbeats 400000 in
theorem placeOf_send (r a b n : Int) (w : World) :
    Calls Try.prog 18 #[insV 6 r a b n] w fun e w' => e = .returned (.iface 57 (sendV n a)) ∧ Below w.heap.size w w' := by
  go_enter Try.func18, Try.ntmps18
  go_wp2
  go_ret
  exact ⟨rfl, by go_grown⟩


set_option maxHeartbeats 400000 in
theorem ins_send (n a : Int) (w : World) :
    Calls Try.prog 44 #[sendV n a] w fun e w' => e = .returned (insV 6 0 a 0 n) ∧ Below w.heap.size w w' := by
  go_enter Try.func44, Try.ntmps44
  go_wp2
  refine bodyPost_ret (v := insV 6 0 a 0 n) (by simp [results, Try.results44, go_sem]) rfl ⟨rfl, ?_⟩
  go_grown

abbrev takeV (r n : Int) : Value := .agg #[.int .i64 r, .int .i64 n]

set_option maxHeartbeats 400000 in
theorem placeOf_take (r a b n : Int) (w : World) :
    Calls Try.prog 18 #[insV 7 r a b n] w fun e w' => e = .returned (.iface 59 (takeV r n)) ∧ Below w.heap.size w w' := by
  go_enter Try.func18, Try.ntmps18
  go_wp2
  go_ret
  exact ⟨rfl, by go_grown⟩


set_option maxHeartbeats 400000 in
theorem ins_take (r n : Int) (w : World) :
    Calls Try.prog 45 #[takeV r n] w fun e w' => e = .returned (insV 7 r 0 0 n) ∧ Below w.heap.size w w' := by
  go_enter Try.func45, Try.ntmps45
  go_wp2
  refine bodyPost_ret (v := insV 7 r 0 0 n) (by simp [results, Try.results45, go_sem]) rfl ⟨rfl, ?_⟩
  go_grown

abbrev printV (a : Int) : Value := .agg #[.int .i64 a]

set_option maxHeartbeats 400000 in
theorem placeOf_print (r a b n : Int) (w : World) :
    Calls Try.prog 18 #[insV 8 r a b n] w fun e w' => e = .returned (.iface 61 (printV a)) ∧ Below w.heap.size w w' := by
  go_enter Try.func18, Try.ntmps18
  go_wp2
  go_ret
  exact ⟨rfl, by go_grown⟩


set_option maxHeartbeats 400000 in
theorem ins_print (a : Int) (w : World) :
    Calls Try.prog 46 #[printV a] w fun e w' => e = .returned (insV 8 0 a 0 0) ∧ Below w.heap.size w w' := by
  go_enter Try.func46, Try.ntmps46
  go_wp2
  refine bodyPost_ret (v := insV 8 0 a 0 0) (by simp [results, Try.results46, go_sem]) rfl ⟨rfl, ?_⟩
  go_grown

abbrev jumpV (n : Int) : Value := .agg #[.int .i64 n]

set_option maxHeartbeats 400000 in
theorem placeOf_jump (r a b n : Int) (w : World) :
    Calls Try.prog 18 #[insV 9 r a b n] w fun e w' => e = .returned (.iface 63 (jumpV n)) ∧ Below w.heap.size w w' := by
  go_enter Try.func18, Try.ntmps18
  go_wp2
  go_ret
  exact ⟨rfl, by go_grown⟩


set_option maxHeartbeats 400000 in
theorem ins_jump (n : Int) (w : World) :
    Calls Try.prog 47 #[jumpV n] w fun e w' => e = .returned (insV 9 0 0 0 n) ∧ Below w.heap.size w w' := by
  go_enter Try.func47, Try.ntmps47
  go_wp2
  refine bodyPost_ret (v := insV 9 0 0 0 n) (by simp [results, Try.results47, go_sem]) rfl ⟨rfl, ?_⟩
  go_grown

abbrev zeroV (a n : Int) : Value := .agg #[.int .i64 a, .int .i64 n]

set_option maxHeartbeats 400000 in
theorem placeOf_zero (r a b n : Int) (w : World) :
    Calls Try.prog 18 #[insV 10 r a b n] w fun e w' => e = .returned (.iface 65 (zeroV a n)) ∧ Below w.heap.size w w' := by
  go_enter Try.func18, Try.ntmps18
  go_wp2
  go_ret
  exact ⟨rfl, by go_grown⟩


set_option maxHeartbeats 400000 in
theorem ins_zero (a n : Int) (w : World) :
    Calls Try.prog 48 #[zeroV a n] w fun e w' => e = .returned (insV 10 0 a 0 n) ∧ Below w.heap.size w w' := by
  go_enter Try.func48, Try.ntmps48
  go_wp2
  refine bodyPost_ret (v := insV 10 0 a 0 n) (by simp [results, Try.results48, go_sem]) rfl ⟨rfl, ?_⟩
  go_grown

abbrev endV : Value := .agg #[]

set_option maxHeartbeats 400000 in
theorem placeOf_end (r a b n : Int) (w : World) :
    Calls Try.prog 18 #[insV 11 r a b n] w fun e w' => e = .returned (.iface 67 endV) ∧ Below w.heap.size w w' := by
  go_enter Try.func18, Try.ntmps18
  go_wp2
  go_ret
  exact ⟨rfl, by go_grown⟩


set_option maxHeartbeats 400000 in
theorem ins_end (w : World) :
    Calls Try.prog 49 #[endV] w fun e w' => e = .returned (insV 11 0 0 0 0) ∧ Below w.heap.size w w' := by
  go_enter Try.func49, Try.ntmps49
  go_wp2
  refine bodyPost_ret (v := insV 11 0 0 0 0) (by simp [results, Try.results49, go_sem]) rfl ⟨rfl, ?_⟩
  go_grown


theorem placeOf_calc (op r a b n : Int) (w : World) (h1 : 2 ≤ op) (h2 : op ≤ 5) :
    Calls Try.prog 18 #[insV op r a b n] w fun e w' => e = .returned (.iface 55 (calcV op r a b)) ∧ Below w.heap.size w w' := by
  have h : op = 2 ∨ op = 3 ∨ op = 4 ∨ op = 5 := by omega
  rcases h with rfl | rfl | rfl | rfl
  · exact placeOf_calc2 r a b n w
  · exact placeOf_calc3 r a b n w
  · exact placeOf_calc4 r a b n w
  · exact placeOf_calc5 r a b n w


/-- An op that is none has no place. -/
theorem placeOf_none (op r a b n : Int) (w : World) (h : op < 1 ∨ 11 < op) :
    Calls Try.prog 18 #[insV op r a b n] w fun e w' => e = .returned .nilIface ∧ Below w.heap.size w w' := by
  have h1 : (op == 1) = false := by simp; omega
  have h2 : (op == 2) = false := by simp; omega
  have h3 : (op == 3) = false := by simp; omega
  have h4 : (op == 4) = false := by simp; omega
  have h5 : (op == 5) = false := by simp; omega
  have h6 : (op == 6) = false := by simp; omega
  have h7 : (op == 7) = false := by simp; omega
  have h8 : (op == 8) = false := by simp; omega
  have h9 : (op == 9) = false := by simp; omega
  have h10 : (op == 10) = false := by simp; omega
  have h11 : (op == 11) = false := by simp; omega
  clear h
  go_enter Try.func18, Try.ntmps18
  go_wp2
  go_ret
  exact ⟨rfl, by go_grown⟩

end Go.Proofs.Ytcankgnhmianbac
