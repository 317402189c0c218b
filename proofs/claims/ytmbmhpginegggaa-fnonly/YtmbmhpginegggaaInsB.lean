/- The walks of toIns, of the methods ins and of placeOf, for every argument. -/
import Derived.Test.YtmbmhpginegggaaInsA
namespace Go.Proofs.Ytmbmhpginegggaa
open Go.RowKit

abbrev insV (op r a b n : Int) : Value := .agg #[.int .i64 op, .int .i64 r, .int .i64 a, .int .i64 b, .int .i64 n]

set_option maxHeartbeats 400000 in
theorem toIns_any (op r a b n : Int) (w : World) :
    Calls Try.prog 56 #[insV op r a b n] w fun e w' => e = .returned (insV op r a b n) ∧ Below w.heap.size w w' := by
  go_enter Try.func56, Try.ntmps56
  go_wp2
  refine bodyPost_ret (v := insV op r a b n) (by simp [results, Try.results56, go_sem]) rfl ⟨rfl, ?_⟩
  go_grown

abbrev setV (r n : Int) : Value := .agg #[.int .i64 r, .int .i64 n]

set_option maxHeartbeats 400000 in
theorem placeOf_set (r a b n : Int) (w : World) :
    Calls Try.prog 76 #[insV 1 r a b n] w fun e w' => e = .returned (.iface 116 (setV r n)) ∧ Below w.heap.size w w' := by
  go_enter Try.func76, Try.ntmps76
  go_wp2
  go_ret
  exact ⟨rfl, by go_grown⟩


set_option maxHeartbeats 400000 in
theorem ins_set (r n : Int) (w : World) :
    Calls Try.prog 119 #[setV r n] w fun e w' => e = .returned (insV 1 r 0 0 n) ∧ Below w.heap.size w w' := by
  go_enter Try.func119, Try.ntmps119
  go_wp2
  refine bodyPost_ret (v := insV 1 r 0 0 n) (by simp [results, Try.results119, go_sem]) rfl ⟨rfl, ?_⟩
  go_grown

abbrev calcV (op r a b : Int) : Value := .agg #[.int .i64 op, .int .i64 r, .int .i64 a, .int .i64 b]

set_option maxHeartbeats 400000 in
theorem placeOf_calc2 (r a b n : Int) (w : World) :
    Calls Try.prog 76 #[insV 2 r a b n] w fun e w' => e = .returned (.iface 118 (calcV 2 r a b)) ∧ Below w.heap.size w w' := by
  go_enter Try.func76, Try.ntmps76
  go_wp2
  go_ret
  exact ⟨rfl, by go_grown⟩


set_option maxHeartbeats 400000 in
theorem placeOf_calc3 (r a b n : Int) (w : World) :
    Calls Try.prog 76 #[insV 3 r a b n] w fun e w' => e = .returned (.iface 118 (calcV 3 r a b)) ∧ Below w.heap.size w w' := by
  go_enter Try.func76, Try.ntmps76
  go_wp2
  go_ret
  exact ⟨rfl, by go_grown⟩


set_option maxHeartbeats 400000 in
theorem placeOf_calc4 (r a b n : Int) (w : World) :
    Calls Try.prog 76 #[insV 4 r a b n] w fun e w' => e = .returned (.iface 118 (calcV 4 r a b)) ∧ Below w.heap.size w w' := by
  go_enter Try.func76, Try.ntmps76
  go_wp2
  go_ret
  exact ⟨rfl, by go_grown⟩


set_option maxHeartbeats 400000 in
theorem placeOf_calc5 (r a b n : Int) (w : World) :
    Calls Try.prog 76 #[insV 5 r a b n] w fun e w' => e = .returned (.iface 118 (calcV 5 r a b)) ∧ Below w.heap.size w w' := by
  go_enter Try.func76, Try.ntmps76
  go_wp2
  go_ret
  exact ⟨rfl, by go_grown⟩


set_option maxHeartbeats 400000 in
theorem ins_calc (op r a b : Int) (w : World) :
    Calls Try.prog 120 #[calcV op r a b] w fun e w' => e = .returned (insV op r a b 0) ∧ Below w.heap.size w w' := by
  go_enter Try.func120, Try.ntmps120
  go_wp2
  refine bodyPost_ret (v := insV op r a b 0) (by simp [results, Try.results120, go_sem]) rfl ⟨rfl, ?_⟩
  go_grown

abbrev sendV (n a : Int) : Value := .agg #[.int .i64 n, .int .i64 a]

set_option maxHeartbeats 400000 in
theorem placeOf_send (r a b n : Int) (w : World) :
    Calls Try.prog 76 #[insV 6 r a b n] w fun e w' => e = .returned (.iface 110 (sendV n a)) ∧ Below w.heap.size w w' := by
  go_enter Try.func76, Try.ntmps76
  go_wp2
  go_ret
  exact ⟨rfl, by go_grown⟩


set_option maxHeartbeats 400000 in
theorem ins_send (n a : Int) (w : World) :
    Calls Try.prog 116 #[sendV n a] w fun e w' => e = .returned (insV 6 0 a 0 n) ∧ Below w.heap.size w w' := by
  go_enter Try.func116, Try.ntmps116
  go_wp2
  refine bodyPost_ret (v := insV 6 0 a 0 n) (by simp [results, Try.results116, go_sem]) rfl ⟨rfl, ?_⟩
  go_grown

abbrev takeV (r n : Int) : Value := .agg #[.int .i64 r, .int .i64 n]

set_option maxHeartbeats 400000 in
theorem placeOf_take (r a b n : Int) (w : World) :
    Calls Try.prog 76 #[insV 7 r a b n] w fun e w' => e = .returned (.iface 112 (takeV r n)) ∧ Below w.heap.size w w' := by
  go_enter Try.func76, Try.ntmps76
  go_wp2
  go_ret
  exact ⟨rfl, by go_grown⟩


set_option maxHeartbeats 400000 in
theorem ins_take (r n : Int) (w : World) :
    Calls Try.prog 117 #[takeV r n] w fun e w' => e = .returned (insV 7 r 0 0 n) ∧ Below w.heap.size w w' := by
  go_enter Try.func117, Try.ntmps117
  go_wp2
  refine bodyPost_ret (v := insV 7 r 0 0 n) (by simp [results, Try.results117, go_sem]) rfl ⟨rfl, ?_⟩
  go_grown

abbrev printV (a : Int) : Value := .agg #[.int .i64 a]

set_option maxHeartbeats 400000 in
theorem placeOf_print (r a b n : Int) (w : World) :
    Calls Try.prog 76 #[insV 8 r a b n] w fun e w' => e = .returned (.iface 114 (printV a)) ∧ Below w.heap.size w w' := by
  go_enter Try.func76, Try.ntmps76
  go_wp2
  go_ret
  exact ⟨rfl, by go_grown⟩


set_option maxHeartbeats 400000 in
theorem ins_print (a : Int) (w : World) :
    Calls Try.prog 118 #[printV a] w fun e w' => e = .returned (insV 8 0 a 0 0) ∧ Below w.heap.size w w' := by
  go_enter Try.func118, Try.ntmps118
  go_wp2
  refine bodyPost_ret (v := insV 8 0 a 0 0) (by simp [results, Try.results118, go_sem]) rfl ⟨rfl, ?_⟩
  go_grown

abbrev jumpV (n : Int) : Value := .agg #[.int .i64 n]

set_option maxHeartbeats 400000 in
theorem placeOf_jump (r a b n : Int) (w : World) :
    Calls Try.prog 76 #[insV 9 r a b n] w fun e w' => e = .returned (.iface 120 (jumpV n)) ∧ Below w.heap.size w w' := by
  go_enter Try.func76, Try.ntmps76
  go_wp2
  go_ret
  exact ⟨rfl, by go_grown⟩


set_option maxHeartbeats 400000 in
theorem ins_jump (n : Int) (w : World) :
    Calls Try.prog 121 #[jumpV n] w fun e w' => e = .returned (insV 9 0 0 0 n) ∧ Below w.heap.size w w' := by
  go_enter Try.func121, Try.ntmps121
  go_wp2
  refine bodyPost_ret (v := insV 9 0 0 0 n) (by simp [results, Try.results121, go_sem]) rfl ⟨rfl, ?_⟩
  go_grown

abbrev zeroV (a n : Int) : Value := .agg #[.int .i64 a, .int .i64 n]

set_option maxHeartbeats 400000 in
theorem placeOf_zero (r a b n : Int) (w : World) :
    Calls Try.prog 76 #[insV 10 r a b n] w fun e w' => e = .returned (.iface 122 (zeroV a n)) ∧ Below w.heap.size w w' := by
  go_enter Try.func76, Try.ntmps76
  go_wp2
  go_ret
  exact ⟨rfl, by go_grown⟩


set_option maxHeartbeats 400000 in
theorem ins_zero (a n : Int) (w : World) :
    Calls Try.prog 122 #[zeroV a n] w fun e w' => e = .returned (insV 10 0 a 0 n) ∧ Below w.heap.size w w' := by
  go_enter Try.func122, Try.ntmps122
  go_wp2
  refine bodyPost_ret (v := insV 10 0 a 0 n) (by simp [results, Try.results122, go_sem]) rfl ⟨rfl, ?_⟩
  go_grown

abbrev endV : Value := .agg #[]

set_option maxHeartbeats 400000 in
theorem placeOf_end (r a b n : Int) (w : World) :
    Calls Try.prog 76 #[insV 11 r a b n] w fun e w' => e = .returned (.iface 124 endV) ∧ Below w.heap.size w w' := by
  go_enter Try.func76, Try.ntmps76
  go_wp2
  go_ret
  exact ⟨rfl, by go_grown⟩


set_option maxHeartbeats 400000 in
theorem ins_end (w : World) :
    Calls Try.prog 123 #[endV] w fun e w' => e = .returned (insV 11 0 0 0 0) ∧ Below w.heap.size w w' := by
  go_enter Try.func123, Try.ntmps123
  go_wp2
  refine bodyPost_ret (v := insV 11 0 0 0 0) (by simp [results, Try.results123, go_sem]) rfl ⟨rfl, ?_⟩
  go_grown


theorem placeOf_calc (op r a b n : Int) (w : World) (h1 : 2 ≤ op) (h2 : op ≤ 5) :
    Calls Try.prog 76 #[insV op r a b n] w fun e w' => e = .returned (.iface 118 (calcV op r a b)) ∧ Below w.heap.size w w' := by
  have h : op = 2 ∨ op = 3 ∨ op = 4 ∨ op = 5 := by omega
  rcases h with rfl | rfl | rfl | rfl
  · exact placeOf_calc2 r a b n w
  · exact placeOf_calc3 r a b n w
  · exact placeOf_calc4 r a b n w
  · exact placeOf_calc5 r a b n w


/-- An op that is none has no place. -/
theorem placeOf_none (op r a b n : Int) (w : World) (h : op < 1 ∨ 11 < op) :
    Calls Try.prog 76 #[insV op r a b n] w fun e w' => e = .returned .nilIface ∧ Below w.heap.size w w' := by
  have h1 : (op == 1) = false := by simp; omega
  have h2 : (op == 2) = false := by simp; omega
  have h3 : (op == 3) = false := by simp; omega
  have h4 : (op == 4) = false := by simp; omega
  have h5 : (op == 5) = false := by simp; omega
  have h6 : (op == 6) = false := by simp; omega
  have h7 : (op == 7) = false := by simp; omega
  have h8 : (op == 8) = false := by simp; omega
  have h9 : (op == 9) = false := by simp; omega
  have h10 : (op == 10) = false := by simp; omega
  have h11 : (op == 11) = false := by simp; omega
  clear h
  go_enter Try.func76, Try.ntmps76
  go_wp2
  go_ret
  exact ⟨rfl, by go_grown⟩

end Go.Proofs.Ytmbmhpginegggaa
