/- The walks of toIns, of the methods ins and of placeOf, for every argument. -/
import Derived.Test.YtcplnkhdclcgfaaGreatDoorGc0
import Derived.Test.YtcplnkhdclcgfaaGreatDoorRows
import Derived.WalkKit
import Derived.WalkSpells
import Derived.WalkLawsBesides
import Derived.Handy
namespace Go.Proofs.YtcplnkhdclcgfaaGreatDoor
set_option maxHeartbeats 400000
open Go.RowKit
def inB (x lo hi : Int) : Bool := decide (lo ≤ x ∧ x ≤ hi)
def belB (x n : Int) : Bool := decide (0 ≤ x ∧ x < n)
theorem l1In_any (x lo hi : Int) (w : World) :
  Calls Tryz.prog 83 #[.int .i64 x, .int .i64 lo, .int .i64 hi] w fun e w' => e = .returned (.bool (inB x lo hi)) ∧ w' = w := by
 by_cases h1 : lo ≤ x
 ·by_cases h2 : x ≤ hi
  ·go_enter Tryz.func83, Tryz.ntmps83
   go_wp2
   go_ret
   exact ⟨by simp [inB, h1, h2], rfl⟩
  ·go_enter Tryz.func83, Tryz.ntmps83
   go_wp2
   go_ret
   exact ⟨by simp [inB, h1, h2], rfl⟩
 ·go_enter Tryz.func83, Tryz.ntmps83
  go_wp2
  go_ret
  exact ⟨by simp [inB]; omega, rfl⟩
theorem isBelow_any (x n : Int) (w : World) :
  Calls Tryz.prog 86 #[.int .i64 x, .int .i64 n] w fun e w' => e = .returned (.bool (belB x n)) ∧ w' = w := by
 by_cases h1 : 0 ≤ x
 ·by_cases h2 : x < n
  ·go_enter Tryz.func86, Tryz.ntmps86
   go_wp2
   go_ret
   exact ⟨by simp [belB, h1, h2], rfl⟩
  ·go_enter Tryz.func86, Tryz.ntmps86
   go_wp2
   go_ret
   exact ⟨by simp [belB, h1, h2], rfl⟩
 ·go_enter Tryz.func86, Tryz.ntmps86
  go_wp2
  go_ret
  exact ⟨by simp [belB]; omega, rfl⟩
theorem isReg_any (x : Int) (w : World) :
  Calls Tryz.prog 247 #[.int .i64 x] w fun e w' => e = .returned (.bool (belB x 4)) ∧ w' = w := by
 go_enter Tryz.func247, Tryz.ntmps247
 go_wp2_with (go_at_call 86; refine (isBelow_any _ _ _).mono ?_; rintro e w' ⟨rfl, rfl⟩)
 go_ret
 exact ⟨rfl, rfl⟩
theorem isNum_any (x : Int) (w : World) :
  Calls Tryz.prog 223 #[.int .i64 x] w fun e w' => e = .returned (.bool (inB x (-1000000000) 1000000000)) ∧ w' = w := by
 by_cases h1 : -1000000000 ≤ x
 ·by_cases h2 : x ≤ 1000000000
  ·go_enter Tryz.func223, Tryz.ntmps223
   go_wp2
   go_ret
   exact ⟨by simp [inB, h1, h2], rfl⟩
  ·go_enter Tryz.func223, Tryz.ntmps223
   go_wp2
   go_ret
   exact ⟨by simp [inB, h1, h2], rfl⟩
 ·go_enter Tryz.func223, Tryz.ntmps223
  go_wp2
  go_ret
  exact ⟨by simp [inB]; omega, rfl⟩
theorem l1Num_any (x : Int) (w : World) :
  Calls Tryz.prog 193 #[.int .i64 x] w fun e w' => e = .returned (.bool (inB x (-1000000000) 1000000000)) ∧ w' = w := by
 go_enter Tryz.func193, Tryz.ntmps193
 go_wp2_with (go_at_call 83; refine (l1In_any _ _ _ _).mono ?_; rintro e w' ⟨rfl, rfl⟩)
 go_ret
 exact ⟨rfl, rfl⟩
abbrev insV (op r a b n : Int) : Value := .agg #[.int .i64 op, .int .i64 r, .int .i64 a, .int .i64 b, .int .i64 n]
theorem toIns_any (op r a b n : Int) (w : World) :
  Calls Tryz.prog 204 #[insV op r a b n] w fun e w' => e = .returned (insV op r a b n) ∧ Below w.heap.size w w' := by
 go_enter Tryz.func204, Tryz.ntmps204
 go_wp2
 refine bodyPost_ret (v := insV op r a b n) (by simp [results, Tryz.results204, go_sem]) rfl ⟨rfl, ?_⟩
 go_grown
abbrev setV (r n : Int) : Value := .agg #[.int .i64 r, .int .i64 n]
theorem placeOf_set (r a b n : Int) (w : World) :
  Calls Tryz.prog 180 #[insV 1 r a b n] w fun e w' => e = .returned (.iface 256 (setV r n)) ∧ Below w.heap.size w w' := by
 go_enter Tryz.func180, Tryz.ntmps180
 go_wp2
 go_ret
 exact ⟨rfl, by go_grown⟩
theorem ins_set (r n : Int) (w : World) :
  Calls Tryz.prog 274 #[setV r n] w fun e w' => e = .returned (insV 1 r 0 0 n) ∧ Below w.heap.size w w' := by
 go_enter Tryz.func274, Tryz.ntmps274
 go_wp2
 refine bodyPost_ret (v := insV 1 r 0 0 n) (by simp [results, Tryz.results274, go_sem]) rfl ⟨rfl, ?_⟩
 go_grown
abbrev calcV (op r a b : Int) : Value := .agg #[.int .i64 op, .int .i64 r, .int .i64 a, .int .i64 b]
theorem placeOf_calc2 (r a b n : Int) (w : World) :
  Calls Tryz.prog 180 #[insV 2 r a b n] w fun e w' => e = .returned (.iface 258 (calcV 2 r a b)) ∧ Below w.heap.size w w' := by
 go_enter Tryz.func180, Tryz.ntmps180
 go_wp2
 go_ret
 exact ⟨rfl, by go_grown⟩
theorem placeOf_calc3 (r a b n : Int) (w : World) :
  Calls Tryz.prog 180 #[insV 3 r a b n] w fun e w' => e = .returned (.iface 258 (calcV 3 r a b)) ∧ Below w.heap.size w w' := by
 go_enter Tryz.func180, Tryz.ntmps180
 go_wp2
 go_ret
 exact ⟨rfl, by go_grown⟩
theorem placeOf_calc4 (r a b n : Int) (w : World) :
  Calls Tryz.prog 180 #[insV 4 r a b n] w fun e w' => e = .returned (.iface 258 (calcV 4 r a b)) ∧ Below w.heap.size w w' := by
 go_enter Tryz.func180, Tryz.ntmps180
 go_wp2
 go_ret
 exact ⟨rfl, by go_grown⟩
theorem placeOf_calc5 (r a b n : Int) (w : World) :
  Calls Tryz.prog 180 #[insV 5 r a b n] w fun e w' => e = .returned (.iface 258 (calcV 5 r a b)) ∧ Below w.heap.size w w' := by
 go_enter Tryz.func180, Tryz.ntmps180
 go_wp2
 go_ret
 exact ⟨rfl, by go_grown⟩
theorem ins_calc (op r a b : Int) (w : World) :
  Calls Tryz.prog 275 #[calcV op r a b] w fun e w' => e = .returned (insV op r a b 0) ∧ Below w.heap.size w w' := by
 go_enter Tryz.func275, Tryz.ntmps275
 go_wp2
 refine bodyPost_ret (v := insV op r a b 0) (by simp [results, Tryz.results275, go_sem]) rfl ⟨rfl, ?_⟩
 go_grown
abbrev sendV (n a : Int) : Value := .agg #[.int .i64 n, .int .i64 a]
theorem placeOf_send (r a b n : Int) (w : World) :
  Calls Tryz.prog 180 #[insV 6 r a b n] w fun e w' => e = .returned (.iface 250 (sendV n a)) ∧ Below w.heap.size w w' := by
 go_enter Tryz.func180, Tryz.ntmps180
 go_wp2
 go_ret
 exact ⟨rfl, by go_grown⟩
theorem ins_send (n a : Int) (w : World) :
  Calls Tryz.prog 271 #[sendV n a] w fun e w' => e = .returned (insV 6 0 a 0 n) ∧ Below w.heap.size w w' := by
 go_enter Tryz.func271, Tryz.ntmps271
 go_wp2
 refine bodyPost_ret (v := insV 6 0 a 0 n) (by simp [results, Tryz.results271, go_sem]) rfl ⟨rfl, ?_⟩
 go_grown
abbrev takeV (r n : Int) : Value := .agg #[.int .i64 r, .int .i64 n]
theorem placeOf_take (r a b n : Int) (w : World) :
  Calls Tryz.prog 180 #[insV 7 r a b n] w fun e w' => e = .returned (.iface 252 (takeV r n)) ∧ Below w.heap.size w w' := by
 go_enter Tryz.func180, Tryz.ntmps180
 go_wp2
 go_ret
 exact ⟨rfl, by go_grown⟩
theorem ins_take (r n : Int) (w : World) :
  Calls Tryz.prog 272 #[takeV r n] w fun e w' => e = .returned (insV 7 r 0 0 n) ∧ Below w.heap.size w w' := by
 go_enter Tryz.func272, Tryz.ntmps272
 go_wp2
 refine bodyPost_ret (v := insV 7 r 0 0 n) (by simp [results, Tryz.results272, go_sem]) rfl ⟨rfl, ?_⟩
 go_grown
abbrev printV (a : Int) : Value := .agg #[.int .i64 a]
theorem placeOf_print (r a b n : Int) (w : World) :
  Calls Tryz.prog 180 #[insV 8 r a b n] w fun e w' => e = .returned (.iface 254 (printV a)) ∧ Below w.heap.size w w' := by
 go_enter Tryz.func180, Tryz.ntmps180
 go_wp2
 go_ret
 exact ⟨rfl, by go_grown⟩
theorem ins_print (a : Int) (w : World) :
  Calls Tryz.prog 273 #[printV a] w fun e w' => e = .returned (insV 8 0 a 0 0) ∧ Below w.heap.size w w' := by
 go_enter Tryz.func273, Tryz.ntmps273
 go_wp2
 refine bodyPost_ret (v := insV 8 0 a 0 0) (by simp [results, Tryz.results273, go_sem]) rfl ⟨rfl, ?_⟩
 go_grown
abbrev jumpV (n : Int) : Value := .agg #[.int .i64 n]
theorem placeOf_jump (r a b n : Int) (w : World) :
  Calls Tryz.prog 180 #[insV 9 r a b n] w fun e w' => e = .returned (.iface 260 (jumpV n)) ∧ Below w.heap.size w w' := by
 go_enter Tryz.func180, Tryz.ntmps180
 go_wp2
 go_ret
 exact ⟨rfl, by go_grown⟩
theorem ins_jump (n : Int) (w : World) :
  Calls Tryz.prog 276 #[jumpV n] w fun e w' => e = .returned (insV 9 0 0 0 n) ∧ Below w.heap.size w w' := by
 go_enter Tryz.func276, Tryz.ntmps276
 go_wp2
 refine bodyPost_ret (v := insV 9 0 0 0 n) (by simp [results, Tryz.results276, go_sem]) rfl ⟨rfl, ?_⟩
 go_grown
abbrev zeroV (a n : Int) : Value := .agg #[.int .i64 a, .int .i64 n]
theorem placeOf_zero (r a b n : Int) (w : World) :
  Calls Tryz.prog 180 #[insV 10 r a b n] w fun e w' => e = .returned (.iface 262 (zeroV a n)) ∧ Below w.heap.size w w' := by
 go_enter Tryz.func180, Tryz.ntmps180
 go_wp2
 go_ret
 exact ⟨rfl, by go_grown⟩
theorem ins_zero (a n : Int) (w : World) :
  Calls Tryz.prog 277 #[zeroV a n] w fun e w' => e = .returned (insV 10 0 a 0 n) ∧ Below w.heap.size w w' := by
 go_enter Tryz.func277, Tryz.ntmps277
 go_wp2
 refine bodyPost_ret (v := insV 10 0 a 0 n) (by simp [results, Tryz.results277, go_sem]) rfl ⟨rfl, ?_⟩
 go_grown
abbrev endV : Value := .agg #[]
theorem placeOf_end (r a b n : Int) (w : World) :
  Calls Tryz.prog 180 #[insV 11 r a b n] w fun e w' => e = .returned (.iface 264 endV) ∧ Below w.heap.size w w' := by
 go_enter Tryz.func180, Tryz.ntmps180
 go_wp2
 go_ret
 exact ⟨rfl, by go_grown⟩
theorem ins_end (w : World) :
  Calls Tryz.prog 278 #[endV] w fun e w' => e = .returned (insV 11 0 0 0 0) ∧ Below w.heap.size w w' := by
 go_enter Tryz.func278, Tryz.ntmps278
 go_wp2
 refine bodyPost_ret (v := insV 11 0 0 0 0) (by simp [results, Tryz.results278, go_sem]) rfl ⟨rfl, ?_⟩
 go_grown
theorem placeOf_calc (op r a b n : Int) (w : World) (h1 : 2 ≤ op) (h2 : op ≤ 5) :
  Calls Tryz.prog 180 #[insV op r a b n] w fun e w' => e = .returned (.iface 258 (calcV op r a b)) ∧ Below w.heap.size w w' := by
 have h : op = 2 ∨ op = 3 ∨ op = 4 ∨ op = 5 := by omega
 rcases h with rfl | rfl | rfl | rfl
 ·exact placeOf_calc2 r a b n w
 ·exact placeOf_calc3 r a b n w
 ·exact placeOf_calc4 r a b n w
 ·exact placeOf_calc5 r a b n w
theorem placeOf_none (op r a b n : Int) (w : World) (h : op < 1 ∨ 11 < op) :
  Calls Tryz.prog 180 #[insV op r a b n] w fun e w' => e = .returned .nilIface ∧ Below w.heap.size w w' := by
 have h1 : (op == 1) = false := by simp; omega
 have h2 : (op == 2) = false := by simp; omega
 have h3 : (op == 3) = false := by simp; omega
 have h4 : (op == 4) = false := by simp; omega
 have h5 : (op == 5) = false := by simp; omega
 have h6 : (op == 6) = false := by simp; omega
 have h7 : (op == 7) = false := by simp; omega
 have h8 : (op == 8) = false := by simp; omega
 have h9 : (op == 9) = false := by simp; omega
 have h10 : (op == 10) = false := by simp; omega
 have h11 : (op == 11) = false := by simp; omega
 clear h
 go_enter Tryz.func180, Tryz.ntmps180
 go_wp2
 go_ret
 exact ⟨rfl, by go_grown⟩
end Go.Proofs.YtcplnkhdclcgfaaGreatDoor
