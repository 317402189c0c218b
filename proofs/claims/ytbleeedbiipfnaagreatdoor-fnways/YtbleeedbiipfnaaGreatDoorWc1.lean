/- The walks of toIns, of the methods ins and of placeOf, for every argument. -/
import Derived.Test.YtbleeedbiipfnaaGreatDoorWc0
import Derived.Test.YtbleeedbiipfnaaGreatDoorRows
import Derived.WalkKit
import Derived.WalkSpells
import Derived.WalkLawsBesides
import Derived.Handy
namespace Go.Proofs.YtbleeedbiipfnaaGreatDoor
set_option maxHeartbeats 400000
open Go.RowKit
def inB (x lo hi : Int) : Bool := decide (lo ≤ x ∧ x ≤ hi)
def belB (x n : Int) : Bool := decide (0 ≤ x ∧ x < n)
theorem l1In_any (x lo hi : Int) (w : World) :
  Calls Tryz.prog 54 #[.int .i64 x, .int .i64 lo, .int .i64 hi] w fun e w' => e = .returned (.bool (inB x lo hi)) ∧ w' = w := by
 by_cases h1 : lo ≤ x
 ·by_cases h2 : x ≤ hi
  ·go_enter Tryz.func54, Tryz.ntmps54
   go_wp2
   go_ret
   exact ⟨by simp [inB, h1, h2], rfl⟩
  ·go_enter Tryz.func54, Tryz.ntmps54
   go_wp2
   go_ret
   exact ⟨by simp [inB, h1, h2], rfl⟩
 ·go_enter Tryz.func54, Tryz.ntmps54
  go_wp2
  go_ret
  exact ⟨by simp [inB]; omega, rfl⟩
theorem isBelow_any (x n : Int) (w : World) :
  Calls Tryz.prog 52 #[.int .i64 x, .int .i64 n] w fun e w' => e = .returned (.bool (belB x n)) ∧ w' = w := by
 by_cases h1 : 0 ≤ x
 ·by_cases h2 : x < n
  ·go_enter Tryz.func52, Tryz.ntmps52
   go_wp2
   go_ret
   exact ⟨by simp [belB, h1, h2], rfl⟩
  ·go_enter Tryz.func52, Tryz.ntmps52
   go_wp2
   go_ret
   exact ⟨by simp [belB, h1, h2], rfl⟩
 ·go_enter Tryz.func52, Tryz.ntmps52
  go_wp2
  go_ret
  exact ⟨by simp [belB]; omega, rfl⟩
theorem isReg_any (x : Int) (w : World) :
  Calls Tryz.prog 230 #[.int .i64 x] w fun e w' => e = .returned (.bool (belB x 4)) ∧ w' = w := by
 go_enter Tryz.func230, Tryz.ntmps230
 go_wp2_with (go_at_call 52; refine (isBelow_any _ _ _).mono ?_; rintro e w' ⟨rfl, rfl⟩)
 go_ret
 exact ⟨rfl, rfl⟩
theorem isNum_any (x : Int) (w : World) :
  Calls Tryz.prog 212 #[.int .i64 x] w fun e w' => e = .returned (.bool (inB x (-1000000000) 1000000000)) ∧ w' = w := by
 by_cases h1 : -1000000000 ≤ x
 ·by_cases h2 : x ≤ 1000000000
  ·go_enter Tryz.func212, Tryz.ntmps212
   go_wp2
   go_ret
   exact ⟨by simp [inB, h1, h2], rfl⟩
  ·go_enter Tryz.func212, Tryz.ntmps212
   go_wp2
   go_ret
   exact ⟨by simp [inB, h1, h2], rfl⟩
 ·go_enter Tryz.func212, Tryz.ntmps212
  go_wp2
  go_ret
  exact ⟨by simp [inB]; omega, rfl⟩
theorem l1Num_any (x : Int) (w : World) :
  Calls Tryz.prog 123 #[.int .i64 x] w fun e w' => e = .returned (.bool (inB x (-1000000000) 1000000000)) ∧ w' = w := by
 go_enter Tryz.func123, Tryz.ntmps123
 go_wp2_with (go_at_call 54; refine (l1In_any _ _ _ _).mono ?_; rintro e w' ⟨rfl, rfl⟩)
 go_ret
 exact ⟨rfl, rfl⟩
abbrev insV (op r a b n : Int) : Value := .agg #[.int .i64 op, .int .i64 r, .int .i64 a, .int .i64 b, .int .i64 n]
theorem toIns_any (op r a b n : Int) (w : World) :
  Calls Tryz.prog 196 #[insV op r a b n] w fun e w' => e = .returned (insV op r a b n) ∧ Below w.heap.size w w' := by
 go_enter Tryz.func196, Tryz.ntmps196
 go_wp2
 refine bodyPost_ret (v := insV op r a b n) (by simp [results, Tryz.results196, go_sem]) rfl ⟨rfl, ?_⟩
 go_grown
abbrev setV (r n : Int) : Value := .agg #[.int .i64 r, .int .i64 n]
theorem placeOf_set (r a b n : Int) (w : World) :
  Calls Tryz.prog 180 #[insV 1 r a b n] w fun e w' => e = .returned (.iface 253 (setV r n)) ∧ Below w.heap.size w w' := by
 go_enter Tryz.func180, Tryz.ntmps180
 go_wp2
 go_ret
 exact ⟨rfl, by go_grown⟩
theorem ins_set (r n : Int) (w : World) :
  Calls Tryz.prog 263 #[setV r n] w fun e w' => e = .returned (insV 1 r 0 0 n) ∧ Below w.heap.size w w' := by
 go_enter Tryz.func263, Tryz.ntmps263
 go_wp2
 refine bodyPost_ret (v := insV 1 r 0 0 n) (by simp [results, Tryz.results263, go_sem]) rfl ⟨rfl, ?_⟩
 go_grown
abbrev calcV (op r a b : Int) : Value := .agg #[.int .i64 op, .int .i64 r, .int .i64 a, .int .i64 b]
theorem placeOf_calc2 (r a b n : Int) (w : World) :
  Calls Tryz.prog 180 #[insV 2 r a b n] w fun e w' => e = .returned (.iface 255 (calcV 2 r a b)) ∧ Below w.heap.size w w' := by
 go_enter Tryz.func180, Tryz.ntmps180
 go_wp2
 go_ret
 exact ⟨rfl, by go_grown⟩
theorem placeOf_calc3 (r a b n : Int) (w : World) :
  Calls Tryz.prog 180 #[insV 3 r a b n] w fun e w' => e = .returned (.iface 255 (calcV 3 r a b)) ∧ Below w.heap.size w w' := by
 go_enter Tryz.func180, Tryz.ntmps180
 go_wp2
 go_ret
 exact ⟨rfl, by go_grown⟩
theorem placeOf_calc4 (r a b n : Int) (w : World) :
  Calls Tryz.prog 180 #[insV 4 r a b n] w fun e w' => e = .returned (.iface 255 (calcV 4 r a b)) ∧ Below w.heap.size w w' := by
 go_enter Tryz.func180, Tryz.ntmps180
 go_wp2
 go_ret
 exact ⟨rfl, by go_grown⟩
theorem placeOf_calc5 (r a b n : Int) (w : World) :
  Calls Tryz.prog 180 #[insV 5 r a b n] w fun e w' => e = .returned (.iface 255 (calcV 5 r a b)) ∧ Below w.heap.size w w' := by
 go_enter Tryz.func180, Tryz.ntmps180
 go_wp2
 go_ret
 exact ⟨rfl, by go_grown⟩
theorem ins_calc (op r a b : Int) (w : World) :
  Calls Tryz.prog 264 #[calcV op r a b] w fun e w' => e = .returned (insV op r a b 0) ∧ Below w.heap.size w w' := by
 go_enter Tryz.func264, Tryz.ntmps264
 go_wp2
 refine bodyPost_ret (v := insV op r a b 0) (by simp [results, Tryz.results264, go_sem]) rfl ⟨rfl, ?_⟩
 go_grown
abbrev sendV (n a : Int) : Value := .agg #[.int .i64 n, .int .i64 a]
theorem placeOf_send (r a b n : Int) (w : World) :
  Calls Tryz.prog 180 #[insV 6 r a b n] w fun e w' => e = .returned (.iface 247 (sendV n a)) ∧ Below w.heap.size w w' := by
 go_enter Tryz.func180, Tryz.ntmps180
 go_wp2
 go_ret
 exact ⟨rfl, by go_grown⟩
theorem ins_send (n a : Int) (w : World) :
  Calls Tryz.prog 260 #[sendV n a] w fun e w' => e = .returned (insV 6 0 a 0 n) ∧ Below w.heap.size w w' := by
 go_enter Tryz.func260, Tryz.ntmps260
 go_wp2
 refine bodyPost_ret (v := insV 6 0 a 0 n) (by simp [results, Tryz.results260, go_sem]) rfl ⟨rfl, ?_⟩
 go_grown
abbrev takeV (r n : Int) : Value := .agg #[.int .i64 r, .int .i64 n]
theorem placeOf_take (r a b n : Int) (w : World) :
  Calls Tryz.prog 180 #[insV 7 r a b n] w fun e w' => e = .returned (.iface 249 (takeV r n)) ∧ Below w.heap.size w w' := by
 go_enter Tryz.func180, Tryz.ntmps180
 go_wp2
 go_ret
 exact ⟨rfl, by go_grown⟩
theorem ins_take (r n : Int) (w : World) :
  Calls Tryz.prog 261 #[takeV r n] w fun e w' => e = .returned (insV 7 r 0 0 n) ∧ Below w.heap.size w w' := by
 go_enter Tryz.func261, Tryz.ntmps261
 go_wp2
 refine bodyPost_ret (v := insV 7 r 0 0 n) (by simp [results, Tryz.results261, go_sem]) rfl ⟨rfl, ?_⟩
 go_grown
abbrev printV (a : Int) : Value := .agg #[.int .i64 a]
theorem placeOf_print (r a b n : Int) (w : World) :
  Calls Tryz.prog 180 #[insV 8 r a b n] w fun e w' => e = .returned (.iface 251 (printV a)) ∧ Below w.heap.size w w' := by
 go_enter Tryz.func180, Tryz.ntmps180
 go_wp2
 go_ret
 exact ⟨rfl, by go_grown⟩
theorem ins_print (a : Int) (w : World) :
  Calls Tryz.prog 262 #[printV a] w fun e w' => e = .returned (insV 8 0 a 0 0) ∧ Below w.heap.size w w' := by
 go_enter Tryz.func262, Tryz.ntmps262
 go_wp2
 refine bodyPost_ret (v := insV 8 0 a 0 0) (by simp [results, Tryz.results262, go_sem]) rfl ⟨rfl, ?_⟩
 go_grown
abbrev jumpV (n : Int) : Value := .agg #[.int .i64 n]
theorem placeOf_jump (r a b n : Int) (w : World) :
  Calls Tryz.prog 180 #[insV 9 r a b n] w fun e w' => e = .returned (.iface 257 (jumpV n)) ∧ Below w.heap.size w w' := by
 go_enter Tryz.func180, Tryz.ntmps180
 go_wp2
 go_ret
 exact ⟨rfl, by go_grown⟩
theorem ins_jump (n : Int) (w : World) :
  Calls Tryz.prog 265 #[jumpV n] w fun e w' => e = .returned (insV 9 0 0 0 n) ∧ Below w.heap.size w w' := by
 go_enter Tryz.func265, Tryz.ntmps265
 go_wp2
 refine bodyPost_ret (v := insV 9 0 0 0 n) (by simp [results, Tryz.results265, go_sem]) rfl ⟨rfl, ?_⟩
 go_grown
abbrev zeroV (a n : Int) : Value := .agg #[.int .i64 a, .int .i64 n]
theorem placeOf_zero (r a b n : Int) (w : World) :
  Calls Tryz.prog 180 #[insV 10 r a b n] w fun e w' => e = .returned (.iface 259 (zeroV a n)) ∧ Below w.heap.size w w' := by
 go_enter Tryz.func180, Tryz.ntmps180
 go_wp2
 go_ret
 exact ⟨rfl, by go_grown⟩
theorem ins_zero (a n : Int) (w : World) :
  Calls Tryz.prog 266 #[zeroV a n] w fun e w' => e = .returned (insV 10 0 a 0 n) ∧ Below w.heap.size w w' := by
 go_enter Tryz.func266, Tryz.ntmps266
 go_wp2
 refine bodyPost_ret (v := insV 10 0 a 0 n) (by simp [results, Tryz.results266, go_sem]) rfl ⟨rfl, ?_⟩
 go_grown
abbrev endV : Value := .agg #[]
theorem placeOf_end (r a b n : Int) (w : World) :
  Calls Tryz.prog 180 #[insV 11 r a b n] w fun e w' => e = .returned (.iface 261 endV) ∧ Below w.heap.size w w' := by
 go_enter Tryz.func180, Tryz.ntmps180
 go_wp2
 go_ret
 exact ⟨rfl, by go_grown⟩
theorem ins_end (w : World) :
  Calls Tryz.prog 267 #[endV] w fun e w' => e = .returned (insV 11 0 0 0 0) ∧ Below w.heap.size w w' := by
 go_enter Tryz.func267, Tryz.ntmps267
 go_wp2
 refine bodyPost_ret (v := insV 11 0 0 0 0) (by simp [results, Tryz.results267, go_sem]) rfl ⟨rfl, ?_⟩
 go_grown
theorem placeOf_calc (op r a b n : Int) (w : World) (h1 : 2 ≤ op) (h2 : op ≤ 5) :
  Calls Tryz.prog 180 #[insV op r a b n] w fun e w' => e = .returned (.iface 255 (calcV op r a b)) ∧ Below w.heap.size w w' := by
 have h : op = 2 ∨ op = 3 ∨ op = 4 ∨ op = 5 := by omega
 rcases h with rfl | rfl | rfl | rfl
 ·exact placeOf_calc2 r a b n w
 ·exact placeOf_calc3 r a b n w
 ·exact placeOf_calc4 r a b n w
 ·exact placeOf_calc5 r a b n w
theorem placeOf_none (op r a b n : Int) (w : World) (h : op < 1 ∨ 11 < op) :
  Calls Tryz.prog 180 #[insV op r a b n] w fun e w' => e = .returned .nilIface ∧ Below w.heap.size w w' := by
 have h1 : (op == 1) = false := by simp; omega
 have h2 : (op == 2) = false := by simp; omega
 have h3 : (op == 3) = false := by simp; omega
 have h4 : (op == 4) = false := by simp; omega
 have h5 : (op == 5) = false := by simp; omega
 have h6 : (op == 6) = false := by simp; omega
 have h7 : (op == 7) = false := by simp; omega
 have h8 : (op == 8) = false := by simp; omega
 have h9 : (op == 9) = false := by simp; omega
 have h10 : (op == 10) = false := by simp; omega
 have h11 : (op == 11) = false := by simp; omega
 clear h
 go_enter Tryz.func180, Tryz.ntmps180
 go_wp2
 go_ret
 exact ⟨rfl, by go_grown⟩
end Go.Proofs.YtbleeedbiipfnaaGreatDoor
