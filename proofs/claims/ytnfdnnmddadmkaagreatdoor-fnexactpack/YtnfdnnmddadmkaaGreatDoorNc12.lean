/- The walks of the draw's cursor: l1Byte, l1Below, l1Once: a number in its range, and nothing else is written than the cursor. -/
import Derived.Test.YtnfdnnmddadmkaaGreatDoorNc0
import Derived.Test.YtnfdnnmddadmkaaGreatDoorNc7
import Derived.Test.YtnfdnnmddadmkaaGreatDoorNc11
import Derived.Test.YtnfdnnmddadmkaaGreatDoorRows
import Derived.WalkKit
import Derived.WalkSpells
import Derived.WalkLawsBesides
import Derived.Handy
import Derived.Deep.QuietTactic
import Derived.BigQuiet
import Derived.Maps.AppendAt
namespace Go.Proofs.YtnfdnnmddadmkaaGreatDoor
set_option maxRecDepth 100000
set_option maxHeartbeats 1000000
open Go.RowKit
attribute [local go_sem] as_set_send as_set_take as_set_print as_calc_send as_calc_take as_calc_print as_send_send as_take_send as_take_take as_print_send as_print_take as_print_print as_jump_send as_jump_take as_jump_print as_zero_send as_zero_take as_zero_print as_end_send as_end_take as_end_print
theorem eventOf_send (n a r0 r1 r2 r3 : Int) (w : World) (h0 : 0 ≤ a) (h3 : a ≤ 3) :
  Calls Tryz.prog 204 #[.iface 291 (sendV n a), regV r0 r1 r2 r3] w fun e w' => e = .returned (evV 2 n (zi [r0, r1, r2, r3] a.toNat)) ∧ Below w.heap.size w w' := by
 have ha : a = 0 ∨ a = 1 ∨ a = 2 ∨ a = 3 := by omega
 clear h0 h3
 rcases ha with rfl | rfl | rfl | rfl
 ·go_enter Tryz.func204, Tryz.ntmps204
  go_wp2_with fail
  go_region
  all_goals
   go_wp2
   refine bodyPost_ret (v := evV 2 n r0) (by simp [results, Tryz.results204, go_sem]) rfl ⟨rfl, ?_⟩
   go_grown
 ·go_enter Tryz.func204, Tryz.ntmps204
  go_wp2_with fail
  go_region
  all_goals
   go_wp2
   refine bodyPost_ret (v := evV 2 n r1) (by simp [results, Tryz.results204, go_sem]) rfl ⟨rfl, ?_⟩
   go_grown
 ·go_enter Tryz.func204, Tryz.ntmps204
  go_wp2_with fail
  go_region
  all_goals
   go_wp2
   refine bodyPost_ret (v := evV 2 n r2) (by simp [results, Tryz.results204, go_sem]) rfl ⟨rfl, ?_⟩
   go_grown
 ·go_enter Tryz.func204, Tryz.ntmps204
  go_wp2_with fail
  go_region
  all_goals
   go_wp2
   refine bodyPost_ret (v := evV 2 n r3) (by simp [results, Tryz.results204, go_sem]) rfl ⟨rfl, ?_⟩
   go_grown
theorem eventOf_take (r n r0 r1 r2 r3 : Int) (w : World) :
  Calls Tryz.prog 204 #[.iface 293 (takeV r n), regV r0 r1 r2 r3] w fun e w' => e = .returned (evV 3 n 0) ∧ Below w.heap.size w w' := by
 go_enter Tryz.func204, Tryz.ntmps204
 go_wp2
 refine bodyPost_ret (v := evV 3 n 0) (by simp [results, Tryz.results204, go_sem]) rfl ⟨rfl, ?_⟩
 go_grown
theorem eventOf_print (a r0 r1 r2 r3 : Int) (w : World) (h0 : 0 ≤ a) (h3 : a ≤ 3) :
  Calls Tryz.prog 204 #[.iface 295 (printV a), regV r0 r1 r2 r3] w fun e w' => e = .returned (evV 4 0 (zi [r0, r1, r2, r3] a.toNat)) ∧ Below w.heap.size w w' := by
 have ha : a = 0 ∨ a = 1 ∨ a = 2 ∨ a = 3 := by omega
 clear h0 h3
 rcases ha with rfl | rfl | rfl | rfl
 ·go_enter Tryz.func204, Tryz.ntmps204
  go_wp2
  refine bodyPost_ret (v := evV 4 0 r0) (by simp [results, Tryz.results204, go_sem]) rfl ⟨rfl, ?_⟩
  go_grown
 ·go_enter Tryz.func204, Tryz.ntmps204
  go_wp2
  refine bodyPost_ret (v := evV 4 0 r1) (by simp [results, Tryz.results204, go_sem]) rfl ⟨rfl, ?_⟩
  go_grown
 ·go_enter Tryz.func204, Tryz.ntmps204
  go_wp2
  refine bodyPost_ret (v := evV 4 0 r2) (by simp [results, Tryz.results204, go_sem]) rfl ⟨rfl, ?_⟩
  go_grown
 ·go_enter Tryz.func204, Tryz.ntmps204
  go_wp2
  refine bodyPost_ret (v := evV 4 0 r3) (by simp [results, Tryz.results204, go_sem]) rfl ⟨rfl, ?_⟩
  go_grown
theorem eventOf_set (r n r0 r1 r2 r3 : Int) (w : World) :
  Calls Tryz.prog 204 #[.iface 297 (setV r n), regV r0 r1 r2 r3] w fun e w' => e = .returned (evV 1 0 0) ∧ Below w.heap.size w w' := by
 go_enter Tryz.func204, Tryz.ntmps204
 go_wp2
 refine bodyPost_ret (v := evV 1 0 0) (by simp [results, Tryz.results204, go_sem]) rfl ⟨rfl, ?_⟩
 go_grown
theorem eventOf_calc (op r a b r0 r1 r2 r3 : Int) (w : World) :
  Calls Tryz.prog 204 #[.iface 299 (calcV op r a b), regV r0 r1 r2 r3] w fun e w' => e = .returned (evV 1 0 0) ∧ Below w.heap.size w w' := by
 go_enter Tryz.func204, Tryz.ntmps204
 go_wp2
 refine bodyPost_ret (v := evV 1 0 0) (by simp [results, Tryz.results204, go_sem]) rfl ⟨rfl, ?_⟩
 go_grown
theorem eventOf_jump (n r0 r1 r2 r3 : Int) (w : World) :
  Calls Tryz.prog 204 #[.iface 301 (jumpV n), regV r0 r1 r2 r3] w fun e w' => e = .returned (evV 1 0 0) ∧ Below w.heap.size w w' := by
 go_enter Tryz.func204, Tryz.ntmps204
 go_wp2
 refine bodyPost_ret (v := evV 1 0 0) (by simp [results, Tryz.results204, go_sem]) rfl ⟨rfl, ?_⟩
 go_grown
theorem eventOf_zero (a n r0 r1 r2 r3 : Int) (w : World) :
  Calls Tryz.prog 204 #[.iface 303 (zeroV a n), regV r0 r1 r2 r3] w fun e w' => e = .returned (evV 1 0 0) ∧ Below w.heap.size w w' := by
 go_enter Tryz.func204, Tryz.ntmps204
 go_wp2
 refine bodyPost_ret (v := evV 1 0 0) (by simp [results, Tryz.results204, go_sem]) rfl ⟨rfl, ?_⟩
 go_grown
theorem eventOf_end (r0 r1 r2 r3 : Int) (w : World) :
  Calls Tryz.prog 204 #[.iface 304 endV, regV r0 r1 r2 r3] w fun e w' => e = .returned (evV 1 0 0) ∧ Below w.heap.size w w' := by
 go_enter Tryz.func204, Tryz.ntmps204
 go_wp2
 refine bodyPost_ret (v := evV 1 0 0) (by simp [results, Tryz.results204, go_sem]) rfl ⟨rfl, ?_⟩
 go_grown
def evK (o : Int) : Int := if o = 6 then 2 else if o = 7 then 3 else if o = 8 then 4 else 1
def evP (o n : Int) : Int := if o = 6 then n else if o = 7 then n else 0
def evW (o a : Int) (rs : List Int) : Int := if o = 6 then zi rs a.toNat else if o = 8 then zi rs a.toNat else 0
def placeV (o r a b n : Int) : Value :=
 if o = 1 then .iface 297 (setV r n) else if o = 6 then .iface 291 (sendV n a) else if o = 7 then .iface 293 (takeV r n)
 else if o = 8 then .iface 295 (printV a) else if o = 9 then .iface 301 (jumpV n) else if o = 10 then .iface 303 (zeroV a n)
 else if o = 11 then .iface 304 endV else .iface 299 (calcV o r a b)
theorem placeOf_right (o r a b n : Int) (w : World) (h1 : 1 ≤ o) (h2 : o ≤ 11) :
  Calls Tryz.prog 205 #[insV o r a b n] w fun e w' => e = .returned (placeV o r a b n) ∧ Below w.heap.size w w' := by
 rcases opCases o with g | rfl | rfl | rfl | rfl | rfl | rfl | rfl | rfl | rfl | rfl | rfl
 ·omega
 ·exact placeOf_set r a b n w
 ·exact placeOf_calc2 r a b n w
 ·exact placeOf_calc3 r a b n w
 ·exact placeOf_calc4 r a b n w
 ·exact placeOf_calc5 r a b n w
 ·exact placeOf_send r a b n w
 ·exact placeOf_take r a b n w
 ·exact placeOf_print r a b n w
 ·exact placeOf_jump r a b n w
 ·exact placeOf_zero r a b n w
 ·exact placeOf_end r a b n w
theorem eventOf_right (o r a b n r0 r1 r2 r3 : Int) (w : World) (h1 : 1 ≤ o) (h2 : o ≤ 11) (h3 : 0 ≤ a) (h4 : a ≤ 3) :
  Calls Tryz.prog 204 #[placeV o r a b n, regV r0 r1 r2 r3] w fun e w' => e = .returned (evV (evK o) (evP o n) (evW o a [r0, r1, r2, r3])) ∧ Below w.heap.size w w' := by
 rcases opCases o with g | rfl | rfl | rfl | rfl | rfl | rfl | rfl | rfl | rfl | rfl | rfl
 ·omega
 ·exact eventOf_set r n r0 r1 r2 r3 w
 ·exact eventOf_calc 2 r a b r0 r1 r2 r3 w
 ·exact eventOf_calc 3 r a b r0 r1 r2 r3 w
 ·exact eventOf_calc 4 r a b r0 r1 r2 r3 w
 ·exact eventOf_calc 5 r a b r0 r1 r2 r3 w
 ·exact eventOf_send n a r0 r1 r2 r3 w h3 h4
 ·exact eventOf_take r n r0 r1 r2 r3 w
 ·exact eventOf_print a r0 r1 r2 r3 w h3 h4
 ·exact eventOf_jump n r0 r1 r2 r3 w
 ·exact eventOf_zero a n r0 r1 r2 r3 w
 ·exact eventOf_end r0 r1 r2 r3 w
theorem grown_drewN {w w' : World} {row : Option Nat} (h : w.grownBy w' row) (n : Nat) : w.grownBy (w'.drewN n) row := ⟨h.os, h.tape, h.output, h.size, h.block⟩
theorem grown_setCell {w w' : World} {row : Option Nat} (h : w.grownBy w' row) {p : Addr} (hp : row = some p.block ∨ w.heap.size ≤ p.block) (v : Value) : w.grownBy (w'.setCell p v) row :=
 ⟨h.os, h.tape, h.output, by simpa using h.size, fun k hk hne => by
  rw [Below.heap_setCell w' p v k (fun e => by
   subst e
   rcases hp with hp | hp
   ·exact hne hp.symm
   ·omega)]
  exact h.block k hk hne⟩
end Go.Proofs.YtnfdnnmddadmkaaGreatDoor
