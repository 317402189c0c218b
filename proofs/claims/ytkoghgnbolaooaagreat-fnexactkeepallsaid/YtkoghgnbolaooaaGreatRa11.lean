/- The walks of eventOf, a theorem a kind of place, and of placeOf and eventOf for every place that is right. -/
import Derived.Test.YtkoghgnbolaooaaGreatRa7
import Derived.Test.YtkoghgnbolaooaaGreatRa9
namespace Go.Proofs.YtkoghgnbolaooaaGreat
open Go.RowKit
attribute [local go_sem] as_set_send as_set_take as_set_print as_calc_send as_calc_take as_calc_print as_send_send as_take_send as_take_take as_print_send as_print_take as_print_print as_jump_send as_jump_take as_jump_print as_zero_send as_zero_take as_zero_print as_end_send as_end_take as_end_print

set_option maxRecDepth 100000 in
set_option maxHeartbeats 1000000 in
theorem eventOf_send (n a r0 r1 r2 r3 : Int) (w : World) (h0 : 0 ≤ a) (h3 : a ≤ 3) :
    Calls Tryz.prog 85 #[.iface 142 (sendV n a), regV r0 r1 r2 r3] w fun e w' => e = .returned (evV 2 n (zi [r0, r1, r2, r3] a.toNat)) ∧ Below w.heap.size w w' := by
  have ha : a = 0 ∨ a = 1 ∨ a = 2 ∨ a = 3 := by omega
  clear h0 h3
  rcases ha with rfl | rfl | rfl | rfl
  · go_enter Tryz.func85, Tryz.ntmps85
    go_wp2_with fail
    go_region
    all_goals
      go_wp2
      refine bodyPost_ret (v := evV 2 n r0) (by simp [results, Tryz.results85, go_sem]) rfl ⟨rfl, ?_⟩
      go_grown
  · go_enter Tryz.func85, Tryz.ntmps85
    go_wp2_with fail
    go_region
    all_goals
      go_wp2
      refine bodyPost_ret (v := evV 2 n r1) (by simp [results, Tryz.results85, go_sem]) rfl ⟨rfl, ?_⟩
      go_grown
  · go_enter Tryz.func85, Tryz.ntmps85
    go_wp2_with fail
    go_region
    all_goals
      go_wp2
      refine bodyPost_ret (v := evV 2 n r2) (by simp [results, Tryz.results85, go_sem]) rfl ⟨rfl, ?_⟩
      go_grown
  · go_enter Tryz.func85, Tryz.ntmps85
    go_wp2_with fail
    go_region
    all_goals
      go_wp2
      refine bodyPost_ret (v := evV 2 n r3) (by simp [results, Tryz.results85, go_sem]) rfl ⟨rfl, ?_⟩
      go_grown

set_option maxRecDepth 100000 in
set_option maxHeartbeats 1000000 in
theorem eventOf_take (r n r0 r1 r2 r3 : Int) (w : World) :
    Calls Tryz.prog 85 #[.iface 144 (takeV r n), regV r0 r1 r2 r3] w fun e w' => e = .returned (evV 3 n 0) ∧ Below w.heap.size w w' := by
  go_enter Tryz.func85, Tryz.ntmps85
  go_wp2
  refine bodyPost_ret (v := evV 3 n 0) (by simp [results, Tryz.results85, go_sem]) rfl ⟨rfl, ?_⟩
  go_grown

set_option maxRecDepth 100000 in
set_option maxHeartbeats 1000000 in
theorem eventOf_print (a r0 r1 r2 r3 : Int) (w : World) (h0 : 0 ≤ a) (h3 : a ≤ 3) :
    Calls Tryz.prog 85 #[.iface 146 (printV a), regV r0 r1 r2 r3] w fun e w' => e = .returned (evV 4 0 (zi [r0, r1, r2, r3] a.toNat)) ∧ Below w.heap.size w w' := by
  have ha : a = 0 ∨ a = 1 ∨ a = 2 ∨ a = 3 := by omega
  clear h0 h3
  rcases ha with rfl | rfl | rfl | rfl
  · go_enter Tryz.func85, Tryz.ntmps85
    go_wp2
    refine bodyPost_ret (v := evV 4 0 r0) (by simp [results, Tryz.results85, go_sem]) rfl ⟨rfl, ?_⟩
    go_grown
  · go_enter Tryz.func85, Tryz.ntmps85
    go_wp2
    refine bodyPost_ret (v := evV 4 0 r1) (by simp [results, Tryz.results85, go_sem]) rfl ⟨rfl, ?_⟩
    go_grown
  · go_enter Tryz.func85, Tryz.ntmps85
    go_wp2
    refine bodyPost_ret (v := evV 4 0 r2) (by simp [results, Tryz.results85, go_sem]) rfl ⟨rfl, ?_⟩
    go_grown
  · go_enter Tryz.func85, Tryz.ntmps85
    go_wp2
    refine bodyPost_ret (v := evV 4 0 r3) (by simp [results, Tryz.results85, go_sem]) rfl ⟨rfl, ?_⟩
    go_grown

set_option maxRecDepth 100000 in
set_option maxHeartbeats 1000000 in
theorem eventOf_set (r n r0 r1 r2 r3 : Int) (w : World) :
    Calls Tryz.prog 85 #[.iface 148 (setV r n), regV r0 r1 r2 r3] w fun e w' => e = .returned (evV 1 0 0) ∧ Below w.heap.size w w' := by
  go_enter Tryz.func85, Tryz.ntmps85
  go_wp2
  refine bodyPost_ret (v := evV 1 0 0) (by simp [results, Tryz.results85, go_sem]) rfl ⟨rfl, ?_⟩
  go_grown

set_option maxRecDepth 100000 in
set_option maxHeartbeats 1000000 in
theorem eventOf_calc (op r a b r0 r1 r2 r3 : Int) (w : World) :
    Calls Tryz.prog 85 #[.iface 150 (calcV op r a b), regV r0 r1 r2 r3] w fun e w' => e = .returned (evV 1 0 0) ∧ Below w.heap.size w w' := by
  go_enter Tryz.func85, Tryz.ntmps85
  go_wp2
  refine bodyPost_ret (v := evV 1 0 0) (by simp [results, Tryz.results85, go_sem]) rfl ⟨rfl, ?_⟩
  go_grown

set_option maxRecDepth 100000 in
set_option maxHeartbeats 1000000 in
theorem eventOf_jump (n r0 r1 r2 r3 : Int) (w : World) :
    Calls Tryz.prog 85 #[.iface 152 (jumpV n), regV r0 r1 r2 r3] w fun e w' => e = .returned (evV 1 0 0) ∧ Below w.heap.size w w' := by
  go_enter Tryz.func85, Tryz.ntmps85
  go_wp2
  refine bodyPost_ret (v := evV 1 0 0) (by simp [results, Tryz.results85, go_sem]) rfl ⟨rfl, ?_⟩
  go_grown

set_option maxRecDepth 100000 in
set_option maxHeartbeats 1000000 in
theorem eventOf_zero (a n r0 r1 r2 r3 : Int) (w : World) :
    Calls Tryz.prog 85 #[.iface 154 (zeroV a n), regV r0 r1 r2 r3] w fun e w' => e = .returned (evV 1 0 0) ∧ Below w.heap.size w w' := by
  go_enter Tryz.func85, Tryz.ntmps85
  go_wp2
  refine bodyPost_ret (v := evV 1 0 0) (by simp [results, Tryz.results85, go_sem]) rfl ⟨rfl, ?_⟩
  go_grown

set_option maxRecDepth 100000 in
set_option maxHeartbeats 1000000 in
theorem eventOf_end (r0 r1 r2 r3 : Int) (w : World) :
    Calls Tryz.prog 85 #[.iface 156 endV, regV r0 r1 r2 r3] w fun e w' => e = .returned (evV 1 0 0) ∧ Below w.heap.size w w' := by
  go_enter Tryz.func85, Tryz.ntmps85
  go_wp2
  refine bodyPost_ret (v := evV 1 0 0) (by simp [results, Tryz.results85, go_sem]) rfl ⟨rfl, ?_⟩
  go_grown

/-- What comes next at a place, with these registers. -/
def evK (o : Int) : Int := if o = 6 then 2 else if o = 7 then 3 else if o = 8 then 4 else 1
def evP (o n : Int) : Int := if o = 6 then n else if o = 7 then n else 0
def evW (o a : Int) (rs : List Int) : Int := if o = 6 then zi rs a.toNat else if o = 8 then zi rs a.toNat else 0
def placeV (o r a b n : Int) : Value :=
  if o = 1 then .iface 148 (setV r n) else if o = 6 then .iface 142 (sendV n a) else if o = 7 then .iface 144 (takeV r n)
  else if o = 8 then .iface 146 (printV a) else if o = 9 then .iface 152 (jumpV n) else if o = 10 then .iface 154 (zeroV a n)
  else if o = 11 then .iface 156 endV else .iface 150 (calcV o r a b)

theorem placeOf_right (o r a b n : Int) (w : World) (h1 : 1 ≤ o) (h2 : o ≤ 11) :
    Calls Tryz.prog 86 #[insV o r a b n] w fun e w' => e = .returned (placeV o r a b n) ∧ Below w.heap.size w w' := by
  rcases opCases o with g | rfl | rfl | rfl | rfl | rfl | rfl | rfl | rfl | rfl | rfl | rfl
  · omega
  · exact placeOf_set r a b n w
  · exact placeOf_calc2 r a b n w
  · exact placeOf_calc3 r a b n w
  · exact placeOf_calc4 r a b n w
  · exact placeOf_calc5 r a b n w
  · exact placeOf_send r a b n w
  · exact placeOf_take r a b n w
  · exact placeOf_print r a b n w
  · exact placeOf_jump r a b n w
  · exact placeOf_zero r a b n w
  · exact placeOf_end r a b n w

theorem eventOf_right (o r a b n r0 r1 r2 r3 : Int) (w : World) (h1 : 1 ≤ o) (h2 : o ≤ 11) (h3 : 0 ≤ a) (h4 : a ≤ 3) :
    Calls Tryz.prog 85 #[placeV o r a b n, regV r0 r1 r2 r3] w fun e w' => e = .returned (evV (evK o) (evP o n) (evW o a [r0, r1, r2, r3])) ∧ Below w.heap.size w w' := by
  rcases opCases o with g | rfl | rfl | rfl | rfl | rfl | rfl | rfl | rfl | rfl | rfl | rfl
  · omega
  · exact eventOf_set r n r0 r1 r2 r3 w
  · exact eventOf_calc 2 r a b r0 r1 r2 r3 w
  · exact eventOf_calc 3 r a b r0 r1 r2 r3 w
  · exact eventOf_calc 4 r a b r0 r1 r2 r3 w
  · exact eventOf_calc 5 r a b r0 r1 r2 r3 w
  · exact eventOf_send n a r0 r1 r2 r3 w h3 h4
  · exact eventOf_take r n r0 r1 r2 r3 w
  · exact eventOf_print a r0 r1 r2 r3 w h3 h4
  · exact eventOf_jump n r0 r1 r2 r3 w
  · exact eventOf_zero a n r0 r1 r2 r3 w
  · exact eventOf_end r0 r1 r2 r3 w

end Go.Proofs.YtkoghgnbolaooaaGreat
