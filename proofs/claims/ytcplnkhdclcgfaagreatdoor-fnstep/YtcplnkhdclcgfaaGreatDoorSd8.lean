/- The walks of eventOf, a theorem a kind of place, and of placeOf and eventOf for every place that is right. -/
import Derived.Test.YtcplnkhdclcgfaaGreatDoorSd0
import Derived.Test.YtcplnkhdclcgfaaGreatDoorSd3
import Derived.Test.YtcplnkhdclcgfaaGreatDoorSd4
import Derived.Test.YtcplnkhdclcgfaaGreatDoorSd5
import Derived.Test.YtcplnkhdclcgfaaGreatDoorSd6
import Derived.Test.YtcplnkhdclcgfaaGreatDoorSd7
namespace Go.Proofs.YtcplnkhdclcgfaaGreatDoor
set_option maxRecDepth 100000
set_option maxHeartbeats 1000000
open Go.RowKit
def opOkB (op r a b n places procs : Int) : Bool :=
 if op = 1 then inB n (-1000000000) 1000000000 && a == 0 && b == 0
 else if op = 2 then n == 0
 else if op = 3 then n == 0
 else if op = 4 then n == 0
 else if op = 5 then n == 0
 else if op = 6 then inB n 0 (procs - 1) && r == 0 && b == 0
 else if op = 7 then (inB n 0 (procs - 1) || n == 9) && a == 0 && b == 0
 else if op = 8 then r == 0 && b == 0 && n == 0
 else if op = 9 then belB n places && r == 0 && a == 0 && b == 0
 else if op = 10 then belB n places && r == 0 && b == 0
 else if op = 11 then r == 0 && a == 0 && b == 0 && n == 0
 else false
def insOkB (op r a b n places procs : Int) : Bool := (inB r 0 3 && inB a 0 3 && inB b 0 3 && inB procs 1 4) && opOkB op r a b n places procs
theorem opCases (op : Int) : (op < 1 \/ 11 < op) \/ op = 1 \/ op = 2 \/ op = 3 \/ op = 4 \/ op = 5 \/ op = 6 \/ op = 7 \/ op = 8 \/ op = 9 \/ op = 10 \/ op = 11 := by omega
theorem opOkB_none (op r a b n places procs : Int) (h : op < 1 \/ 11 < op) : opOkB op r a b n places procs = false := by
 unfold opOkB
 rw [if_neg (by omega), if_neg (by omega), if_neg (by omega), if_neg (by omega), if_neg (by omega), if_neg (by omega), if_neg (by omega), if_neg (by omega), if_neg (by omega), if_neg (by omega), if_neg (by omega)]
theorem specInsOk_any (op r a b n places procs : Int) (w : World) :
  Calls Tryz.prog 191 #[insV op r a b n, .int .i64 places, .int .i64 procs] w fun e w' => e = .returned (.bool (insOkB op r a b n places procs)) /\ Below w.heap.size w w' := by
 rcases zK (inB r 0 3 && inB a 0 3 && inB b 0 3 && inB procs 1 4) with h | h
 ·have hh := h
  simp only [Bool.and_eq_true] at hh
  obtain ⟨⟨⟨h1, h2⟩, h3⟩, h4⟩ := hh
  have h5 : 1 <= procs := by simp [inB] at h4; omega
  have h6 : procs <= 4 := by simp [inB] at h4; omega
  have hv : insOkB op r a b n places procs = opOkB op r a b n places procs := by unfold insOkB; rw [h]; rfl
  rw [hv]
  rcases opCases op with g | rfl | rfl | rfl | rfl | rfl | rfl | rfl | rfl | rfl | rfl | rfl
  ·rw [opOkB_none _ _ _ _ _ _ _ g]; exact specInsOk_none op r a b n places procs w h1 h2 h3 h4 h5 h6 g
  ·exact specInsOk_1 r a b n places procs w h1 h2 h3 h4 h5 h6
  ·exact specInsOk_2 r a b n places procs w h1 h2 h3 h4 h5 h6
  ·exact specInsOk_3 r a b n places procs w h1 h2 h3 h4 h5 h6
  ·exact specInsOk_4 r a b n places procs w h1 h2 h3 h4 h5 h6
  ·exact specInsOk_5 r a b n places procs w h1 h2 h3 h4 h5 h6
  ·exact specInsOk_6 r a b n places procs w h1 h2 h3 h4 h5 h6
  ·exact specInsOk_7 r a b n places procs w h1 h2 h3 h4 h5 h6
  ·exact specInsOk_8 r a b n places procs w h1 h2 h3 h4 h5 h6
  ·exact specInsOk_9 r a b n places procs w h1 h2 h3 h4 h5 h6
  ·exact specInsOk_10 r a b n places procs w h1 h2 h3 h4 h5 h6
  ·exact specInsOk_11 r a b n places procs w h1 h2 h3 h4 h5 h6
 ·have hv : insOkB op r a b n places procs = false := by unfold insOkB; rw [h]; rfl
  rw [hv]
  exact specInsOk_out op r a b n places procs w h
theorem implInsOk_out (op r a b n places procs : Int) (w : World) (h : procs < 1 \/ 4 < procs) :
  Calls Tryz.prog 198 #[insV op r a b n, .int .i64 places, .int .i64 procs] w fun e w' => e = .returned (.bool false) /\ Below w.heap.size w w' := by
 rcases h with h | h
 ·go_enter Tryz.func198, Tryz.ntmps198
  go_wp2
  go_ret
  exact ⟨rfl, by go_grown⟩
 ·have h' : ¬ procs < 1 := by omega
  go_enter Tryz.func198, Tryz.ntmps198
  go_wp2
  go_ret
  exact ⟨rfl, by go_grown⟩
theorem implInsOk_none (op r a b n places procs : Int) (w : World) (h5 : 1 <= procs) (h6 : procs <= 4) (h : op < 1 \/ 11 < op) :
  Calls Tryz.prog 198 #[insV op r a b n, .int .i64 places, .int .i64 procs] w fun e w' => e = .returned (.bool false) /\ Below w.heap.size w w' := by
 go_enter Tryz.func198, Tryz.ntmps198
 go_wp2_with (go_at_call 180; refine (placeOf_none _ _ _ _ _ _ h).mono ?_; rintro e w1 ⟨rfl, hb1⟩)
 first | (go_region_with (fail)) | fail
 all_goals
  go_wp2
  go_ret
  exact ⟨rfl, implIns_below1 hb1⟩
theorem implInsOk_any (op r a b n places procs : Int) (w : World) :
  Calls Tryz.prog 198 #[insV op r a b n, .int .i64 places, .int .i64 procs] w fun e w' => e = .returned (.bool (insOkB op r a b n places procs)) /\ Below w.heap.size w w' := by
 by_cases hp : procs < 1 \/ 4 < procs
 ·have hv : insOkB op r a b n places procs = false := by simp [insOkB, inB]; omega
  rw [hv]
  exact implInsOk_out op r a b n places procs w hp
 ·have h5 : 1 <= procs := by omega
  have h6 : procs <= 4 := by omega
  rcases opCases op with g | rfl | rfl | rfl | rfl | rfl | rfl | rfl | rfl | rfl | rfl | rfl
  ·have hv : insOkB op r a b n places procs = false := by unfold insOkB; rw [opOkB_none _ _ _ _ _ _ _ g]; simp
   rw [hv]
   exact implInsOk_none op r a b n places procs w h5 h6 g
  ·by_cases g0 : a = 0
   case neg =>
    have hv : insOkB 1 r a b n places procs = false := by simp [insOkB, opOkB, g0]
    rw [hv]
    exact implInsOk_set_ne r a b n places procs w h5 h6 (by simp [insEqB]; omega)
   subst g0
   by_cases g1 : b = 0
   case neg =>
    have hv : insOkB 1 r 0 b n places procs = false := by simp [insOkB, opOkB, g1]
    rw [hv]
    exact implInsOk_set_ne r 0 b n places procs w h5 h6 (by simp [insEqB]; omega)
   subst g1
   refine (implInsOk_set_eq r n places procs w h5 h6).mono ?_
   rintro e w1 ⟨rfl, hb⟩
   refine ⟨ret_bool ?_, hb⟩
   rw [Bool.eq_iff_iff]
   simp [insOkB, opOkB, inB, belB] <;> omega
  ·by_cases g0 : n = 0
   case neg =>
    have hv : insOkB 2 r a b n places procs = false := by simp [insOkB, opOkB, g0]
    rw [hv]
    exact implInsOk_calc_ne 2 r a b n places procs w h5 h6 (by omega) (by omega) (by simp [insEqB]; omega)
   subst g0
   refine (implInsOk_calc_eq 2 r a b places procs w h5 h6 (by omega) (by omega)).mono ?_
   rintro e w1 ⟨rfl, hb⟩
   refine ⟨ret_bool ?_, hb⟩
   rw [Bool.eq_iff_iff]
   simp [insOkB, opOkB, inB, belB] <;> omega
  ·by_cases g0 : n = 0
   case neg =>
    have hv : insOkB 3 r a b n places procs = false := by simp [insOkB, opOkB, g0]
    rw [hv]
    exact implInsOk_calc_ne 3 r a b n places procs w h5 h6 (by omega) (by omega) (by simp [insEqB]; omega)
   subst g0
   refine (implInsOk_calc_eq 3 r a b places procs w h5 h6 (by omega) (by omega)).mono ?_
   rintro e w1 ⟨rfl, hb⟩
   refine ⟨ret_bool ?_, hb⟩
   rw [Bool.eq_iff_iff]
   simp [insOkB, opOkB, inB, belB] <;> omega
  ·by_cases g0 : n = 0
   case neg =>
    have hv : insOkB 4 r a b n places procs = false := by simp [insOkB, opOkB, g0]
    rw [hv]
    exact implInsOk_calc_ne 4 r a b n places procs w h5 h6 (by omega) (by omega) (by simp [insEqB]; omega)
   subst g0
   refine (implInsOk_calc_eq 4 r a b places procs w h5 h6 (by omega) (by omega)).mono ?_
   rintro e w1 ⟨rfl, hb⟩
   refine ⟨ret_bool ?_, hb⟩
   rw [Bool.eq_iff_iff]
   simp [insOkB, opOkB, inB, belB] <;> omega
  ·by_cases g0 : n = 0
   case neg =>
    have hv : insOkB 5 r a b n places procs = false := by simp [insOkB, opOkB, g0]
    rw [hv]
    exact implInsOk_calc_ne 5 r a b n places procs w h5 h6 (by omega) (by omega) (by simp [insEqB]; omega)
   subst g0
   refine (implInsOk_calc_eq 5 r a b places procs w h5 h6 (by omega) (by omega)).mono ?_
   rintro e w1 ⟨rfl, hb⟩
   refine ⟨ret_bool ?_, hb⟩
   rw [Bool.eq_iff_iff]
   simp [insOkB, opOkB, inB, belB] <;> omega
  ·by_cases g0 : r = 0
   case neg =>
    have hv : insOkB 6 r a b n places procs = false := by simp [insOkB, opOkB, g0]
    rw [hv]
    exact implInsOk_send_ne r a b n places procs w h5 h6 (by simp [insEqB]; omega)
   subst g0
   by_cases g1 : b = 0
   case neg =>
    have hv : insOkB 6 0 a b n places procs = false := by simp [insOkB, opOkB, g1]
    rw [hv]
    exact implInsOk_send_ne 0 a b n places procs w h5 h6 (by simp [insEqB]; omega)
   subst g1
   refine (implInsOk_send_eq a n places procs w h5 h6).mono ?_
   rintro e w1 ⟨rfl, hb⟩
   refine ⟨ret_bool ?_, hb⟩
   rw [Bool.eq_iff_iff]
   simp [insOkB, opOkB, inB, belB] <;> omega
  ·by_cases g0 : a = 0
   case neg =>
    have hv : insOkB 7 r a b n places procs = false := by simp [insOkB, opOkB, g0]
    rw [hv]
    exact implInsOk_take_ne r a b n places procs w h5 h6 (by simp [insEqB]; omega)
   subst g0
   by_cases g1 : b = 0
   case neg =>
    have hv : insOkB 7 r 0 b n places procs = false := by simp [insOkB, opOkB, g1]
    rw [hv]
    exact implInsOk_take_ne r 0 b n places procs w h5 h6 (by simp [insEqB]; omega)
   subst g1
   refine (implInsOk_take_eq r n places procs w h5 h6).mono ?_
   rintro e w1 ⟨rfl, hb⟩
   refine ⟨ret_bool ?_, hb⟩
   rw [Bool.eq_iff_iff]
   simp [insOkB, opOkB, inB, belB] <;> omega
  ·by_cases g0 : r = 0
   case neg =>
    have hv : insOkB 8 r a b n places procs = false := by simp [insOkB, opOkB, g0]
    rw [hv]
    exact implInsOk_print_ne r a b n places procs w h5 h6 (by simp [insEqB]; omega)
   subst g0
   by_cases g1 : b = 0
   case neg =>
    have hv : insOkB 8 0 a b n places procs = false := by simp [insOkB, opOkB, g1]
    rw [hv]
    exact implInsOk_print_ne 0 a b n places procs w h5 h6 (by simp [insEqB]; omega)
   subst g1
   by_cases g2 : n = 0
   case neg =>
    have hv : insOkB 8 0 a 0 n places procs = false := by simp [insOkB, opOkB, g2]
    rw [hv]
    exact implInsOk_print_ne 0 a 0 n places procs w h5 h6 (by simp [insEqB]; omega)
   subst g2
   refine (implInsOk_print_eq a places procs w h5 h6).mono ?_
   rintro e w1 ⟨rfl, hb⟩
   refine ⟨ret_bool ?_, hb⟩
   rw [Bool.eq_iff_iff]
   simp [insOkB, opOkB, inB, belB] <;> omega
  ·by_cases g0 : r = 0
   case neg =>
    have hv : insOkB 9 r a b n places procs = false := by simp [insOkB, opOkB, g0]
    rw [hv]
    exact implInsOk_jump_ne r a b n places procs w h5 h6 (by simp [insEqB]; omega)
   subst g0
   by_cases g1 : a = 0
   case neg =>
    have hv : insOkB 9 0 a b n places procs = false := by simp [insOkB, opOkB, g1]
    rw [hv]
    exact implInsOk_jump_ne 0 a b n places procs w h5 h6 (by simp [insEqB]; omega)
   subst g1
   by_cases g2 : b = 0
   case neg =>
    have hv : insOkB 9 0 0 b n places procs = false := by simp [insOkB, opOkB, g2]
    rw [hv]
    exact implInsOk_jump_ne 0 0 b n places procs w h5 h6 (by simp [insEqB]; omega)
   subst g2
   refine (implInsOk_jump_eq n places procs w h5 h6).mono ?_
   rintro e w1 ⟨rfl, hb⟩
   refine ⟨ret_bool ?_, hb⟩
   rw [Bool.eq_iff_iff]
   simp [insOkB, opOkB, inB, belB] <;> omega
  ·by_cases g0 : r = 0
   case neg =>
    have hv : insOkB 10 r a b n places procs = false := by simp [insOkB, opOkB, g0]
    rw [hv]
    exact implInsOk_zero_ne r a b n places procs w h5 h6 (by simp [insEqB]; omega)
   subst g0
   by_cases g1 : b = 0
   case neg =>
    have hv : insOkB 10 0 a b n places procs = false := by simp [insOkB, opOkB, g1]
    rw [hv]
    exact implInsOk_zero_ne 0 a b n places procs w h5 h6 (by simp [insEqB]; omega)
   subst g1
   refine (implInsOk_zero_eq a n places procs w h5 h6).mono ?_
   rintro e w1 ⟨rfl, hb⟩
   refine ⟨ret_bool ?_, hb⟩
   rw [Bool.eq_iff_iff]
   simp [insOkB, opOkB, inB, belB] <;> omega
  ·by_cases g0 : r = 0
   case neg =>
    have hv : insOkB 11 r a b n places procs = false := by simp [insOkB, opOkB, g0]
    rw [hv]
    exact implInsOk_end_ne r a b n places procs w h5 h6 (by simp [insEqB]; omega)
   subst g0
   by_cases g1 : a = 0
   case neg =>
    have hv : insOkB 11 0 a b n places procs = false := by simp [insOkB, opOkB, g1]
    rw [hv]
    exact implInsOk_end_ne 0 a b n places procs w h5 h6 (by simp [insEqB]; omega)
   subst g1
   by_cases g2 : b = 0
   case neg =>
    have hv : insOkB 11 0 0 b n places procs = false := by simp [insOkB, opOkB, g2]
    rw [hv]
    exact implInsOk_end_ne 0 0 b n places procs w h5 h6 (by simp [insEqB]; omega)
   subst g2
   by_cases g3 : n = 0
   case neg =>
    have hv : insOkB 11 0 0 0 n places procs = false := by simp [insOkB, opOkB, g3]
    rw [hv]
    exact implInsOk_end_ne 0 0 0 n places procs w h5 h6 (by simp [insEqB]; omega)
   subst g3
   refine (implInsOk_end_eq places procs w h5 h6).mono ?_
   rintro e w1 ⟨rfl, hb⟩
   refine ⟨ret_bool ?_, hb⟩
   rw [Bool.eq_iff_iff]
   simp [insOkB, opOkB, inB] <;> omega
attribute [local go_sem] as_set_send as_set_take as_set_print as_calc_send as_calc_take as_calc_print as_send_send as_take_send as_take_take as_print_send as_print_take as_print_print as_jump_send as_jump_take as_jump_print as_zero_send as_zero_take as_zero_print as_end_send as_end_take as_end_print
theorem eventOf_send (n a r0 r1 r2 r3 : Int) (w : World) (h0 : 0 <= a) (h3 : a <= 3) :
  Calls Tryz.prog 179 #[.iface 250 (sendV n a), regV r0 r1 r2 r3] w fun e w' => e = .returned (evV 2 n (zi [r0, r1, r2, r3] a.toNat)) /\ Below w.heap.size w w' := by
 have ha : a = 0 \/ a = 1 \/ a = 2 \/ a = 3 := by omega
 clear h0 h3
 rcases ha with rfl | rfl | rfl | rfl
 ·go_enter Tryz.func179, Tryz.ntmps179
  go_wp2_with fail
  go_region
  all_goals
   go_wp2
   refine bodyPost_ret (v := evV 2 n r0) (by simp [results, Tryz.results179, go_sem]) rfl ⟨rfl, ?_⟩
   go_grown
 ·go_enter Tryz.func179, Tryz.ntmps179
  go_wp2_with fail
  go_region
  all_goals
   go_wp2
   refine bodyPost_ret (v := evV 2 n r1) (by simp [results, Tryz.results179, go_sem]) rfl ⟨rfl, ?_⟩
   go_grown
 ·go_enter Tryz.func179, Tryz.ntmps179
  go_wp2_with fail
  go_region
  all_goals
   go_wp2
   refine bodyPost_ret (v := evV 2 n r2) (by simp [results, Tryz.results179, go_sem]) rfl ⟨rfl, ?_⟩
   go_grown
 ·go_enter Tryz.func179, Tryz.ntmps179
  go_wp2_with fail
  go_region
  all_goals
   go_wp2
   refine bodyPost_ret (v := evV 2 n r3) (by simp [results, Tryz.results179, go_sem]) rfl ⟨rfl, ?_⟩
   go_grown
theorem eventOf_take (r n r0 r1 r2 r3 : Int) (w : World) :
  Calls Tryz.prog 179 #[.iface 252 (takeV r n), regV r0 r1 r2 r3] w fun e w' => e = .returned (evV 3 n 0) /\ Below w.heap.size w w' := by
 go_enter Tryz.func179, Tryz.ntmps179
 go_wp2
 refine bodyPost_ret (v := evV 3 n 0) (by simp [results, Tryz.results179, go_sem]) rfl ⟨rfl, ?_⟩
 go_grown
theorem eventOf_print (a r0 r1 r2 r3 : Int) (w : World) (h0 : 0 <= a) (h3 : a <= 3) :
  Calls Tryz.prog 179 #[.iface 254 (printV a), regV r0 r1 r2 r3] w fun e w' => e = .returned (evV 4 0 (zi [r0, r1, r2, r3] a.toNat)) /\ Below w.heap.size w w' := by
 have ha : a = 0 \/ a = 1 \/ a = 2 \/ a = 3 := by omega
 clear h0 h3
 rcases ha with rfl | rfl | rfl | rfl
 ·go_enter Tryz.func179, Tryz.ntmps179
  go_wp2
  refine bodyPost_ret (v := evV 4 0 r0) (by simp [results, Tryz.results179, go_sem]) rfl ⟨rfl, ?_⟩
  go_grown
 ·go_enter Tryz.func179, Tryz.ntmps179
  go_wp2
  refine bodyPost_ret (v := evV 4 0 r1) (by simp [results, Tryz.results179, go_sem]) rfl ⟨rfl, ?_⟩
  go_grown
 ·go_enter Tryz.func179, Tryz.ntmps179
  go_wp2
  refine bodyPost_ret (v := evV 4 0 r2) (by simp [results, Tryz.results179, go_sem]) rfl ⟨rfl, ?_⟩
  go_grown
 ·go_enter Tryz.func179, Tryz.ntmps179
  go_wp2
  refine bodyPost_ret (v := evV 4 0 r3) (by simp [results, Tryz.results179, go_sem]) rfl ⟨rfl, ?_⟩
  go_grown
theorem eventOf_set (r n r0 r1 r2 r3 : Int) (w : World) :
  Calls Tryz.prog 179 #[.iface 256 (setV r n), regV r0 r1 r2 r3] w fun e w' => e = .returned (evV 1 0 0) /\ Below w.heap.size w w' := by
 go_enter Tryz.func179, Tryz.ntmps179
 go_wp2
 refine bodyPost_ret (v := evV 1 0 0) (by simp [results, Tryz.results179, go_sem]) rfl ⟨rfl, ?_⟩
 go_grown
theorem eventOf_calc (op r a b r0 r1 r2 r3 : Int) (w : World) :
  Calls Tryz.prog 179 #[.iface 258 (calcV op r a b), regV r0 r1 r2 r3] w fun e w' => e = .returned (evV 1 0 0) /\ Below w.heap.size w w' := by
 go_enter Tryz.func179, Tryz.ntmps179
 go_wp2
 refine bodyPost_ret (v := evV 1 0 0) (by simp [results, Tryz.results179, go_sem]) rfl ⟨rfl, ?_⟩
 go_grown
theorem eventOf_jump (n r0 r1 r2 r3 : Int) (w : World) :
  Calls Tryz.prog 179 #[.iface 260 (jumpV n), regV r0 r1 r2 r3] w fun e w' => e = .returned (evV 1 0 0) /\ Below w.heap.size w w' := by
 go_enter Tryz.func179, Tryz.ntmps179
 go_wp2
 refine bodyPost_ret (v := evV 1 0 0) (by simp [results, Tryz.results179, go_sem]) rfl ⟨rfl, ?_⟩
 go_grown
theorem eventOf_zero (a n r0 r1 r2 r3 : Int) (w : World) :
  Calls Tryz.prog 179 #[.iface 262 (zeroV a n), regV r0 r1 r2 r3] w fun e w' => e = .returned (evV 1 0 0) /\ Below w.heap.size w w' := by
 go_enter Tryz.func179, Tryz.ntmps179
 go_wp2
 refine bodyPost_ret (v := evV 1 0 0) (by simp [results, Tryz.results179, go_sem]) rfl ⟨rfl, ?_⟩
 go_grown
theorem eventOf_end (r0 r1 r2 r3 : Int) (w : World) :
  Calls Tryz.prog 179 #[.iface 264 endV, regV r0 r1 r2 r3] w fun e w' => e = .returned (evV 1 0 0) /\ Below w.heap.size w w' := by
 go_enter Tryz.func179, Tryz.ntmps179
 go_wp2
 refine bodyPost_ret (v := evV 1 0 0) (by simp [results, Tryz.results179, go_sem]) rfl ⟨rfl, ?_⟩
 go_grown
def evK (o : Int) : Int := if o = 6 then 2 else if o = 7 then 3 else if o = 8 then 4 else 1
def evP (o n : Int) : Int := if o = 6 then n else if o = 7 then n else 0
def evW (o a : Int) (rs : List Int) : Int := if o = 6 then zi rs a.toNat else if o = 8 then zi rs a.toNat else 0
def placeV (o r a b n : Int) : Value :=
 if o = 1 then .iface 256 (setV r n) else if o = 6 then .iface 250 (sendV n a) else if o = 7 then .iface 252 (takeV r n)
 else if o = 8 then .iface 254 (printV a) else if o = 9 then .iface 260 (jumpV n) else if o = 10 then .iface 262 (zeroV a n)
 else if o = 11 then .iface 264 endV else .iface 258 (calcV o r a b)
theorem placeOf_right (o r a b n : Int) (w : World) (h1 : 1 <= o) (h2 : o <= 11) :
  Calls Tryz.prog 180 #[insV o r a b n] w fun e w' => e = .returned (placeV o r a b n) /\ Below w.heap.size w w' := by
 rcases opCases o with g | rfl | rfl | rfl | rfl | rfl | rfl | rfl | rfl | rfl | rfl | rfl
 ·omega
 ·exact placeOf_set r a b n w
 ·exact placeOf_calc2 r a b n w
 ·exact placeOf_calc3 r a b n w
 ·exact placeOf_calc4 r a b n w
 ·exact placeOf_calc5 r a b n w
 ·exact placeOf_send r a b n w
 ·exact placeOf_take r a b n w
 ·exact placeOf_print r a b n w
 ·exact placeOf_jump r a b n w
 ·exact placeOf_zero r a b n w
 ·exact placeOf_end r a b n w
theorem eventOf_right (o r a b n r0 r1 r2 r3 : Int) (w : World) (h1 : 1 <= o) (h2 : o <= 11) (h3 : 0 <= a) (h4 : a <= 3) :
  Calls Tryz.prog 179 #[placeV o r a b n, regV r0 r1 r2 r3] w fun e w' => e = .returned (evV (evK o) (evP o n) (evW o a [r0, r1, r2, r3])) /\ Below w.heap.size w w' := by
 rcases opCases o with g | rfl | rfl | rfl | rfl | rfl | rfl | rfl | rfl | rfl | rfl | rfl
 ·omega
 ·exact eventOf_set r n r0 r1 r2 r3 w
 ·exact eventOf_calc 2 r a b r0 r1 r2 r3 w
 ·exact eventOf_calc 3 r a b r0 r1 r2 r3 w
 ·exact eventOf_calc 4 r a b r0 r1 r2 r3 w
 ·exact eventOf_calc 5 r a b r0 r1 r2 r3 w
 ·exact eventOf_send n a r0 r1 r2 r3 w h3 h4
 ·exact eventOf_take r n r0 r1 r2 r3 w
 ·exact eventOf_print a r0 r1 r2 r3 w h3 h4
 ·exact eventOf_jump n r0 r1 r2 r3 w
 ·exact eventOf_zero a n r0 r1 r2 r3 w
 ·exact eventOf_end r0 r1 r2 r3 w
end Go.Proofs.YtcplnkhdclcgfaaGreatDoor
