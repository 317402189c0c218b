/- InsOk, the program's and the model's: both answer what insOkB says, for every argument. -/
import Derived.Test.YtnfdnnmddadmkaaGreatDoorNc0
import Derived.Test.YtnfdnnmddadmkaaGreatDoorNc3
import Derived.Test.YtnfdnnmddadmkaaGreatDoorNc4
import Derived.Test.YtnfdnnmddadmkaaGreatDoorNc5
import Derived.Test.YtnfdnnmddadmkaaGreatDoorNc6
namespace Go.Proofs.YtnfdnnmddadmkaaGreatDoor
set_option maxRecDepth 100000
set_option maxHeartbeats 1000000
open Go.RowKit
def opOkB (op r a b n places procs : Int) : Bool :=
 if op = 1 then inB n (-1000000000) 1000000000 && a == 0 && b == 0
 else if op = 2 then n == 0
 else if op = 3 then n == 0
 else if op = 4 then n == 0
 else if op = 5 then n == 0
 else if op = 6 then inB n 0 (procs - 1) && r == 0 && b == 0
 else if op = 7 then (inB n 0 (procs - 1) || n == 9) && a == 0 && b == 0
 else if op = 8 then r == 0 && b == 0 && n == 0
 else if op = 9 then belB n places && r == 0 && a == 0 && b == 0
 else if op = 10 then belB n places && r == 0 && b == 0
 else if op = 11 then r == 0 && a == 0 && b == 0 && n == 0
 else false
def insOkB (op r a b n places procs : Int) : Bool := (inB r 0 3 && inB a 0 3 && inB b 0 3 && inB procs 1 4) && opOkB op r a b n places procs
theorem opCases (op : Int) : (op < 1 ∨ 11 < op) ∨ op = 1 ∨ op = 2 ∨ op = 3 ∨ op = 4 ∨ op = 5 ∨ op = 6 ∨ op = 7 ∨ op = 8 ∨ op = 9 ∨ op = 10 ∨ op = 11 := by omega
theorem opOkB_none (op r a b n places procs : Int) (h : op < 1 ∨ 11 < op) : opOkB op r a b n places procs = false := by
 unfold opOkB
 rw [if_neg (by omega), if_neg (by omega), if_neg (by omega), if_neg (by omega), if_neg (by omega), if_neg (by omega), if_neg (by omega), if_neg (by omega), if_neg (by omega), if_neg (by omega), if_neg (by omega)]
theorem specInsOk_any (op r a b n places procs : Int) (w : World) :
  Calls Tryz.prog 174 #[insV op r a b n, .int .i64 places, .int .i64 procs] w fun e w' => e = .returned (.bool (insOkB op r a b n places procs)) ∧ Below w.heap.size w w' := by
 rcases Bool.eq_false_or_eq_true (inB r 0 3 && inB a 0 3 && inB b 0 3 && inB procs 1 4) with h | h
 ·have hh := h
  simp only [Bool.and_eq_true] at hh
  obtain ⟨⟨⟨h1, h2⟩, h3⟩, h4⟩ := hh
  have h5 : 1 ≤ procs := by simp [inB] at h4; omega
  have h6 : procs ≤ 4 := by simp [inB] at h4; omega
  have hv : insOkB op r a b n places procs = opOkB op r a b n places procs := by unfold insOkB; rw [h]; rfl
  rw [hv]
  rcases opCases op with g | rfl | rfl | rfl | rfl | rfl | rfl | rfl | rfl | rfl | rfl | rfl
  ·rw [opOkB_none _ _ _ _ _ _ _ g]; exact specInsOk_none op r a b n places procs w h1 h2 h3 h4 h5 h6 g
  ·exact specInsOk_1 r a b n places procs w h1 h2 h3 h4 h5 h6
  ·exact specInsOk_2 r a b n places procs w h1 h2 h3 h4 h5 h6
  ·exact specInsOk_3 r a b n places procs w h1 h2 h3 h4 h5 h6
  ·exact specInsOk_4 r a b n places procs w h1 h2 h3 h4 h5 h6
  ·exact specInsOk_5 r a b n places procs w h1 h2 h3 h4 h5 h6
  ·exact specInsOk_6 r a b n places procs w h1 h2 h3 h4 h5 h6
  ·exact specInsOk_7 r a b n places procs w h1 h2 h3 h4 h5 h6
  ·exact specInsOk_8 r a b n places procs w h1 h2 h3 h4 h5 h6
  ·exact specInsOk_9 r a b n places procs w h1 h2 h3 h4 h5 h6
  ·exact specInsOk_10 r a b n places procs w h1 h2 h3 h4 h5 h6
  ·exact specInsOk_11 r a b n places procs w h1 h2 h3 h4 h5 h6
 ·have hv : insOkB op r a b n places procs = false := by unfold insOkB; rw [h]; rfl
  rw [hv]
  exact specInsOk_out op r a b n places procs w h
theorem implInsOk_out (op r a b n places procs : Int) (w : World) (h : procs < 1 ∨ 4 < procs) :
  Calls Tryz.prog 179 #[insV op r a b n, .int .i64 places, .int .i64 procs] w fun e w' => e = .returned (.bool false) ∧ Below w.heap.size w w' := by
 rcases h with h | h
 ·go_enter Tryz.func179, Tryz.ntmps179
  go_wp2
  go_ret
  exact ⟨rfl, by go_grown⟩
 ·have h' : ¬ procs < 1 := by omega
  go_enter Tryz.func179, Tryz.ntmps179
  go_wp2
  go_ret
  exact ⟨rfl, by go_grown⟩
theorem implInsOk_none (op r a b n places procs : Int) (w : World) (h5 : 1 ≤ procs) (h6 : procs ≤ 4) (h : op < 1 ∨ 11 < op) :
  Calls Tryz.prog 179 #[insV op r a b n, .int .i64 places, .int .i64 procs] w fun e w' => e = .returned (.bool false) ∧ Below w.heap.size w w' := by
 go_enter Tryz.func179, Tryz.ntmps179
 go_wp2_with (go_at_call 205; refine (placeOf_none _ _ _ _ _ _ h).mono ?_; rintro e w1 ⟨rfl, hb1⟩)
 first | (go_region_with (fail)) | fail
 all_goals
  go_wp2
  go_ret
  exact ⟨rfl, implIns_below1 hb1⟩
theorem implInsOk_any (op r a b n places procs : Int) (w : World) :
  Calls Tryz.prog 179 #[insV op r a b n, .int .i64 places, .int .i64 procs] w fun e w' => e = .returned (.bool (insOkB op r a b n places procs)) ∧ Below w.heap.size w w' := by
 by_cases hp : procs < 1 ∨ 4 < procs
 ·have hv : insOkB op r a b n places procs = false := by simp [insOkB, inB]; omega
  rw [hv]
  exact implInsOk_out op r a b n places procs w hp
 ·have h5 : 1 ≤ procs := by omega
  have h6 : procs ≤ 4 := by omega
  rcases opCases op with g | rfl | rfl | rfl | rfl | rfl | rfl | rfl | rfl | rfl | rfl | rfl
  ·have hv : insOkB op r a b n places procs = false := by unfold insOkB; rw [opOkB_none _ _ _ _ _ _ _ g]; simp
   rw [hv]
   exact implInsOk_none op r a b n places procs w h5 h6 g
  ·by_cases g0 : a = 0
   case neg =>
    have hv : insOkB 1 r a b n places procs = false := by simp [insOkB, opOkB, g0]
    rw [hv]
    exact implInsOk_set_ne r a b n places procs w h5 h6 (by simp [insEqB]; omega)
   subst g0
   by_cases g1 : b = 0
   case neg =>
    have hv : insOkB 1 r 0 b n places procs = false := by simp [insOkB, opOkB, g1]
    rw [hv]
    exact implInsOk_set_ne r 0 b n places procs w h5 h6 (by simp [insEqB]; omega)
   subst g1
   refine (implInsOk_set_eq r n places procs w h5 h6).mono ?_
   rintro e w1 ⟨rfl, hb⟩
   refine ⟨ret_bool ?_, hb⟩
   rw [Bool.eq_iff_iff]
   simp [insOkB, opOkB, inB, belB] <;> omega
  ·by_cases g0 : n = 0
   case neg =>
    have hv : insOkB 2 r a b n places procs = false := by simp [insOkB, opOkB, g0]
    rw [hv]
    exact implInsOk_calc_ne 2 r a b n places procs w h5 h6 (by omega) (by omega) (by simp [insEqB]; omega)
   subst g0
   refine (implInsOk_calc_eq 2 r a b places procs w h5 h6 (by omega) (by omega)).mono ?_
   rintro e w1 ⟨rfl, hb⟩
   refine ⟨ret_bool ?_, hb⟩
   rw [Bool.eq_iff_iff]
   simp [insOkB, opOkB, inB, belB] <;> omega
  ·by_cases g0 : n = 0
   case neg =>
    have hv : insOkB 3 r a b n places procs = false := by simp [insOkB, opOkB, g0]
    rw [hv]
    exact implInsOk_calc_ne 3 r a b n places procs w h5 h6 (by omega) (by omega) (by simp [insEqB]; omega)
   subst g0
   refine (implInsOk_calc_eq 3 r a b places procs w h5 h6 (by omega) (by omega)).mono ?_
   rintro e w1 ⟨rfl, hb⟩
   refine ⟨ret_bool ?_, hb⟩
   rw [Bool.eq_iff_iff]
   simp [insOkB, opOkB, inB, belB] <;> omega
  ·by_cases g0 : n = 0
   case neg =>
    have hv : insOkB 4 r a b n places procs = false := by simp [insOkB, opOkB, g0]
    rw [hv]
    exact implInsOk_calc_ne 4 r a b n places procs w h5 h6 (by omega) (by omega) (by simp [insEqB]; omega)
   subst g0
   refine (implInsOk_calc_eq 4 r a b places procs w h5 h6 (by omega) (by omega)).mono ?_
   rintro e w1 ⟨rfl, hb⟩
   refine ⟨ret_bool ?_, hb⟩
   rw [Bool.eq_iff_iff]
   simp [insOkB, opOkB, inB, belB] <;> omega
  ·by_cases g0 : n = 0
   case neg =>
    have hv : insOkB 5 r a b n places procs = false := by simp [insOkB, opOkB, g0]
    rw [hv]
    exact implInsOk_calc_ne 5 r a b n places procs w h5 h6 (by omega) (by omega) (by simp [insEqB]; omega)
   subst g0
   refine (implInsOk_calc_eq 5 r a b places procs w h5 h6 (by omega) (by omega)).mono ?_
   rintro e w1 ⟨rfl, hb⟩
   refine ⟨ret_bool ?_, hb⟩
   rw [Bool.eq_iff_iff]
   simp [insOkB, opOkB, inB, belB] <;> omega
  ·by_cases g0 : r = 0
   case neg =>
    have hv : insOkB 6 r a b n places procs = false := by simp [insOkB, opOkB, g0]
    rw [hv]
    exact implInsOk_send_ne r a b n places procs w h5 h6 (by simp [insEqB]; omega)
   subst g0
   by_cases g1 : b = 0
   case neg =>
    have hv : insOkB 6 0 a b n places procs = false := by simp [insOkB, opOkB, g1]
    rw [hv]
    exact implInsOk_send_ne 0 a b n places procs w h5 h6 (by simp [insEqB]; omega)
   subst g1
   refine (implInsOk_send_eq a n places procs w h5 h6).mono ?_
   rintro e w1 ⟨rfl, hb⟩
   refine ⟨ret_bool ?_, hb⟩
   rw [Bool.eq_iff_iff]
   simp [insOkB, opOkB, inB, belB] <;> omega
  ·by_cases g0 : a = 0
   case neg =>
    have hv : insOkB 7 r a b n places procs = false := by simp [insOkB, opOkB, g0]
    rw [hv]
    exact implInsOk_take_ne r a b n places procs w h5 h6 (by simp [insEqB]; omega)
   subst g0
   by_cases g1 : b = 0
   case neg =>
    have hv : insOkB 7 r 0 b n places procs = false := by simp [insOkB, opOkB, g1]
    rw [hv]
    exact implInsOk_take_ne r 0 b n places procs w h5 h6 (by simp [insEqB]; omega)
   subst g1
   refine (implInsOk_take_eq r n places procs w h5 h6).mono ?_
   rintro e w1 ⟨rfl, hb⟩
   refine ⟨ret_bool ?_, hb⟩
   rw [Bool.eq_iff_iff]
   simp [insOkB, opOkB, inB, belB] <;> omega
  ·by_cases g0 : r = 0
   case neg =>
    have hv : insOkB 8 r a b n places procs = false := by simp [insOkB, opOkB, g0]
    rw [hv]
    exact implInsOk_print_ne r a b n places procs w h5 h6 (by simp [insEqB]; omega)
   subst g0
   by_cases g1 : b = 0
   case neg =>
    have hv : insOkB 8 0 a b n places procs = false := by simp [insOkB, opOkB, g1]
    rw [hv]
    exact implInsOk_print_ne 0 a b n places procs w h5 h6 (by simp [insEqB]; omega)
   subst g1
   by_cases g2 : n = 0
   case neg =>
    have hv : insOkB 8 0 a 0 n places procs = false := by simp [insOkB, opOkB, g2]
    rw [hv]
    exact implInsOk_print_ne 0 a 0 n places procs w h5 h6 (by simp [insEqB]; omega)
   subst g2
   refine (implInsOk_print_eq a places procs w h5 h6).mono ?_
   rintro e w1 ⟨rfl, hb⟩
   refine ⟨ret_bool ?_, hb⟩
   rw [Bool.eq_iff_iff]
   simp [insOkB, opOkB, inB, belB] <;> omega
  ·by_cases g0 : r = 0
   case neg =>
    have hv : insOkB 9 r a b n places procs = false := by simp [insOkB, opOkB, g0]
    rw [hv]
    exact implInsOk_jump_ne r a b n places procs w h5 h6 (by simp [insEqB]; omega)
   subst g0
   by_cases g1 : a = 0
   case neg =>
    have hv : insOkB 9 0 a b n places procs = false := by simp [insOkB, opOkB, g1]
    rw [hv]
    exact implInsOk_jump_ne 0 a b n places procs w h5 h6 (by simp [insEqB]; omega)
   subst g1
   by_cases g2 : b = 0
   case neg =>
    have hv : insOkB 9 0 0 b n places procs = false := by simp [insOkB, opOkB, g2]
    rw [hv]
    exact implInsOk_jump_ne 0 0 b n places procs w h5 h6 (by simp [insEqB]; omega)
   subst g2
   refine (implInsOk_jump_eq n places procs w h5 h6).mono ?_
   rintro e w1 ⟨rfl, hb⟩
   refine ⟨ret_bool ?_, hb⟩
   rw [Bool.eq_iff_iff]
   simp [insOkB, opOkB, inB, belB] <;> omega
  ·by_cases g0 : r = 0
   case neg =>
    have hv : insOkB 10 r a b n places procs = false := by simp [insOkB, opOkB, g0]
    rw [hv]
    exact implInsOk_zero_ne r a b n places procs w h5 h6 (by simp [insEqB]; omega)
   subst g0
   by_cases g1 : b = 0
   case neg =>
    have hv : insOkB 10 0 a b n places procs = false := by simp [insOkB, opOkB, g1]
    rw [hv]
    exact implInsOk_zero_ne 0 a b n places procs w h5 h6 (by simp [insEqB]; omega)
   subst g1
   refine (implInsOk_zero_eq a n places procs w h5 h6).mono ?_
   rintro e w1 ⟨rfl, hb⟩
   refine ⟨ret_bool ?_, hb⟩
   rw [Bool.eq_iff_iff]
   simp [insOkB, opOkB, inB, belB] <;> omega
  ·by_cases g0 : r = 0
   case neg =>
    have hv : insOkB 11 r a b n places procs = false := by simp [insOkB, opOkB, g0]
    rw [hv]
    exact implInsOk_end_ne r a b n places procs w h5 h6 (by simp [insEqB]; omega)
   subst g0
   by_cases g1 : a = 0
   case neg =>
    have hv : insOkB 11 0 a b n places procs = false := by simp [insOkB, opOkB, g1]
    rw [hv]
    exact implInsOk_end_ne 0 a b n places procs w h5 h6 (by simp [insEqB]; omega)
   subst g1
   by_cases g2 : b = 0
   case neg =>
    have hv : insOkB 11 0 0 b n places procs = false := by simp [insOkB, opOkB, g2]
    rw [hv]
    exact implInsOk_end_ne 0 0 b n places procs w h5 h6 (by simp [insEqB]; omega)
   subst g2
   by_cases g3 : n = 0
   case neg =>
    have hv : insOkB 11 0 0 0 n places procs = false := by simp [insOkB, opOkB, g3]
    rw [hv]
    exact implInsOk_end_ne 0 0 0 n places procs w h5 h6 (by simp [insEqB]; omega)
   subst g3
   refine (implInsOk_end_eq places procs w h5 h6).mono ?_
   rintro e w1 ⟨rfl, hb⟩
   refine ⟨ret_bool ?_, hb⟩
   rw [Bool.eq_iff_iff]
   simp [insOkB, opOkB, inB] <;> omega
end Go.Proofs.YtnfdnnmddadmkaaGreatDoor
