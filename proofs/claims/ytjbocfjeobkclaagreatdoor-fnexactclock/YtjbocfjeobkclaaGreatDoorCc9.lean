/- The walks of the draw's cursor: l1Byte, l1Below, l1Once: a number in its range, and nothing else is written than the cursor. -/
import Derived.Test.YtjbocfjeobkclaaGreatDoorCc0
import Derived.Test.YtjbocfjeobkclaaGreatDoorCc3
import Derived.Test.YtjbocfjeobkclaaGreatDoorCc4
import Derived.Test.YtjbocfjeobkclaaGreatDoorCc5
import Derived.Test.YtjbocfjeobkclaaGreatDoorCc6
import Derived.Test.YtjbocfjeobkclaaGreatDoorCc8
import Derived.Test.YtjbocfjeobkclaaGreatDoorRows
import Derived.WalkKit
import Derived.WalkSpells
import Derived.WalkLawsBesides
import Derived.Handy
import Derived.Deep.QuietTactic
import Derived.BigQuiet
import Derived.Maps.AppendAt
namespace Go.Proofs.YtjbocfjeobkclaaGreatDoor
set_option maxRecDepth 100000
set_option maxHeartbeats 1000000
open Go.RowKit
def opOkB (op r a b n places procs : Int) : Bool :=
 if op = 1 then inB n (-1000000000) 1000000000 && a == 0 && b == 0
 else if op = 2 then n == 0
 else if op = 3 then n == 0
 else if op = 4 then n == 0
 else if op = 5 then n == 0
 else if op = 6 then inB n 0 (procs - 1) && r == 0 && b == 0
 else if op = 7 then (inB n 0 (procs - 1) || n == 9) && a == 0 && b == 0
 else if op = 8 then r == 0 && b == 0 && n == 0
 else if op = 9 then belB n places && r == 0 && a == 0 && b == 0
 else if op = 10 then belB n places && r == 0 && b == 0
 else if op = 11 then r == 0 && a == 0 && b == 0 && n == 0
 else false
def insOkB (op r a b n places procs : Int) : Bool := (inB r 0 3 && inB a 0 3 && inB b 0 3 && inB procs 1 4) && opOkB op r a b n places procs
theorem opCases (op : Int) : (op < 1 ∨ 11 < op) ∨ op = 1 ∨ op = 2 ∨ op = 3 ∨ op = 4 ∨ op = 5 ∨ op = 6 ∨ op = 7 ∨ op = 8 ∨ op = 9 ∨ op = 10 ∨ op = 11 := by omega
theorem opOkB_none (op r a b n places procs : Int) (h : op < 1 ∨ 11 < op) : opOkB op r a b n places procs = false := by
 unfold opOkB
 rw [if_neg (by omega), if_neg (by omega), if_neg (by omega), if_neg (by omega), if_neg (by omega), if_neg (by omega), if_neg (by omega), if_neg (by omega), if_neg (by omega), if_neg (by omega), if_neg (by omega)]
theorem specInsOk_any (op r a b n places procs : Int) (w : World) :
  Calls Tryz.prog 95 #[insV op r a b n, .int .i64 places, .int .i64 procs] w fun e w' => e = .returned (.bool (insOkB op r a b n places procs)) ∧ Below w.heap.size w w' := by
 rcases Bool.eq_false_or_eq_true (inB r 0 3 && inB a 0 3 && inB b 0 3 && inB procs 1 4) with h | h
 ·have hh := h
  simp only [Bool.and_eq_true] at hh
  obtain ⟨⟨⟨h1, h2⟩, h3⟩, h4⟩ := hh
  have h5 : 1 ≤ procs := by simp [inB] at h4; omega
  have h6 : procs ≤ 4 := by simp [inB] at h4; omega
  have hv : insOkB op r a b n places procs = opOkB op r a b n places procs := by unfold insOkB; rw [h]; rfl
  rw [hv]
  rcases opCases op with g | rfl | rfl | rfl | rfl | rfl | rfl | rfl | rfl | rfl | rfl | rfl
  ·rw [opOkB_none _ _ _ _ _ _ _ g]; exact specInsOk_none op r a b n places procs w h1 h2 h3 h4 h5 h6 g
  ·exact specInsOk_1 r a b n places procs w h1 h2 h3 h4 h5 h6
  ·exact specInsOk_2 r a b n places procs w h1 h2 h3 h4 h5 h6
  ·exact specInsOk_3 r a b n places procs w h1 h2 h3 h4 h5 h6
  ·exact specInsOk_4 r a b n places procs w h1 h2 h3 h4 h5 h6
  ·exact specInsOk_5 r a b n places procs w h1 h2 h3 h4 h5 h6
  ·exact specInsOk_6 r a b n places procs w h1 h2 h3 h4 h5 h6
  ·exact specInsOk_7 r a b n places procs w h1 h2 h3 h4 h5 h6
  ·exact specInsOk_8 r a b n places procs w h1 h2 h3 h4 h5 h6
  ·exact specInsOk_9 r a b n places procs w h1 h2 h3 h4 h5 h6
  ·exact specInsOk_10 r a b n places procs w h1 h2 h3 h4 h5 h6
  ·exact specInsOk_11 r a b n places procs w h1 h2 h3 h4 h5 h6
 ·have hv : insOkB op r a b n places procs = false := by unfold insOkB; rw [h]; rfl
  rw [hv]
  exact specInsOk_out op r a b n places procs w h
theorem implInsOk_out (op r a b n places procs : Int) (w : World) (h : procs < 1 ∨ 4 < procs) :
  Calls Tryz.prog 112 #[insV op r a b n, .int .i64 places, .int .i64 procs] w fun e w' => e = .returned (.bool false) ∧ Below w.heap.size w w' := by
 rcases h with h | h
 ·go_enter Tryz.func112, Tryz.ntmps112
  go_wp2
  go_ret
  exact ⟨rfl, by go_grown⟩
 ·have h' : ¬ procs < 1 := by omega
  go_enter Tryz.func112, Tryz.ntmps112
  go_wp2
  go_ret
  exact ⟨rfl, by go_grown⟩
theorem implInsOk_none (op r a b n places procs : Int) (w : World) (h5 : 1 ≤ procs) (h6 : procs ≤ 4) (h : op < 1 ∨ 11 < op) :
  Calls Tryz.prog 112 #[insV op r a b n, .int .i64 places, .int .i64 procs] w fun e w' => e = .returned (.bool false) ∧ Below w.heap.size w w' := by
 go_enter Tryz.func112, Tryz.ntmps112
 go_wp2_with (go_at_call 122; refine (placeOf_none _ _ _ _ _ _ h).mono ?_; rintro e w1 ⟨rfl, hb1⟩)
 first | (go_region_with (fail)) | fail
 all_goals
  go_wp2
  go_ret
  exact ⟨rfl, implIns_below1 hb1⟩
theorem implInsOk_any (op r a b n places procs : Int) (w : World) :
  Calls Tryz.prog 112 #[insV op r a b n, .int .i64 places, .int .i64 procs] w fun e w' => e = .returned (.bool (insOkB op r a b n places procs)) ∧ Below w.heap.size w w' := by
 by_cases hp : procs < 1 ∨ 4 < procs
 ·have hv : insOkB op r a b n places procs = false := by simp [insOkB, inB]; omega
  rw [hv]
  exact implInsOk_out op r a b n places procs w hp
 ·have h5 : 1 ≤ procs := by omega
  have h6 : procs ≤ 4 := by omega
  rcases opCases op with g | rfl | rfl | rfl | rfl | rfl | rfl | rfl | rfl | rfl | rfl | rfl
  ·have hv : insOkB op r a b n places procs = false := by unfold insOkB; rw [opOkB_none _ _ _ _ _ _ _ g]; simp
   rw [hv]
   exact implInsOk_none op r a b n places procs w h5 h6 g
  ·by_cases g0 : a = 0
   case neg =>
    have hv : insOkB 1 r a b n places procs = false := by simp [insOkB, opOkB, g0]
    rw [hv]
    exact implInsOk_set_ne r a b n places procs w h5 h6 (by simp [insEqB]; omega)
   subst g0
   by_cases g1 : b = 0
   case neg =>
    have hv : insOkB 1 r 0 b n places procs = false := by simp [insOkB, opOkB, g1]
    rw [hv]
    exact implInsOk_set_ne r 0 b n places procs w h5 h6 (by simp [insEqB]; omega)
   subst g1
   refine (implInsOk_set_eq r n places procs w h5 h6).mono ?_
   rintro e w1 ⟨rfl, hb⟩
   refine ⟨ret_bool ?_, hb⟩
   rw [Bool.eq_iff_iff]
   simp [insOkB, opOkB, inB, belB] <;> omega
  ·by_cases g0 : n = 0
   case neg =>
    have hv : insOkB 2 r a b n places procs = false := by simp [insOkB, opOkB, g0]
    rw [hv]
    exact implInsOk_calc_ne 2 r a b n places procs w h5 h6 (by omega) (by omega) (by simp [insEqB]; omega)
   subst g0
   refine (implInsOk_calc_eq 2 r a b places procs w h5 h6 (by omega) (by omega)).mono ?_
   rintro e w1 ⟨rfl, hb⟩
   refine ⟨ret_bool ?_, hb⟩
   rw [Bool.eq_iff_iff]
   simp [insOkB, opOkB, inB, belB] <;> omega
  ·by_cases g0 : n = 0
   case neg =>
    have hv : insOkB 3 r a b n places procs = false := by simp [insOkB, opOkB, g0]
    rw [hv]
    exact implInsOk_calc_ne 3 r a b n places procs w h5 h6 (by omega) (by omega) (by simp [insEqB]; omega)
   subst g0
   refine (implInsOk_calc_eq 3 r a b places procs w h5 h6 (by omega) (by omega)).mono ?_
   rintro e w1 ⟨rfl, hb⟩
   refine ⟨ret_bool ?_, hb⟩
   rw [Bool.eq_iff_iff]
   simp [insOkB, opOkB, inB, belB] <;> omega
  ·by_cases g0 : n = 0
   case neg =>
    have hv : insOkB 4 r a b n places procs = false := by simp [insOkB, opOkB, g0]
    rw [hv]
    exact implInsOk_calc_ne 4 r a b n places procs w h5 h6 (by omega) (by omega) (by simp [insEqB]; omega)
   subst g0
   refine (implInsOk_calc_eq 4 r a b places procs w h5 h6 (by omega) (by omega)).mono ?_
   rintro e w1 ⟨rfl, hb⟩
   refine ⟨ret_bool ?_, hb⟩
   rw [Bool.eq_iff_iff]
   simp [insOkB, opOkB, inB, belB] <;> omega
  ·by_cases g0 : n = 0
   case neg =>
    have hv : insOkB 5 r a b n places procs = false := by simp [insOkB, opOkB, g0]
    rw [hv]
    exact implInsOk_calc_ne 5 r a b n places procs w h5 h6 (by omega) (by omega) (by simp [insEqB]; omega)
   subst g0
   refine (implInsOk_calc_eq 5 r a b places procs w h5 h6 (by omega) (by omega)).mono ?_
   rintro e w1 ⟨rfl, hb⟩
   refine ⟨ret_bool ?_, hb⟩
   rw [Bool.eq_iff_iff]
   simp [insOkB, opOkB, inB, belB] <;> omega
  ·by_cases g0 : r = 0
   case neg =>
    have hv : insOkB 6 r a b n places procs = false := by simp [insOkB, opOkB, g0]
    rw [hv]
    exact implInsOk_send_ne r a b n places procs w h5 h6 (by simp [insEqB]; omega)
   subst g0
   by_cases g1 : b = 0
   case neg =>
    have hv : insOkB 6 0 a b n places procs = false := by simp [insOkB, opOkB, g1]
    rw [hv]
    exact implInsOk_send_ne 0 a b n places procs w h5 h6 (by simp [insEqB]; omega)
   subst g1
   refine (implInsOk_send_eq a n places procs w h5 h6).mono ?_
   rintro e w1 ⟨rfl, hb⟩
   refine ⟨ret_bool ?_, hb⟩
   rw [Bool.eq_iff_iff]
   simp [insOkB, opOkB, inB, belB] <;> omega
  ·by_cases g0 : a = 0
   case neg =>
    have hv : insOkB 7 r a b n places procs = false := by simp [insOkB, opOkB, g0]
    rw [hv]
    exact implInsOk_take_ne r a b n places procs w h5 h6 (by simp [insEqB]; omega)
   subst g0
   by_cases g1 : b = 0
   case neg =>
    have hv : insOkB 7 r 0 b n places procs = false := by simp [insOkB, opOkB, g1]
    rw [hv]
    exact implInsOk_take_ne r 0 b n places procs w h5 h6 (by simp [insEqB]; omega)
   subst g1
   refine (implInsOk_take_eq r n places procs w h5 h6).mono ?_
   rintro e w1 ⟨rfl, hb⟩
   refine ⟨ret_bool ?_, hb⟩
   rw [Bool.eq_iff_iff]
   simp [insOkB, opOkB, inB, belB] <;> omega
  ·by_cases g0 : r = 0
   case neg =>
    have hv : insOkB 8 r a b n places procs = false := by simp [insOkB, opOkB, g0]
    rw [hv]
    exact implInsOk_print_ne r a b n places procs w h5 h6 (by simp [insEqB]; omega)
   subst g0
   by_cases g1 : b = 0
   case neg =>
    have hv : insOkB 8 0 a b n places procs = false := by simp [insOkB, opOkB, g1]
    rw [hv]
    exact implInsOk_print_ne 0 a b n places procs w h5 h6 (by simp [insEqB]; omega)
   subst g1
   by_cases g2 : n = 0
   case neg =>
    have hv : insOkB 8 0 a 0 n places procs = false := by simp [insOkB, opOkB, g2]
    rw [hv]
    exact implInsOk_print_ne 0 a 0 n places procs w h5 h6 (by simp [insEqB]; omega)
   subst g2
   refine (implInsOk_print_eq a places procs w h5 h6).mono ?_
   rintro e w1 ⟨rfl, hb⟩
   refine ⟨ret_bool ?_, hb⟩
   rw [Bool.eq_iff_iff]
   simp [insOkB, opOkB, inB, belB] <;> omega
  ·by_cases g0 : r = 0
   case neg =>
    have hv : insOkB 9 r a b n places procs = false := by simp [insOkB, opOkB, g0]
    rw [hv]
    exact implInsOk_jump_ne r a b n places procs w h5 h6 (by simp [insEqB]; omega)
   subst g0
   by_cases g1 : a = 0
   case neg =>
    have hv : insOkB 9 0 a b n places procs = false := by simp [insOkB, opOkB, g1]
    rw [hv]
    exact implInsOk_jump_ne 0 a b n places procs w h5 h6 (by simp [insEqB]; omega)
   subst g1
   by_cases g2 : b = 0
   case neg =>
    have hv : insOkB 9 0 0 b n places procs = false := by simp [insOkB, opOkB, g2]
    rw [hv]
    exact implInsOk_jump_ne 0 0 b n places procs w h5 h6 (by simp [insEqB]; omega)
   subst g2
   refine (implInsOk_jump_eq n places procs w h5 h6).mono ?_
   rintro e w1 ⟨rfl, hb⟩
   refine ⟨ret_bool ?_, hb⟩
   rw [Bool.eq_iff_iff]
   simp [insOkB, opOkB, inB, belB] <;> omega
  ·by_cases g0 : r = 0
   case neg =>
    have hv : insOkB 10 r a b n places procs = false := by simp [insOkB, opOkB, g0]
    rw [hv]
    exact implInsOk_zero_ne r a b n places procs w h5 h6 (by simp [insEqB]; omega)
   subst g0
   by_cases g1 : b = 0
   case neg =>
    have hv : insOkB 10 0 a b n places procs = false := by simp [insOkB, opOkB, g1]
    rw [hv]
    exact implInsOk_zero_ne 0 a b n places procs w h5 h6 (by simp [insEqB]; omega)
   subst g1
   refine (implInsOk_zero_eq a n places procs w h5 h6).mono ?_
   rintro e w1 ⟨rfl, hb⟩
   refine ⟨ret_bool ?_, hb⟩
   rw [Bool.eq_iff_iff]
   simp [insOkB, opOkB, inB, belB] <;> omega
  ·by_cases g0 : r = 0
   case neg =>
    have hv : insOkB 11 r a b n places procs = false := by simp [insOkB, opOkB, g0]
    rw [hv]
    exact implInsOk_end_ne r a b n places procs w h5 h6 (by simp [insEqB]; omega)
   subst g0
   by_cases g1 : a = 0
   case neg =>
    have hv : insOkB 11 0 a b n places procs = false := by simp [insOkB, opOkB, g1]
    rw [hv]
    exact implInsOk_end_ne 0 a b n places procs w h5 h6 (by simp [insEqB]; omega)
   subst g1
   by_cases g2 : b = 0
   case neg =>
    have hv : insOkB 11 0 0 b n places procs = false := by simp [insOkB, opOkB, g2]
    rw [hv]
    exact implInsOk_end_ne 0 0 b n places procs w h5 h6 (by simp [insEqB]; omega)
   subst g2
   by_cases g3 : n = 0
   case neg =>
    have hv : insOkB 11 0 0 0 n places procs = false := by simp [insOkB, opOkB, g3]
    rw [hv]
    exact implInsOk_end_ne 0 0 0 n places procs w h5 h6 (by simp [insEqB]; omega)
   subst g3
   refine (implInsOk_end_eq places procs w h5 h6).mono ?_
   rintro e w1 ⟨rfl, hb⟩
   refine ⟨ret_bool ?_, hb⟩
   rw [Bool.eq_iff_iff]
   simp [insOkB, opOkB, inB] <;> omega
structure I5 where
 o : Int
 r : Int
 a : Int
 b : Int
 n : Int
def InsAt (w : World) (b off len : Nat) (g : Nat → I5) : Prop := ∀ i, i < len →
 w.cell? ⟨b, off + i * 5, none⟩ = some (.int .i64 (g i).o) ∧ w.cell? ⟨b, off + i * 5 + 1, none⟩ = some (.int .i64 (g i).r) ∧ w.cell? ⟨b, off + i * 5 + 2, none⟩ = some (.int .i64 (g i).a) ∧ w.cell? ⟨b, off + i * 5 + 3, none⟩ = some (.int .i64 (g i).b) ∧ w.cell? ⟨b, off + i * 5 + 4, none⟩ = some (.int .i64 (g i).n)
theorem InsAt.below {w w' : World} {B b off len : Nat} {g : Nat → I5} (h : InsAt w b off len g) (hb : Below B w w') (hB : b < B) : InsAt w' b off len g := by
 intro i hi
 obtain ⟨h0, h1, h2, h3, h4⟩ := h i hi
 exact ⟨(hb.cell hB).trans h0, (hb.cell hB).trans h1, (hb.cell hB).trans h2, (hb.cell hB).trans h3, (hb.cell hB).trans h4⟩
def okAt (g : Nat → I5) (len procs : Int) (i : Nat) : Bool := insOkB (g i).o (g i).r (g i).a (g i).b (g i).n len procs
def allOk (g : Nat → I5) (len procs : Int) (k : Nat) : Bool := (List.range k).all (okAt g len procs)
def progOkB (g : Nat → I5) (len : Nat) (procs : Int) : Bool := allOk g len procs len && (inB len 1 30 && inB procs 1 4)
theorem allOk_succ (g : Nat → I5) (len procs : Int) (k : Nat) : allOk g len procs (k + 1) = (allOk g len procs k && okAt g len procs k) := by
 simp [allOk, List.range_succ]
theorem allOk_false (g : Nat → I5) (len procs : Int) {k m : Nat} (hk : k < m) (h : okAt g len procs k = false) : allOk g len procs m = false := by
 rw [allOk, List.all_eq_false]
 exact ⟨k, List.mem_range.2 hk, by simp [h]⟩
theorem specProgOk_any (b off len cap : Nat) (g : Nat → I5) (procs : Int) (w : World) (hlen : len ≤ maxLen) (hb : b < w.heap.size) (hc : InsAt w b off len g) :
  Calls Tryz.prog 70 #[.slice (some ⟨b, off, none⟩) len cap, .int .i64 procs] w fun e w' => e = .returned (.bool (progOkB g len procs)) ∧ Below w.heap.size w w' := by
 unfold maxLen at hlen
 have HC : Hid (InsAt w b off len g) := hc
 clear hc
 go_enter Tryz.func70, Tryz.ntmps70
 go_wp2_with fail
 go_loopw [5] (fun i wr => ∃ k : Nat, k ≤ len ∧ i = .int .i64 k ∧ Hid (allOk g len procs k = true) ∧ Below w.heap.size w wr) (fun i _ => len - (intOf i).toNat)
 case atStart => exact ⟨0, Nat.zero_le _, rfl, rfl, Below.refl _ _⟩
 case round =>
  obtain ⟨k, hk, rfl, HA, hbw⟩ := hrel
  by_cases hlt : k < len
  ·obtain ⟨c0, c1, c2, c3, c4⟩ := HC.out.below hbw hb k hlt
   rcases Bool.eq_false_or_eq_true (okAt g len procs k) with ho | ho
   ·have HO : Hid (okAt g len procs k = true) := ho
    have ho' : insOkB (g k).o (g k).r (g k).a (g k).b (g k).n len procs = true := ho
    clear ho
    go_wp2_with (go_at_call 95; refine (specInsOk_any _ _ _ _ _ _ _ _).mono ?_; rintro e w1 ⟨rfl, hb1⟩)
    go_roundw
    case rel => exact ⟨k + 1, by omega, by go_num, by rw [Hid, allOk_succ, HA.out, HO.out]; rfl, hbw.trans (hb1.mono hbw.size)⟩
    case measure => simp [intOf]; omega
   ·have HO : Hid (okAt g len procs k = false) := ho
    have ho' : insOkB (g k).o (g k).r (g k).a (g k).b (g k).n len procs = false := ho
    clear ho
    go_wp2_with (go_at_call 95; refine (specInsOk_any _ _ _ _ _ _ _ _).mono ?_; rintro e w1 ⟨rfl, hb1⟩)
    go_ret
    exact ⟨ret_bool (by rw [progOkB, allOk_false g len procs hlt HO.out]; rfl), hbw.trans (hb1.mono hbw.size)⟩
  ·have hkl : k = len := by omega
   have HP : Hid (progOkB g len procs = (inB len 1 30 && inB procs 1 4)) := by
    have hA := HA.out
    rw [hkl] at hA
    rw [Hid, progOkB, hA]; rfl
   clear HA hkl
   rcases Bool.eq_false_or_eq_true (inB len 1 30) with t0 | t0
   all_goals
    go_wp2_with (go_at_call 46; refine (l1In_any _ _ _ _).mono ?_; rintro e w' ⟨rfl, rfl⟩)
    go_ret
    exact ⟨ret_bool (by rw [HP.out, t0] <;> rfl), hbw⟩
theorem implProgOk_any (b off len cap : Nat) (g : Nat → I5) (procs : Int) (w : World) (hlen : len ≤ maxLen) (hb : b < w.heap.size) (hc : InsAt w b off len g) :
  Calls Tryz.prog 99 #[.slice (some ⟨b, off, none⟩) len cap, .int .i64 procs] w fun e w' => e = .returned (.bool (progOkB g len procs)) ∧ Below w.heap.size w w' := by
 unfold maxLen at hlen
 have HC : Hid (InsAt w b off len g) := hc
 clear hc
 by_cases hr : 1 ≤ len ∧ len ≤ 30
 case neg =>
  have hv : progOkB g len procs = false := by
   rw [progOkB, show inB len 1 30 = false from by simp [inB]; omega]; simp
  rw [hv]
  clear hv
  by_cases h1 : len < 1
  ·have h1' : (len : Int) < 1 := by omega
   go_enter Tryz.func99, Tryz.ntmps99
   go_wp2
   go_ret
   exact ⟨rfl, Below.refl _ _⟩
  ·have h1' : ¬ (len : Int) < 1 := by omega
   have h2' : (30 : Int) < len := by omega
   go_enter Tryz.func99, Tryz.ntmps99
   go_wp2
   go_ret
   exact ⟨rfl, Below.refl _ _⟩
 case pos =>
 obtain ⟨r1, r2⟩ := hr
 have h1' : ¬ (len : Int) < 1 := by omega
 have h2' : ¬ (30 : Int) < len := by omega
 go_enter Tryz.func99, Tryz.ntmps99
 go_wp2_with fail
 go_loopw [17] (fun i wr => ∃ k : Nat, k ≤ len ∧ i = .int .i64 k ∧ Hid (allOk g len procs k = true) ∧ Below w.heap.size w wr) (fun i _ => len - (intOf i).toNat)
 case atStart => exact ⟨0, Nat.zero_le _, rfl, rfl, Below.refl _ _⟩
 case round =>
  obtain ⟨k, hk, rfl, HA, hbw⟩ := hrel
  have hs := hbw.size
  by_cases hlt : k < len
  ·obtain ⟨c0, c1, c2, c3, c4⟩ := HC.out.below hbw hb k hlt
   rcases Bool.eq_false_or_eq_true (okAt g len procs k) with ho | ho
   ·have HO : Hid (okAt g len procs k = true) := ho
    have ho' : insOkB (g k).o (g k).r (g k).a (g k).b (g k).n len procs = true := ho
    clear ho
    go_wp2_with (go_at_call 112; refine (implInsOk_any _ _ _ _ _ _ _ _).mono ?_; rintro e w1 ⟨rfl, hb1⟩)
    go_roundw
    case rel => exact ⟨k + 1, by omega, by go_num, by rw [Hid, allOk_succ, HA.out, HO.out]; rfl, (hbw.alloc hs _).trans (hb1.mono (by simp; omega))⟩
    case measure => simp [intOf]; omega
   ·have HO : Hid (okAt g len procs k = false) := ho
    have ho' : insOkB (g k).o (g k).r (g k).a (g k).b (g k).n len procs = false := ho
    clear ho
    go_wp2_with (go_at_call 112; refine (implInsOk_any _ _ _ _ _ _ _ _).mono ?_; rintro e w1 ⟨rfl, hb1⟩)
    go_ret
    exact ⟨ret_bool (by rw [progOkB, allOk_false g len procs hlt HO.out]; rfl), (hbw.alloc hs _).trans (hb1.mono (by simp; omega))⟩
  ·have hkl : k = len := by omega
   have h30 : inB len 1 30 = true := by simp [inB]; omega
   have HP : Hid (progOkB g len procs = true) := by
    have hA := HA.out
    rw [hkl] at hA
    have hp : inB procs 1 4 = true := by
     have h0 : okAt g len procs 0 = true := by
      have := (List.all_eq_true.1 (show (List.range len).all (okAt g len procs) = true from hA)) 0 (List.mem_range.2 (by omega))
      exact this
     simp only [okAt, insOkB, Bool.and_eq_true] at h0
     exact h0.1.2
    rw [Hid, progOkB, hA, h30, hp]; rfl
   clear HA hkl h30
   go_wp2
   go_ret
   exact ⟨ret_bool HP.out.symm, hbw⟩
attribute [local go_sem] as_set_send as_set_take as_set_print as_calc_send as_calc_take as_calc_print as_send_send as_take_send as_take_take as_print_send as_print_take as_print_print as_jump_send as_jump_take as_jump_print as_zero_send as_zero_take as_zero_print as_end_send as_end_take as_end_print
theorem eventOf_send (n a r0 r1 r2 r3 : Int) (w : World) (h0 : 0 ≤ a) (h3 : a ≤ 3) :
  Calls Tryz.prog 146 #[.iface 192 (sendV n a), regV r0 r1 r2 r3] w fun e w' => e = .returned (evV 2 n (zi [r0, r1, r2, r3] a.toNat)) ∧ Below w.heap.size w w' := by
 have ha : a = 0 ∨ a = 1 ∨ a = 2 ∨ a = 3 := by omega
 clear h0 h3
 rcases ha with rfl | rfl | rfl | rfl
 ·go_enter Tryz.func146, Tryz.ntmps146
  go_wp2_with fail
  go_region
  all_goals
   go_wp2
   refine bodyPost_ret (v := evV 2 n r0) (by simp [results, Tryz.results146, go_sem]) rfl ⟨rfl, ?_⟩
   go_grown
 ·go_enter Tryz.func146, Tryz.ntmps146
  go_wp2_with fail
  go_region
  all_goals
   go_wp2
   refine bodyPost_ret (v := evV 2 n r1) (by simp [results, Tryz.results146, go_sem]) rfl ⟨rfl, ?_⟩
   go_grown
 ·go_enter Tryz.func146, Tryz.ntmps146
  go_wp2_with fail
  go_region
  all_goals
   go_wp2
   refine bodyPost_ret (v := evV 2 n r2) (by simp [results, Tryz.results146, go_sem]) rfl ⟨rfl, ?_⟩
   go_grown
 ·go_enter Tryz.func146, Tryz.ntmps146
  go_wp2_with fail
  go_region
  all_goals
   go_wp2
   refine bodyPost_ret (v := evV 2 n r3) (by simp [results, Tryz.results146, go_sem]) rfl ⟨rfl, ?_⟩
   go_grown
theorem eventOf_take (r n r0 r1 r2 r3 : Int) (w : World) :
  Calls Tryz.prog 146 #[.iface 194 (takeV r n), regV r0 r1 r2 r3] w fun e w' => e = .returned (evV 3 n 0) ∧ Below w.heap.size w w' := by
 go_enter Tryz.func146, Tryz.ntmps146
 go_wp2
 refine bodyPost_ret (v := evV 3 n 0) (by simp [results, Tryz.results146, go_sem]) rfl ⟨rfl, ?_⟩
 go_grown
theorem eventOf_print (a r0 r1 r2 r3 : Int) (w : World) (h0 : 0 ≤ a) (h3 : a ≤ 3) :
  Calls Tryz.prog 146 #[.iface 196 (printV a), regV r0 r1 r2 r3] w fun e w' => e = .returned (evV 4 0 (zi [r0, r1, r2, r3] a.toNat)) ∧ Below w.heap.size w w' := by
 have ha : a = 0 ∨ a = 1 ∨ a = 2 ∨ a = 3 := by omega
 clear h0 h3
 rcases ha with rfl | rfl | rfl | rfl
 ·go_enter Tryz.func146, Tryz.ntmps146
  go_wp2
  refine bodyPost_ret (v := evV 4 0 r0) (by simp [results, Tryz.results146, go_sem]) rfl ⟨rfl, ?_⟩
  go_grown
 ·go_enter Tryz.func146, Tryz.ntmps146
  go_wp2
  refine bodyPost_ret (v := evV 4 0 r1) (by simp [results, Tryz.results146, go_sem]) rfl ⟨rfl, ?_⟩
  go_grown
 ·go_enter Tryz.func146, Tryz.ntmps146
  go_wp2
  refine bodyPost_ret (v := evV 4 0 r2) (by simp [results, Tryz.results146, go_sem]) rfl ⟨rfl, ?_⟩
  go_grown
 ·go_enter Tryz.func146, Tryz.ntmps146
  go_wp2
  refine bodyPost_ret (v := evV 4 0 r3) (by simp [results, Tryz.results146, go_sem]) rfl ⟨rfl, ?_⟩
  go_grown
theorem eventOf_set (r n r0 r1 r2 r3 : Int) (w : World) :
  Calls Tryz.prog 146 #[.iface 188 (setV r n), regV r0 r1 r2 r3] w fun e w' => e = .returned (evV 1 0 0) ∧ Below w.heap.size w w' := by
 go_enter Tryz.func146, Tryz.ntmps146
 go_wp2
 refine bodyPost_ret (v := evV 1 0 0) (by simp [results, Tryz.results146, go_sem]) rfl ⟨rfl, ?_⟩
 go_grown
theorem eventOf_calc (op r a b r0 r1 r2 r3 : Int) (w : World) :
  Calls Tryz.prog 146 #[.iface 190 (calcV op r a b), regV r0 r1 r2 r3] w fun e w' => e = .returned (evV 1 0 0) ∧ Below w.heap.size w w' := by
 go_enter Tryz.func146, Tryz.ntmps146
 go_wp2
 refine bodyPost_ret (v := evV 1 0 0) (by simp [results, Tryz.results146, go_sem]) rfl ⟨rfl, ?_⟩
 go_grown
theorem eventOf_jump (n r0 r1 r2 r3 : Int) (w : World) :
  Calls Tryz.prog 146 #[.iface 198 (jumpV n), regV r0 r1 r2 r3] w fun e w' => e = .returned (evV 1 0 0) ∧ Below w.heap.size w w' := by
 go_enter Tryz.func146, Tryz.ntmps146
 go_wp2
 refine bodyPost_ret (v := evV 1 0 0) (by simp [results, Tryz.results146, go_sem]) rfl ⟨rfl, ?_⟩
 go_grown
theorem eventOf_zero (a n r0 r1 r2 r3 : Int) (w : World) :
  Calls Tryz.prog 146 #[.iface 200 (zeroV a n), regV r0 r1 r2 r3] w fun e w' => e = .returned (evV 1 0 0) ∧ Below w.heap.size w w' := by
 go_enter Tryz.func146, Tryz.ntmps146
 go_wp2
 refine bodyPost_ret (v := evV 1 0 0) (by simp [results, Tryz.results146, go_sem]) rfl ⟨rfl, ?_⟩
 go_grown
theorem eventOf_end (r0 r1 r2 r3 : Int) (w : World) :
  Calls Tryz.prog 146 #[.iface 202 endV, regV r0 r1 r2 r3] w fun e w' => e = .returned (evV 1 0 0) ∧ Below w.heap.size w w' := by
 go_enter Tryz.func146, Tryz.ntmps146
 go_wp2
 refine bodyPost_ret (v := evV 1 0 0) (by simp [results, Tryz.results146, go_sem]) rfl ⟨rfl, ?_⟩
 go_grown
def evK (o : Int) : Int := if o = 6 then 2 else if o = 7 then 3 else if o = 8 then 4 else 1
def evP (o n : Int) : Int := if o = 6 then n else if o = 7 then n else 0
def evW (o a : Int) (rs : List Int) : Int := if o = 6 then zi rs a.toNat else if o = 8 then zi rs a.toNat else 0
def placeV (o r a b n : Int) : Value :=
 if o = 1 then .iface 188 (setV r n) else if o = 6 then .iface 192 (sendV n a) else if o = 7 then .iface 194 (takeV r n)
 else if o = 8 then .iface 196 (printV a) else if o = 9 then .iface 198 (jumpV n) else if o = 10 then .iface 200 (zeroV a n)
 else if o = 11 then .iface 202 endV else .iface 190 (calcV o r a b)
theorem placeOf_right (o r a b n : Int) (w : World) (h1 : 1 ≤ o) (h2 : o ≤ 11) :
  Calls Tryz.prog 122 #[insV o r a b n] w fun e w' => e = .returned (placeV o r a b n) ∧ Below w.heap.size w w' := by
 rcases opCases o with g | rfl | rfl | rfl | rfl | rfl | rfl | rfl | rfl | rfl | rfl | rfl
 ·omega
 ·exact placeOf_set r a b n w
 ·exact placeOf_calc2 r a b n w
 ·exact placeOf_calc3 r a b n w
 ·exact placeOf_calc4 r a b n w
 ·exact placeOf_calc5 r a b n w
 ·exact placeOf_send r a b n w
 ·exact placeOf_take r a b n w
 ·exact placeOf_print r a b n w
 ·exact placeOf_jump r a b n w
 ·exact placeOf_zero r a b n w
 ·exact placeOf_end r a b n w
theorem eventOf_right (o r a b n r0 r1 r2 r3 : Int) (w : World) (h1 : 1 ≤ o) (h2 : o ≤ 11) (h3 : 0 ≤ a) (h4 : a ≤ 3) :
  Calls Tryz.prog 146 #[placeV o r a b n, regV r0 r1 r2 r3] w fun e w' => e = .returned (evV (evK o) (evP o n) (evW o a [r0, r1, r2, r3])) ∧ Below w.heap.size w w' := by
 rcases opCases o with g | rfl | rfl | rfl | rfl | rfl | rfl | rfl | rfl | rfl | rfl | rfl
 ·omega
 ·exact eventOf_set r n r0 r1 r2 r3 w
 ·exact eventOf_calc 2 r a b r0 r1 r2 r3 w
 ·exact eventOf_calc 3 r a b r0 r1 r2 r3 w
 ·exact eventOf_calc 4 r a b r0 r1 r2 r3 w
 ·exact eventOf_calc 5 r a b r0 r1 r2 r3 w
 ·exact eventOf_send n a r0 r1 r2 r3 w h3 h4
 ·exact eventOf_take r n r0 r1 r2 r3 w
 ·exact eventOf_print a r0 r1 r2 r3 w h3 h4
 ·exact eventOf_jump n r0 r1 r2 r3 w
 ·exact eventOf_zero a n r0 r1 r2 r3 w
 ·exact eventOf_end r0 r1 r2 r3 w
theorem grown_drewN {w w' : World} {row : Option Nat} (h : w.grownBy w' row) (n : Nat) : w.grownBy (w'.drewN n) row := ⟨h.os, h.tape, h.output, h.size, h.block⟩
theorem grown_setCell {w w' : World} {row : Option Nat} (h : w.grownBy w' row) {p : Addr} (hp : row = some p.block ∨ w.heap.size ≤ p.block) (v : Value) : w.grownBy (w'.setCell p v) row :=
 ⟨h.os, h.tape, h.output, by simpa using h.size, fun k hk hne => by
  rw [Below.heap_setCell w' p v k (fun e => by
   subst e
   rcases hp with hp | hp
   ·exact hne hp.symm
   ·omega)]
  exact h.block k hk hne⟩
end Go.Proofs.YtjbocfjeobkclaaGreatDoor
