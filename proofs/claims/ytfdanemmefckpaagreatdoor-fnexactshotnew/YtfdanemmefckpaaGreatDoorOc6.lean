/- The walks of the model's l2Fault and l2Go. -/
import Derived.Test.YtfdanemmefckpaaGreatDoorOc0
import Derived.Test.YtfdanemmefckpaaGreatDoorOc2
import Derived.Test.YtfdanemmefckpaaGreatDoorOc3
import Derived.Test.YtfdanemmefckpaaGreatDoorOc4
import Derived.Test.YtfdanemmefckpaaGreatDoorOc5
import Derived.Test.YtfdanemmefckpaaGreatDoorRows
import Derived.WalkKit
import Derived.WalkSpells
import Derived.WalkLawsBesides
import Derived.Handy
import Derived.Deep.QuietTactic
import Derived.BigQuiet
import Derived.Maps.AppendAt
namespace Go.Proofs.YtfdanemmefckpaaGreatDoor
set_option maxRecDepth 100000
set_option maxHeartbeats 4000000
open Go.RowKit
def opOkB (op r a b n places procs : Int) : Bool :=
 if op = 1 then inB n (-1000000000) 1000000000 && a == 0 && b == 0
 else if op = 2 then n == 0
 else if op = 3 then n == 0
 else if op = 4 then n == 0
 else if op = 5 then n == 0
 else if op = 6 then inB n 0 (procs - 1) && r == 0 && b == 0
 else if op = 7 then (inB n 0 (procs - 1) || n == 9) && a == 0 && b == 0
 else if op = 8 then r == 0 && b == 0 && n == 0
 else if op = 9 then belB n places && r == 0 && a == 0 && b == 0
 else if op = 10 then belB n places && r == 0 && b == 0
 else if op = 11 then r == 0 && a == 0 && b == 0 && n == 0
 else false
def insOkB (op r a b n places procs : Int) : Bool := (inB r 0 3 && inB a 0 3 && inB b 0 3 && inB procs 1 4) && opOkB op r a b n places procs
theorem opCases (op : Int) : (op < 1 ∨ 11 < op) ∨ op = 1 ∨ op = 2 ∨ op = 3 ∨ op = 4 ∨ op = 5 ∨ op = 6 ∨ op = 7 ∨ op = 8 ∨ op = 9 ∨ op = 10 ∨ op = 11 := by omega
theorem opOkB_none (op r a b n places procs : Int) (h : op < 1 ∨ 11 < op) : opOkB op r a b n places procs = false := by
 unfold opOkB
 rw [if_neg (by omega), if_neg (by omega), if_neg (by omega), if_neg (by omega), if_neg (by omega), if_neg (by omega), if_neg (by omega), if_neg (by omega), if_neg (by omega), if_neg (by omega), if_neg (by omega)]
theorem specInsOk_p (op r a b n places procs : Int) (w : World) (h1 : inB r 0 3 = true) (h2 : inB a 0 3 = true) (h3 : inB b 0 3 = true) (h4 : inB procs 1 4 = true) (h5 : 1 ≤ procs) (h6 : procs ≤ 4) (g : op = 1 ∨ op = 2 ∨ op = 3 ∨ op = 4 ∨ op = 5 ∨ op = 6 ∨ op = 7 ∨ op = 8 ∨ op = 9 ∨ op = 10 ∨ op = 11) :
  Calls Tryz.prog 152 #[insV op r a b n, .int .i64 places, .int .i64 procs] w fun e w' => e = .returned (.bool (opOkB op r a b n places procs)) ∧ Below w.heap.size w w' := by
 rcases g with rfl | rfl | rfl | rfl | rfl | rfl | rfl | rfl | rfl | rfl | rfl
 all_goals
  go_enter Tryz.func152, Tryz.ntmps152
  go_wp2_with (first | (go_at_call 51; refine (l1In_any _ _ _ _).mono ?_; rintro e w' ⟨rfl, rfl⟩) | (go_at_call 154; refine (l1Num_any _ _).mono ?_; rintro e w' ⟨rfl, rfl⟩))
  all_goals
   go_ret
   refine ⟨ret_bool ?_, by go_grown⟩
   first | rfl | (simp [*, opOkB, belB]; done) | (simp [*, opOkB, belB]; omega)
theorem specInsOk_any (op r a b n places procs : Int) (w : World) :
  Calls Tryz.prog 152 #[insV op r a b n, .int .i64 places, .int .i64 procs] w fun e w' => e = .returned (.bool (insOkB op r a b n places procs)) ∧ Below w.heap.size w w' := by
 rcases Bool.eq_false_or_eq_true (inB r 0 3 && inB a 0 3 && inB b 0 3 && inB procs 1 4) with h | h
 ·have hh := h
  simp only [Bool.and_eq_true] at hh
  obtain ⟨⟨⟨h1, h2⟩, h3⟩, h4⟩ := hh
  have h5 : 1 ≤ procs := by simp [inB] at h4; omega
  have h6 : procs ≤ 4 := by simp [inB] at h4; omega
  have hv : insOkB op r a b n places procs = opOkB op r a b n places procs := by unfold insOkB; rw [h]; rfl
  rw [hv]
  rcases opCases op with g | rfl | rfl | rfl | rfl | rfl | rfl | rfl | rfl | rfl | rfl | rfl
  ·rw [opOkB_none _ _ _ _ _ _ _ g]; exact specInsOk_none op r a b n places procs w h1 h2 h3 h4 h5 h6 g
  all_goals exact specInsOk_p _ r a b n places procs w h1 h2 h3 h4 h5 h6 (by decide)
 ·have hv : insOkB op r a b n places procs = false := by unfold insOkB; rw [h]; rfl
  rw [hv]
  exact specInsOk_out op r a b n places procs w h
theorem implInsOk_out (op r a b n places procs : Int) (w : World) (h : procs < 1 ∨ 4 < procs) :
  Calls Tryz.prog 205 #[insV op r a b n, .int .i64 places, .int .i64 procs] w fun e w' => e = .returned (.bool false) ∧ Below w.heap.size w w' := by
 rcases h with h | h
 ·go_enter Tryz.func205, Tryz.ntmps205
  go_wp2
  go_ret
  exact ⟨rfl, by go_grown⟩
 ·have h' : ¬ procs < 1 := by omega
  go_enter Tryz.func205, Tryz.ntmps205
  go_wp2
  go_ret
  exact ⟨rfl, by go_grown⟩
theorem implInsOk_none (op r a b n places procs : Int) (w : World) (h5 : 1 ≤ procs) (h6 : procs ≤ 4) (h : op < 1 ∨ 11 < op) :
  Calls Tryz.prog 205 #[insV op r a b n, .int .i64 places, .int .i64 procs] w fun e w' => e = .returned (.bool false) ∧ Below w.heap.size w w' := by
 go_enter Tryz.func205, Tryz.ntmps205
 go_wp2_with (go_at_call 196; refine (placeOf_none _ _ _ _ _ _ h).mono ?_; rintro e w1 ⟨rfl, hb1⟩)
 first | (go_region_with (fail)) | fail
 all_goals
  go_wp2
  go_ret
  exact ⟨rfl, implIns_below1 hb1⟩
theorem implInsOk_any (op r a b n places procs : Int) (w : World) :
  Calls Tryz.prog 205 #[insV op r a b n, .int .i64 places, .int .i64 procs] w fun e w' => e = .returned (.bool (insOkB op r a b n places procs)) ∧ Below w.heap.size w w' := by
 by_cases hp : procs < 1 ∨ 4 < procs
 ·have hv : insOkB op r a b n places procs = false := by simp [insOkB, inB]; omega
  rw [hv]
  exact implInsOk_out op r a b n places procs w hp
 ·have h5 : 1 ≤ procs := by omega
  have h6 : procs ≤ 4 := by omega
  rcases opCases op with g | rfl | rfl | rfl | rfl | rfl | rfl | rfl | rfl | rfl | rfl | rfl
  ·have hv : insOkB op r a b n places procs = false := by unfold insOkB; rw [opOkB_none _ _ _ _ _ _ _ g]; simp
   rw [hv]
   exact implInsOk_none op r a b n places procs w h5 h6 g
  ·by_cases g0 : a = 0
   case neg =>
    have hv : insOkB 1 r a b n places procs = false := by simp [insOkB, opOkB, g0]
    rw [hv]
    exact implInsOk_set_ne r a b n places procs w h5 h6 (by simp [insEqB]; omega)
   subst g0
   by_cases g1 : b = 0
   case neg =>
    have hv : insOkB 1 r 0 b n places procs = false := by simp [insOkB, opOkB, g1]
    rw [hv]
    exact implInsOk_set_ne r 0 b n places procs w h5 h6 (by simp [insEqB]; omega)
   subst g1
   refine (implInsOk_set_eq r n places procs w h5 h6).mono ?_
   rintro e w1 ⟨rfl, hb⟩
   refine ⟨ret_bool ?_, hb⟩
   rw [Bool.eq_iff_iff]
   simp [insOkB, opOkB, inB, belB] <;> omega
  ·by_cases g0 : n = 0
   case neg =>
    have hv : insOkB 2 r a b n places procs = false := by simp [insOkB, opOkB, g0]
    rw [hv]
    exact implInsOk_calc_ne 2 r a b n places procs w h5 h6 (by omega) (by omega) (by simp [insEqB]; omega)
   subst g0
   refine (implInsOk_calc_eq 2 r a b places procs w h5 h6 (by omega) (by omega)).mono ?_
   rintro e w1 ⟨rfl, hb⟩
   refine ⟨ret_bool ?_, hb⟩
   rw [Bool.eq_iff_iff]
   simp [insOkB, opOkB, inB, belB] <;> omega
  ·by_cases g0 : n = 0
   case neg =>
    have hv : insOkB 3 r a b n places procs = false := by simp [insOkB, opOkB, g0]
    rw [hv]
    exact implInsOk_calc_ne 3 r a b n places procs w h5 h6 (by omega) (by omega) (by simp [insEqB]; omega)
   subst g0
   refine (implInsOk_calc_eq 3 r a b places procs w h5 h6 (by omega) (by omega)).mono ?_
   rintro e w1 ⟨rfl, hb⟩
   refine ⟨ret_bool ?_, hb⟩
   rw [Bool.eq_iff_iff]
   simp [insOkB, opOkB, inB, belB] <;> omega
  ·by_cases g0 : n = 0
   case neg =>
    have hv : insOkB 4 r a b n places procs = false := by simp [insOkB, opOkB, g0]
    rw [hv]
    exact implInsOk_calc_ne 4 r a b n places procs w h5 h6 (by omega) (by omega) (by simp [insEqB]; omega)
   subst g0
   refine (implInsOk_calc_eq 4 r a b places procs w h5 h6 (by omega) (by omega)).mono ?_
   rintro e w1 ⟨rfl, hb⟩
   refine ⟨ret_bool ?_, hb⟩
   rw [Bool.eq_iff_iff]
   simp [insOkB, opOkB, inB, belB] <;> omega
  ·by_cases g0 : n = 0
   case neg =>
    have hv : insOkB 5 r a b n places procs = false := by simp [insOkB, opOkB, g0]
    rw [hv]
    exact implInsOk_calc_ne 5 r a b n places procs w h5 h6 (by omega) (by omega) (by simp [insEqB]; omega)
   subst g0
   refine (implInsOk_calc_eq 5 r a b places procs w h5 h6 (by omega) (by omega)).mono ?_
   rintro e w1 ⟨rfl, hb⟩
   refine ⟨ret_bool ?_, hb⟩
   rw [Bool.eq_iff_iff]
   simp [insOkB, opOkB, inB, belB] <;> omega
  ·by_cases g0 : r = 0
   case neg =>
    have hv : insOkB 6 r a b n places procs = false := by simp [insOkB, opOkB, g0]
    rw [hv]
    exact implInsOk_send_ne r a b n places procs w h5 h6 (by simp [insEqB]; omega)
   subst g0
   by_cases g1 : b = 0
   case neg =>
    have hv : insOkB 6 0 a b n places procs = false := by simp [insOkB, opOkB, g1]
    rw [hv]
    exact implInsOk_send_ne 0 a b n places procs w h5 h6 (by simp [insEqB]; omega)
   subst g1
   refine (implInsOk_send_eq a n places procs w h5 h6).mono ?_
   rintro e w1 ⟨rfl, hb⟩
   refine ⟨ret_bool ?_, hb⟩
   rw [Bool.eq_iff_iff]
   simp [insOkB, opOkB, inB, belB] <;> omega
  ·by_cases g0 : a = 0
   case neg =>
    have hv : insOkB 7 r a b n places procs = false := by simp [insOkB, opOkB, g0]
    rw [hv]
    exact implInsOk_take_ne r a b n places procs w h5 h6 (by simp [insEqB]; omega)
   subst g0
   by_cases g1 : b = 0
   case neg =>
    have hv : insOkB 7 r 0 b n places procs = false := by simp [insOkB, opOkB, g1]
    rw [hv]
    exact implInsOk_take_ne r 0 b n places procs w h5 h6 (by simp [insEqB]; omega)
   subst g1
   refine (implInsOk_take_eq r n places procs w h5 h6).mono ?_
   rintro e w1 ⟨rfl, hb⟩
   refine ⟨ret_bool ?_, hb⟩
   rw [Bool.eq_iff_iff]
   simp [insOkB, opOkB, inB, belB] <;> omega
  ·by_cases g0 : r = 0
   case neg =>
    have hv : insOkB 8 r a b n places procs = false := by simp [insOkB, opOkB, g0]
    rw [hv]
    exact implInsOk_print_ne r a b n places procs w h5 h6 (by simp [insEqB]; omega)
   subst g0
   by_cases g1 : b = 0
   case neg =>
    have hv : insOkB 8 0 a b n places procs = false := by simp [insOkB, opOkB, g1]
    rw [hv]
    exact implInsOk_print_ne 0 a b n places procs w h5 h6 (by simp [insEqB]; omega)
   subst g1
   by_cases g2 : n = 0
   case neg =>
    have hv : insOkB 8 0 a 0 n places procs = false := by simp [insOkB, opOkB, g2]
    rw [hv]
    exact implInsOk_print_ne 0 a 0 n places procs w h5 h6 (by simp [insEqB]; omega)
   subst g2
   refine (implInsOk_print_eq a places procs w h5 h6).mono ?_
   rintro e w1 ⟨rfl, hb⟩
   refine ⟨ret_bool ?_, hb⟩
   rw [Bool.eq_iff_iff]
   simp [insOkB, opOkB, inB, belB] <;> omega
  ·by_cases g0 : r = 0
   case neg =>
    have hv : insOkB 9 r a b n places procs = false := by simp [insOkB, opOkB, g0]
    rw [hv]
    exact implInsOk_jump_ne r a b n places procs w h5 h6 (by simp [insEqB]; omega)
   subst g0
   by_cases g1 : a = 0
   case neg =>
    have hv : insOkB 9 0 a b n places procs = false := by simp [insOkB, opOkB, g1]
    rw [hv]
    exact implInsOk_jump_ne 0 a b n places procs w h5 h6 (by simp [insEqB]; omega)
   subst g1
   by_cases g2 : b = 0
   case neg =>
    have hv : insOkB 9 0 0 b n places procs = false := by simp [insOkB, opOkB, g2]
    rw [hv]
    exact implInsOk_jump_ne 0 0 b n places procs w h5 h6 (by simp [insEqB]; omega)
   subst g2
   refine (implInsOk_jump_eq n places procs w h5 h6).mono ?_
   rintro e w1 ⟨rfl, hb⟩
   refine ⟨ret_bool ?_, hb⟩
   rw [Bool.eq_iff_iff]
   simp [insOkB, opOkB, inB, belB] <;> omega
  ·by_cases g0 : r = 0
   case neg =>
    have hv : insOkB 10 r a b n places procs = false := by simp [insOkB, opOkB, g0]
    rw [hv]
    exact implInsOk_zero_ne r a b n places procs w h5 h6 (by simp [insEqB]; omega)
   subst g0
   by_cases g1 : b = 0
   case neg =>
    have hv : insOkB 10 0 a b n places procs = false := by simp [insOkB, opOkB, g1]
    rw [hv]
    exact implInsOk_zero_ne 0 a b n places procs w h5 h6 (by simp [insEqB]; omega)
   subst g1
   refine (implInsOk_zero_eq a n places procs w h5 h6).mono ?_
   rintro e w1 ⟨rfl, hb⟩
   refine ⟨ret_bool ?_, hb⟩
   rw [Bool.eq_iff_iff]
   simp [insOkB, opOkB, inB, belB] <;> omega
  ·by_cases g0 : r = 0
   case neg =>
    have hv : insOkB 11 r a b n places procs = false := by simp [insOkB, opOkB, g0]
    rw [hv]
    exact implInsOk_end_ne r a b n places procs w h5 h6 (by simp [insEqB]; omega)
   subst g0
   by_cases g1 : a = 0
   case neg =>
    have hv : insOkB 11 0 a b n places procs = false := by simp [insOkB, opOkB, g1]
    rw [hv]
    exact implInsOk_end_ne 0 a b n places procs w h5 h6 (by simp [insEqB]; omega)
   subst g1
   by_cases g2 : b = 0
   case neg =>
    have hv : insOkB 11 0 0 b n places procs = false := by simp [insOkB, opOkB, g2]
    rw [hv]
    exact implInsOk_end_ne 0 0 b n places procs w h5 h6 (by simp [insEqB]; omega)
   subst g2
   by_cases g3 : n = 0
   case neg =>
    have hv : insOkB 11 0 0 0 n places procs = false := by simp [insOkB, opOkB, g3]
    rw [hv]
    exact implInsOk_end_ne 0 0 0 n places procs w h5 h6 (by simp [insEqB]; omega)
   subst g3
   refine (implInsOk_end_eq places procs w h5 h6).mono ?_
   rintro e w1 ⟨rfl, hb⟩
   refine ⟨ret_bool ?_, hb⟩
   rw [Bool.eq_iff_iff]
   simp [insOkB, opOkB, inB] <;> omega
structure I5 where
 o : Int
 r : Int
 a : Int
 b : Int
 n : Int
def InsAt (w : World) (b off len : Nat) (g : Nat → I5) : Prop := ∀ i, i < len →
 w.cell? ⟨b, off + i * 5, none⟩ = some (.int .i64 (g i).o) ∧ w.cell? ⟨b, off + i * 5 + 1, none⟩ = some (.int .i64 (g i).r) ∧ w.cell? ⟨b, off + i * 5 + 2, none⟩ = some (.int .i64 (g i).a) ∧ w.cell? ⟨b, off + i * 5 + 3, none⟩ = some (.int .i64 (g i).b) ∧ w.cell? ⟨b, off + i * 5 + 4, none⟩ = some (.int .i64 (g i).n)
theorem InsAt.below {w w' : World} {B b off len : Nat} {g : Nat → I5} (h : InsAt w b off len g) (hb : Below B w w') (hB : b < B) : InsAt w' b off len g := by
 intro i hi
 obtain ⟨h0, h1, h2, h3, h4⟩ := h i hi
 exact ⟨(hb.cell hB).trans h0, (hb.cell hB).trans h1, (hb.cell hB).trans h2, (hb.cell hB).trans h3, (hb.cell hB).trans h4⟩
def okAt (g : Nat → I5) (len procs : Int) (i : Nat) : Bool := insOkB (g i).o (g i).r (g i).a (g i).b (g i).n len procs
def allOk (g : Nat → I5) (len procs : Int) (k : Nat) : Bool := (List.range k).all (okAt g len procs)
def progOkB (g : Nat → I5) (len : Nat) (procs : Int) : Bool := allOk g len procs len && (inB len 1 30 && inB procs 1 4)
theorem allOk_succ (g : Nat → I5) (len procs : Int) (k : Nat) : allOk g len procs (k + 1) = (allOk g len procs k && okAt g len procs k) := by
 simp [allOk, List.range_succ]
theorem allOk_false (g : Nat → I5) (len procs : Int) {k m : Nat} (hk : k < m) (h : okAt g len procs k = false) : allOk g len procs m = false := by
 rw [allOk, List.all_eq_false]
 exact ⟨k, List.mem_range.2 hk, by simp [h]⟩
theorem specProgOk_any (b off len cap : Nat) (g : Nat → I5) (procs : Int) (w : World) (hlen : len ≤ maxLen) (hb : b < w.heap.size) (hc : InsAt w b off len g) :
  Calls Tryz.prog 75 #[.slice (some ⟨b, off, none⟩) len cap, .int .i64 procs] w fun e w' => e = .returned (.bool (progOkB g len procs)) ∧ Below w.heap.size w w' := by
 unfold maxLen at hlen
 have HC : Hid (InsAt w b off len g) := hc
 clear hc
 go_enter Tryz.func75, Tryz.ntmps75
 go_wp2_with fail
 go_loopw [5] (fun i wr => ∃ k : Nat, k ≤ len ∧ i = .int .i64 k ∧ Hid (allOk g len procs k = true) ∧ Below w.heap.size w wr) (fun i _ => len - (intOf i).toNat)
 case atStart => exact ⟨0, Nat.zero_le _, rfl, rfl, Below.refl _ _⟩
 case round =>
  obtain ⟨k, hk, rfl, HA, hbw⟩ := hrel
  by_cases hlt : k < len
  ·obtain ⟨c0, c1, c2, c3, c4⟩ := HC.out.below hbw hb k hlt
   rcases Bool.eq_false_or_eq_true (okAt g len procs k) with ho | ho
   ·have HO : Hid (okAt g len procs k = true) := ho
    have ho' : insOkB (g k).o (g k).r (g k).a (g k).b (g k).n len procs = true := ho
    clear ho
    go_wp2_with (go_at_call 152; refine (specInsOk_any _ _ _ _ _ _ _ _).mono ?_; rintro e w1 ⟨rfl, hb1⟩)
    go_roundw
    case rel => exact ⟨k + 1, by omega, by go_num, by rw [Hid, allOk_succ, HA.out, HO.out]; rfl, hbw.trans (hb1.mono hbw.size)⟩
    case measure => simp [intOf]; omega
   ·have HO : Hid (okAt g len procs k = false) := ho
    have ho' : insOkB (g k).o (g k).r (g k).a (g k).b (g k).n len procs = false := ho
    clear ho
    go_wp2_with (go_at_call 152; refine (specInsOk_any _ _ _ _ _ _ _ _).mono ?_; rintro e w1 ⟨rfl, hb1⟩)
    go_ret
    exact ⟨ret_bool (by rw [progOkB, allOk_false g len procs hlt HO.out]; rfl), hbw.trans (hb1.mono hbw.size)⟩
  ·have hkl : k = len := by omega
   have HP : Hid (progOkB g len procs = (inB len 1 30 && inB procs 1 4)) := by
    have hA := HA.out
    rw [hkl] at hA
    rw [Hid, progOkB, hA]; rfl
   clear HA hkl
   rcases Bool.eq_false_or_eq_true (inB len 1 30) with t0 | t0
   all_goals
    go_wp2_with (go_at_call 51; refine (l1In_any _ _ _ _).mono ?_; rintro e w' ⟨rfl, rfl⟩)
    go_ret
    exact ⟨ret_bool (by rw [HP.out, t0] <;> rfl), hbw⟩
theorem implProgOk_any (b off len cap : Nat) (g : Nat → I5) (procs : Int) (w : World) (hlen : len ≤ maxLen) (hb : b < w.heap.size) (hc : InsAt w b off len g) :
  Calls Tryz.prog 160 #[.slice (some ⟨b, off, none⟩) len cap, .int .i64 procs] w fun e w' => e = .returned (.bool (progOkB g len procs)) ∧ Below w.heap.size w w' := by
 unfold maxLen at hlen
 have HC : Hid (InsAt w b off len g) := hc
 clear hc
 by_cases hr : 1 ≤ len ∧ len ≤ 30
 case neg =>
  have hv : progOkB g len procs = false := by
   rw [progOkB, show inB len 1 30 = false from by simp [inB]; omega]; simp
  rw [hv]
  clear hv
  by_cases h1 : len < 1
  ·have h1' : (len : Int) < 1 := by omega
   go_enter Tryz.func160, Tryz.ntmps160
   go_wp2
   go_ret
   exact ⟨rfl, Below.refl _ _⟩
  ·have h1' : ¬ (len : Int) < 1 := by omega
   have h2' : (30 : Int) < len := by omega
   go_enter Tryz.func160, Tryz.ntmps160
   go_wp2
   go_ret
   exact ⟨rfl, Below.refl _ _⟩
 case pos =>
 obtain ⟨r1, r2⟩ := hr
 have h1' : ¬ (len : Int) < 1 := by omega
 have h2' : ¬ (30 : Int) < len := by omega
 go_enter Tryz.func160, Tryz.ntmps160
 go_wp2_with fail
 go_loopw [17] (fun i wr => ∃ k : Nat, k ≤ len ∧ i = .int .i64 k ∧ Hid (allOk g len procs k = true) ∧ Below w.heap.size w wr) (fun i _ => len - (intOf i).toNat)
 case atStart => exact ⟨0, Nat.zero_le _, rfl, rfl, Below.refl _ _⟩
 case round =>
  obtain ⟨k, hk, rfl, HA, hbw⟩ := hrel
  have hs := hbw.size
  by_cases hlt : k < len
  ·obtain ⟨c0, c1, c2, c3, c4⟩ := HC.out.below hbw hb k hlt
   rcases Bool.eq_false_or_eq_true (okAt g len procs k) with ho | ho
   ·have HO : Hid (okAt g len procs k = true) := ho
    have ho' : insOkB (g k).o (g k).r (g k).a (g k).b (g k).n len procs = true := ho
    clear ho
    go_wp2_with (go_at_call 205; refine (implInsOk_any _ _ _ _ _ _ _ _).mono ?_; rintro e w1 ⟨rfl, hb1⟩)
    go_roundw
    case rel => exact ⟨k + 1, by omega, by go_num, by rw [Hid, allOk_succ, HA.out, HO.out]; rfl, (hbw.alloc hs _).trans (hb1.mono (by simp; omega))⟩
    case measure => simp [intOf]; omega
   ·have HO : Hid (okAt g len procs k = false) := ho
    have ho' : insOkB (g k).o (g k).r (g k).a (g k).b (g k).n len procs = false := ho
    clear ho
    go_wp2_with (go_at_call 205; refine (implInsOk_any _ _ _ _ _ _ _ _).mono ?_; rintro e w1 ⟨rfl, hb1⟩)
    go_ret
    exact ⟨ret_bool (by rw [progOkB, allOk_false g len procs hlt HO.out]; rfl), (hbw.alloc hs _).trans (hb1.mono (by simp; omega))⟩
  ·have hkl : k = len := by omega
   have h30 : inB len 1 30 = true := by simp [inB]; omega
   have HP : Hid (progOkB g len procs = true) := by
    have hA := HA.out
    rw [hkl] at hA
    have hp : inB procs 1 4 = true := by
     have h0 : okAt g len procs 0 = true := by
      have := (List.all_eq_true.1 (show (List.range len).all (okAt g len procs) = true from hA)) 0 (List.mem_range.2 (by omega))
      exact this
     simp only [okAt, insOkB, Bool.and_eq_true] at h0
     exact h0.1.2
    rw [Hid, progOkB, hA, h30, hp]; rfl
   clear HA hkl h30
   go_wp2
   go_ret
   exact ⟨ret_bool HP.out.symm, hbw⟩
attribute [local go_sem] as_set_send as_set_take as_set_print as_calc_send as_calc_take as_calc_print as_send_send as_take_send as_take_take as_print_send as_print_take as_print_print as_jump_send as_jump_take as_jump_print as_zero_send as_zero_take as_zero_print as_end_send as_end_take as_end_print
theorem eventOf_send (n a r0 r1 r2 r3 : Int) (w : World) (h0 : 0 ≤ a) (h3 : a ≤ 3) :
  Calls Tryz.prog 195 #[.iface 270 (sendV n a), regV r0 r1 r2 r3] w fun e w' => e = .returned (evV 2 n (zi [r0, r1, r2, r3] a.toNat)) ∧ Below w.heap.size w w' := by
 have ha : a = 0 ∨ a = 1 ∨ a = 2 ∨ a = 3 := by omega
 clear h0 h3
 rcases ha with rfl | rfl | rfl | rfl
 ·go_enter Tryz.func195, Tryz.ntmps195
  go_wp2_with fail
  go_region
  all_goals
   go_wp2
   refine bodyPost_ret (v := evV 2 n r0) (by simp [results, Tryz.results195, go_sem]) rfl ⟨rfl, ?_⟩
   go_grown
 ·go_enter Tryz.func195, Tryz.ntmps195
  go_wp2_with fail
  go_region
  all_goals
   go_wp2
   refine bodyPost_ret (v := evV 2 n r1) (by simp [results, Tryz.results195, go_sem]) rfl ⟨rfl, ?_⟩
   go_grown
 ·go_enter Tryz.func195, Tryz.ntmps195
  go_wp2_with fail
  go_region
  all_goals
   go_wp2
   refine bodyPost_ret (v := evV 2 n r2) (by simp [results, Tryz.results195, go_sem]) rfl ⟨rfl, ?_⟩
   go_grown
 ·go_enter Tryz.func195, Tryz.ntmps195
  go_wp2_with fail
  go_region
  all_goals
   go_wp2
   refine bodyPost_ret (v := evV 2 n r3) (by simp [results, Tryz.results195, go_sem]) rfl ⟨rfl, ?_⟩
   go_grown
theorem eventOf_take (r n r0 r1 r2 r3 : Int) (w : World) :
  Calls Tryz.prog 195 #[.iface 272 (takeV r n), regV r0 r1 r2 r3] w fun e w' => e = .returned (evV 3 n 0) ∧ Below w.heap.size w w' := by
 go_enter Tryz.func195, Tryz.ntmps195
 go_wp2
 refine bodyPost_ret (v := evV 3 n 0) (by simp [results, Tryz.results195, go_sem]) rfl ⟨rfl, ?_⟩
 go_grown
theorem eventOf_print (a r0 r1 r2 r3 : Int) (w : World) (h0 : 0 ≤ a) (h3 : a ≤ 3) :
  Calls Tryz.prog 195 #[.iface 274 (printV a), regV r0 r1 r2 r3] w fun e w' => e = .returned (evV 4 0 (zi [r0, r1, r2, r3] a.toNat)) ∧ Below w.heap.size w w' := by
 have ha : a = 0 ∨ a = 1 ∨ a = 2 ∨ a = 3 := by omega
 clear h0 h3
 rcases ha with rfl | rfl | rfl | rfl
 ·go_enter Tryz.func195, Tryz.ntmps195
  go_wp2
  refine bodyPost_ret (v := evV 4 0 r0) (by simp [results, Tryz.results195, go_sem]) rfl ⟨rfl, ?_⟩
  go_grown
 ·go_enter Tryz.func195, Tryz.ntmps195
  go_wp2
  refine bodyPost_ret (v := evV 4 0 r1) (by simp [results, Tryz.results195, go_sem]) rfl ⟨rfl, ?_⟩
  go_grown
 ·go_enter Tryz.func195, Tryz.ntmps195
  go_wp2
  refine bodyPost_ret (v := evV 4 0 r2) (by simp [results, Tryz.results195, go_sem]) rfl ⟨rfl, ?_⟩
  go_grown
 ·go_enter Tryz.func195, Tryz.ntmps195
  go_wp2
  refine bodyPost_ret (v := evV 4 0 r3) (by simp [results, Tryz.results195, go_sem]) rfl ⟨rfl, ?_⟩
  go_grown
theorem eventOf_set (r n r0 r1 r2 r3 : Int) (w : World) :
  Calls Tryz.prog 195 #[.iface 276 (setV r n), regV r0 r1 r2 r3] w fun e w' => e = .returned (evV 1 0 0) ∧ Below w.heap.size w w' := by
 go_enter Tryz.func195, Tryz.ntmps195
 go_wp2
 refine bodyPost_ret (v := evV 1 0 0) (by simp [results, Tryz.results195, go_sem]) rfl ⟨rfl, ?_⟩
 go_grown
theorem eventOf_calc (op r a b r0 r1 r2 r3 : Int) (w : World) :
  Calls Tryz.prog 195 #[.iface 278 (calcV op r a b), regV r0 r1 r2 r3] w fun e w' => e = .returned (evV 1 0 0) ∧ Below w.heap.size w w' := by
 go_enter Tryz.func195, Tryz.ntmps195
 go_wp2
 refine bodyPost_ret (v := evV 1 0 0) (by simp [results, Tryz.results195, go_sem]) rfl ⟨rfl, ?_⟩
 go_grown
theorem eventOf_jump (n r0 r1 r2 r3 : Int) (w : World) :
  Calls Tryz.prog 195 #[.iface 280 (jumpV n), regV r0 r1 r2 r3] w fun e w' => e = .returned (evV 1 0 0) ∧ Below w.heap.size w w' := by
 go_enter Tryz.func195, Tryz.ntmps195
 go_wp2
 refine bodyPost_ret (v := evV 1 0 0) (by simp [results, Tryz.results195, go_sem]) rfl ⟨rfl, ?_⟩
 go_grown
theorem eventOf_zero (a n r0 r1 r2 r3 : Int) (w : World) :
  Calls Tryz.prog 195 #[.iface 282 (zeroV a n), regV r0 r1 r2 r3] w fun e w' => e = .returned (evV 1 0 0) ∧ Below w.heap.size w w' := by
 go_enter Tryz.func195, Tryz.ntmps195
 go_wp2
 refine bodyPost_ret (v := evV 1 0 0) (by simp [results, Tryz.results195, go_sem]) rfl ⟨rfl, ?_⟩
 go_grown
theorem eventOf_end (r0 r1 r2 r3 : Int) (w : World) :
  Calls Tryz.prog 195 #[.iface 283 endV, regV r0 r1 r2 r3] w fun e w' => e = .returned (evV 1 0 0) ∧ Below w.heap.size w w' := by
 go_enter Tryz.func195, Tryz.ntmps195
 go_wp2
 refine bodyPost_ret (v := evV 1 0 0) (by simp [results, Tryz.results195, go_sem]) rfl ⟨rfl, ?_⟩
 go_grown
def evK (o : Int) : Int := if o = 6 then 2 else if o = 7 then 3 else if o = 8 then 4 else 1
def evP (o n : Int) : Int := if o = 6 then n else if o = 7 then n else 0
def evW (o a : Int) (rs : List Int) : Int := if o = 6 then zi rs a.toNat else if o = 8 then zi rs a.toNat else 0
def placeV (o r a b n : Int) : Value :=
 if o = 1 then .iface 276 (setV r n) else if o = 6 then .iface 270 (sendV n a) else if o = 7 then .iface 272 (takeV r n)
 else if o = 8 then .iface 274 (printV a) else if o = 9 then .iface 280 (jumpV n) else if o = 10 then .iface 282 (zeroV a n)
 else if o = 11 then .iface 283 endV else .iface 278 (calcV o r a b)
theorem placeOf_right (o r a b n : Int) (w : World) (h1 : 1 ≤ o) (h2 : o ≤ 11) :
  Calls Tryz.prog 196 #[insV o r a b n] w fun e w' => e = .returned (placeV o r a b n) ∧ Below w.heap.size w w' := by
 rcases opCases o with g | rfl | rfl | rfl | rfl | rfl | rfl | rfl | rfl | rfl | rfl | rfl
 ·omega
 ·exact placeOf_set r a b n w
 ·exact placeOf_calc2 r a b n w
 ·exact placeOf_calc3 r a b n w
 ·exact placeOf_calc4 r a b n w
 ·exact placeOf_calc5 r a b n w
 ·exact placeOf_send r a b n w
 ·exact placeOf_take r a b n w
 ·exact placeOf_print r a b n w
 ·exact placeOf_jump r a b n w
 ·exact placeOf_zero r a b n w
 ·exact placeOf_end r a b n w
theorem eventOf_right (o r a b n r0 r1 r2 r3 : Int) (w : World) (h1 : 1 ≤ o) (h2 : o ≤ 11) (h3 : 0 ≤ a) (h4 : a ≤ 3) :
  Calls Tryz.prog 195 #[placeV o r a b n, regV r0 r1 r2 r3] w fun e w' => e = .returned (evV (evK o) (evP o n) (evW o a [r0, r1, r2, r3])) ∧ Below w.heap.size w w' := by
 rcases opCases o with g | rfl | rfl | rfl | rfl | rfl | rfl | rfl | rfl | rfl | rfl | rfl
 ·omega
 ·exact eventOf_set r n r0 r1 r2 r3 w
 ·exact eventOf_calc 2 r a b r0 r1 r2 r3 w
 ·exact eventOf_calc 3 r a b r0 r1 r2 r3 w
 ·exact eventOf_calc 4 r a b r0 r1 r2 r3 w
 ·exact eventOf_calc 5 r a b r0 r1 r2 r3 w
 ·exact eventOf_send n a r0 r1 r2 r3 w h3 h4
 ·exact eventOf_take r n r0 r1 r2 r3 w
 ·exact eventOf_print a r0 r1 r2 r3 w h3 h4
 ·exact eventOf_jump n r0 r1 r2 r3 w
 ·exact eventOf_zero a n r0 r1 r2 r3 w
 ·exact eventOf_end r0 r1 r2 r3 w
def rightB (g : Nat → I5) (len : Nat) (p : Int) (rs os : List Int) (code : Int) : Bool := progOkB g len 4 && stOkB len p rs os code && (code == 0)
def nxK (g : Nat → I5) (len : Nat) (p : Int) (rs os : List Int) (code : Int) : Int := if rightB g len p rs os code = true then evK (g p.toNat).o else 0
def nxP (g : Nat → I5) (len : Nat) (p : Int) (rs os : List Int) (code : Int) : Int := if rightB g len p rs os code = true then evP (g p.toNat).o (g p.toNat).n else 0
def nxW (g : Nat → I5) (len : Nat) (p : Int) (rs os : List Int) (code : Int) : Int := if rightB g len p rs os code = true then evW (g p.toNat).o (g p.toNat).a rs else 0
theorem next_wrong {g : Nat → I5} {len : Nat} {p : Int} {rs os : List Int} {code : Int} (h : rightB g len p rs os code = false) : evV (nxK g len p rs os code) (nxP g len p rs os code) (nxW g len p rs os code) = evV 0 0 0 := by
 simp [nxK, nxP, nxW, h]
theorem next_right {g : Nat → I5} {len k : Nat} {rs os : List Int} {code : Int} (h : rightB g len (k : Int) rs os code = true) : evV (nxK g len k rs os code) (nxP g len k rs os code) (nxW g len k rs os code) = evV (evK (g k).o) (evP (g k).o (g k).n) (evW (g k).o (g k).a rs) := by
 simp [nxK, nxP, nxW, h]
theorem ret_ev {a b : Value} (h : a = b) : Ending.returned a = .returned b := by rw [h]
theorem right_ins {g : Nat → I5} {len : Nat} {procs : Int} (h : progOkB g len procs = true) {k : Nat} (hk : k < len) : insOkB (g k).o (g k).r (g k).a (g k).b (g k).n len procs = true := by
 simp only [progOkB, Bool.and_eq_true] at h
 have h1 := h.1
 rw [allOk, List.all_eq_true] at h1
 exact h1 k (List.mem_range.2 hk)
theorem ins_range {o r a b n places procs : Int} (h : insOkB o r a b n places procs = true) : (1 ≤ o ∧ o ≤ 11) ∧ (0 ≤ r ∧ r ≤ 3) ∧ (0 ≤ a ∧ a ≤ 3) ∧ (0 ≤ b ∧ b ≤ 3) := by
 simp only [insOkB, Bool.and_eq_true] at h
 obtain ⟨⟨⟨⟨h1, h2⟩, h3⟩, _⟩, h5⟩ := h
 simp only [inB, decide_eq_true_eq] at h1 h2 h3
 refine ⟨?_, h1, h2, h3⟩
 apply Classical.byContradiction
 intro hn
 rw [opOkB_none _ _ _ _ _ _ _ (by omega)] at h5
 cases h5
theorem right_parts {g : Nat → I5} {len : Nat} {p : Int} {rs os : List Int} {code : Int} (h : rightB g len p rs os code = true) : progOkB g len 4 = true ∧ stOkB len p rs os code = true ∧ code = 0 := by
 simp only [rightB, Bool.and_eq_true, beq_iff_eq] at h
 exact ⟨h.1.1, h.1.2, h.2⟩
theorem st_parts {n : Nat} {p : Int} {rs os : List Int} {code : Int} (h : stOkB n p rs os code = true) : (∃ r0 r1 r2 r3, rs = [r0, r1, r2, r3] ∧ numB r0 = true ∧ numB r1 = true ∧ numB r2 = true ∧ numB r3 = true) ∧ (∃ k : Nat, p = k ∧ k < n) ∧ os.length ≤ 60 ∧ allN os = true := by
 simp only [stOkB, regsB, outB, Bool.and_eq_true, beq_iff_eq, decide_eq_true_eq] at h
 obtain ⟨⟨⟨⟨h4, hr⟩, _⟩, hp⟩, h60, ho⟩ := h
 have h4' : rs.length = 4 := by omega
 refine ⟨?_, ?_, by omega, ho⟩
 ·match rs, h4' with
  | [r0, r1, r2, r3], _ =>
   simp only [allN, List.all_cons, List.all_nil, Bool.and_eq_true, and_true] at hr
   exact ⟨r0, r1, r2, r3, rfl, hr⟩
 ·simp only [belB, decide_eq_true_eq] at hp
  obtain ⟨k, rfl⟩ := Int.eq_ofNat_of_zero_le hp.1
  exact ⟨k, rfl, by omega⟩
theorem nextIn_wrong (b off len cap : Nat) (g : Nat → I5) (p code : Int) (ra oa : Option Addr) (rc oc : Nat) (rs os : List Int) (w : World) (ho : os.length ≤ 1048576) (h1 : Sl w ra rs) (h2 : Sl w oa os) (t2 : progOkB g len 4 = true) (hw : rightB g len p rs os code = false) :
  Calls Tryz.prog 145 #[.slice (some ⟨b, off, none⟩) len cap, stV p ra rs.length rc oa os.length oc code] w fun e w' => e = .returned (evV 0 0 0) ∧ Below w.heap.size w w' := by
 have H1 : Hid (Sl w ra rs) := h1
 have H2 : Hid (Sl w oa os) := h2
 clear h1 h2
 rcases Bool.eq_false_or_eq_true (code != 0) with t0 | t0
 ·clear hw t2
  go_enter Tryz.func145, Tryz.ntmps145
  go_wp2
  refine bodyPost_ret (v := evV 0 0 0) (by simp [results, Tryz.results145, go_sem]) rfl ⟨rfl, ?_⟩
  go_grown
 have hc : (code == 0) = true := by simpa using t0
 have t1 : stOkB len p rs os code = false := by
  simp only [rightB, t2, hc, Bool.and_true, Bool.true_and] at hw
  exact hw
 clear hw hc t2
 go_enter Tryz.func145, Tryz.ntmps145
 go_wp2_with fail
 refine (implStateOk_any _ _ _ _ _ _ _ _ _ rs os _ ho (H1.out.below (by go_grown)) (H2.out.below (by go_grown))).mono ?_
 rintro e w1 ⟨rfl, b1⟩
 have B1 : Hid (Below w.heap.size w w1) := below_up (by go_grown) b1 (by simp; omega)
 obtain ⟨hc1, hf1⟩ := bcell b1
 clear b1
 go_wp2
 refine bodyPost_ret (v := evV 0 0 0) (by simp [results, Tryz.results145, go_sem, hc1]) rfl ⟨rfl, ?_⟩
 have := B1.out
 go_grown
def calcN (o a b n : Int) : Int := if o = 1 then n else if o = 2 then a + b else if o = 3 then a - b else if o = 4 then a * b else if a < b then 1 else 0
def goP (len : Nat) (p : Int) : Int := if (len : Int) ≤ p + 1 then p else p + 1
def goC (len : Nat) (p code : Int) : Int := if (len : Int) ≤ p + 1 then 2 else code
structure S4 where
 p : Int
 rs : List Int
 os : List Int
 c : Int
def goS (len : Nat) (p : Int) (rs os : List Int) (code : Int) : S4 := ⟨goP len p, rs, os, goC len p code⟩
def doneS (len : Nat) (x : I5) (p : Int) (rs os : List Int) (code v : Int) : S4 :=
 if x.o = 6 then goS len p rs os code
 else if x.o = 7 then goS len p (rs.set x.r.toNat v) os code
 else if x.o = 8 then (if os.length = 60 then ⟨p, rs, os, 2⟩ else goS len p rs (os ++ [v]) code)
 else if x.o = 9 then ⟨x.n, rs, os, code⟩
 else if x.o = 10 then (if zi rs x.a.toNat = 0 then ⟨x.n, rs, os, code⟩ else goS len p rs os code)
 else if x.o = 11 then ⟨p, rs, os, 1⟩
 else (if numB (calcN x.o (zi rs x.a.toNat) (zi rs x.b.toNat) x.n) = true then goS len p (rs.set x.r.toNat (calcN x.o (zi rs x.a.toNat) (zi rs x.b.toNat) x.n)) os code else ⟨p, rs, os, 2⟩)
def canB (nk np nv k p v : Int) : Bool :=
 if nk = 3 then (k == 3) && numB v && (if np = 9 then belB p 4 else p == np) else (nk != 0) && (k == nk && (p == np && v == nv))
def doB (g : Nat → I5) (len : Nat) (p : Int) (rs os : List Int) (code k q v : Int) : Bool := canB (nxK g len p rs os code) (nxP g len p rs os code) (nxW g len p rs os code) k q v
def doS (g : Nat → I5) (len : Nat) (p : Int) (rs os : List Int) (code k q v : Int) : S4 :=
 if doB g len p rs os code k q v = true then doneS len (g p.toNat) p rs os code v else ⟨p, rs, os, code⟩
theorem doB_right {g : Nat → I5} {len : Nat} {p : Int} {rs os : List Int} {code k q v : Int} (h : doB g len p rs os code k q v = true) : rightB g len p rs os code = true := by
 apply Classical.byContradiction
 intro hn
 have hn' : rightB g len p rs os code = false := by simpa using hn
 simp [doB, canB, nxK, hn'] at h
theorem mul_bound {a b : Int} (ha : numB a = true) (hb : numB b = true) : -1000000000000000000 ≤ a * b ∧ a * b ≤ 1000000000000000000 := by
 simp only [numB, inB, decide_eq_true_eq] at ha hb
 have h1 : (a.natAbs * b.natAbs : Nat) ≤ 1000000000 * 1000000000 := Nat.mul_le_mul (by omega) (by omega)
 have h2 : (a * b).natAbs = a.natAbs * b.natAbs := Int.natAbs_mul a b
 omega
theorem numB_iff {a : Int} : numB a = true ↔ -1000000000 ≤ a ∧ a ≤ 1000000000 := by simp [numB, inB]
theorem grown_drewN {w w' : World} {row : Option Nat} (h : w.grownBy w' row) (n : Nat) : w.grownBy (w'.drewN n) row := ⟨h.os, h.tape, h.output, h.size, h.block⟩
theorem grown_setCell {w w' : World} {row : Option Nat} (h : w.grownBy w' row) {p : Addr} (hp : row = some p.block ∨ w.heap.size ≤ p.block) (v : Value) : w.grownBy (w'.setCell p v) row :=
 ⟨h.os, h.tape, h.output, by simpa using h.size, fun k hk hne => by
  rw [Below.heap_setCell w' p v k (fun e => by
   subst e
   rcases hp with hp | hp
   ·exact hne hp.symm
   ·omega)]
  exact h.block k hk hne⟩
theorem grown_any {w w' : World} (h : w.grownBy w' none) (row : Option Nat) : w.grownBy w' row := ⟨h.os, h.tape, h.output, h.size, fun k hk _ => h.block k hk (by simp)⟩
theorem OwnI.drewN {w : World} {B : Nat} {v : Value} {xs : List Int} (h : OwnI w B v xs) (n : Nat) : OwnI (w.drewN n) B v xs := h
theorem OwnI.setOther {w : World} {B : Nat} {v : Value} {xs : List Int} (h : OwnI w B v xs) {p : Addr} (hne : v.ownBlock ≠ some p.block) (u : Value) : OwnI (w.setCell p u) B v xs :=
 h.kept (row := some p.block) (grown_setCell (World.grownBy.refl w _) (.inl rfl) u) (.inr hne)
theorem below_alloc (w : World) (o : Obj) : Below w.heap.size w (w.alloc o) := (Below.refl _ _).alloc (Nat.le_refl _) o
theorem l2Fault_any (p code : Int) (ra oa : Option Addr) (rn rc on oc : Nat) (w : World) :
  Calls Tryz.prog 191 #[stV p ra rn rc oa on oc code] w fun e w' => e = .returned (stV p ra rn rc oa on oc 2) ∧ Below w.heap.size w w' := by
 go_enter Tryz.func191, Tryz.ntmps191
 go_wp2
 refine bodyPost_ret (v := stV p ra rn rc oa on oc 2) (by simp [results, Tryz.results191, go_sem]) rfl ⟨rfl, ?_⟩
 go_grown
theorem l2Go_any (la : Option Addr) (len lc : Nat) (p code : Int) (ra oa : Option Addr) (rn rc on oc : Nat) (w : World) (h0 : 0 ≤ p) (h1 : p ≤ 1000000000) :
  Calls Tryz.prog 190 #[.slice la len lc, stV p ra rn rc oa on oc code] w fun e w' => e = .returned (stV (goP len p) ra rn rc oa on oc (goC len p code)) ∧ Below w.heap.size w w' := by
 by_cases hp : (len : Int) ≤ p + 1
 ·have e1 : goP len p = p := if_pos hp
  have e2 : goC len p code = 2 := if_pos hp
  rw [e1, e2]
  clear e1 e2
  go_enter Tryz.func190, Tryz.ntmps190
  go_wp2_with fail
  refine (l2Fault_any _ _ _ _ _ _ _ _ _).mono ?_
  rintro e w1 ⟨rfl, b1⟩
  have B1 : Hid (Below w.heap.size w w1) := below_up (by go_grown) b1 (by simp; omega)
  obtain ⟨hc1, hf1⟩ := bcell b1
  clear b1
  go_wp2
  refine bodyPost_ret (v := stV p ra rn rc oa on oc 2) (by simp [results, Tryz.results190, go_sem, hc1]) rfl ⟨rfl, ?_⟩
  have := B1.out
  go_grown
 ·have e1 : goP len p = p + 1 := if_neg hp
  have e2 : goC len p code = code := if_neg hp
  rw [e1, e2]
  clear e1 e2
  go_enter Tryz.func190, Tryz.ntmps190
  go_wp2
  refine bodyPost_ret (v := stV (p + 1) ra rn rc oa on oc code) (by simp [results, Tryz.results190, go_sem]) rfl ⟨rfl, ?_⟩
  go_grown
end Go.Proofs.YtfdanemmefckpaaGreatDoor
