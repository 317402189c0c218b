/- The walks of the program's canCome and settled. -/
import Derived.Test.YtbleeedbiipfnaaGreatDoorWc0
import Derived.Test.YtbleeedbiipfnaaGreatDoorWc10
import Derived.Test.YtbleeedbiipfnaaGreatDoorWc11
namespace Go.Proofs.YtbleeedbiipfnaaGreatDoor
set_option maxHeartbeats 1000000
open Go.RowKit Go.Deep
def CopiesF (w : World) (a0 : Option Addr) (len cap : Nat) (g : Nat → I5) : Prop := ∀ wx, Below w.heap.size w wx →
 Calls Tryz.prog 153 #[.slice a0 len cap] wx fun e w' => e = .returned (.slice (some ⟨wx.heap.size, 0, none⟩) len len) ∧ InsAt w' wx.heap.size 0 len g ∧ wx.heap.size < w'.heap.size ∧ Below wx.heap.size wx w' ∧ ∀ j, w'.frozen? ⟨wx.heap.size, j, none⟩ = false
def Room (w : World) (b len : Nat) : Prop := (∀ i, i < len * 5 → ∃ u, w.cell? ⟨b, i, none⟩ = some u) ∧ ∀ j, w.frozen? ⟨b, j, none⟩ = false
open Go.ChangeShapes Go.WideShapes Go.ChangeAt
structure I2 where
 m : Bool
 v : Int
abbrev itV (m : Bool) (v : Int) : Value := .agg #[.bool m, .int .i64 v]
def ItAt (w : World) (b off len : Nat) (h : Nat → I2) : Prop := ∀ i, i < len →
 w.cell? ⟨b, off + i * 2, none⟩ = some (.bool (h i).m) ∧ w.cell? ⟨b, off + i * 2 + 1, none⟩ = some (.int .i64 (h i).v)
theorem ItAt.below {w w' : World} {B b off len : Nat} {h : Nat → I2} (hh : ItAt w b off len h) (hb : Below B w w') (hB : b < B) : ItAt w' b off len h := by
 intro i hi
 obtain ⟨h0, h1⟩ := hh i hi
 exact ⟨(hb.cell hB).trans h0, (hb.cell hB).trans h1⟩
def FilledT (f : Nat → Value) (h : Nat → I2) (k : Nat) : Prop := ∀ i, i < k →
 f (i * 2) = .bool (h i).m ∧ f (i * 2 + 1) = .int .i64 (h i).v
def CopiesT (w : World) (a0 : Option Addr) (len cap : Nat) (h : Nat → I2) : Prop := ∀ wx, Below w.heap.size w wx →
 Calls Tryz.prog 155 #[.slice a0 len cap] wx fun e w' => e = .returned (.slice (some ⟨wx.heap.size, 0, none⟩) len len) ∧ ItAt w' wx.heap.size 0 len h ∧ wx.heap.size < w'.heap.size ∧ Below wx.heap.size wx w' ∧ ∀ j, w'.frozen? ⟨wx.heap.size, j, none⟩ = false
def RoomT (w : World) (b len : Nat) : Prop := (∀ i, i < len * 2 → ∃ u, w.cell? ⟨b, i, none⟩ = some u) ∧ ∀ j, w.frozen? ⟨b, j, none⟩ = false
theorem canCome_any (nk np nv k q v : Int) (w : World) :
  Calls Tryz.prog 184 #[evV nk np nv, evV k q v] w fun e w' => e = .returned (.bool (canB nk np nv k q v)) ∧ Below w.heap.size w w' := by
 have he := fun wx => eql_ev k q v nk np nv wx
 by_cases c1 : nk = 3
 case neg =>
  have c1' : (nk != 3) = true := by simpa using c1
  by_cases c2 : nk = 0
  ·subst c2
   have hv : Hid (canB 0 np nv k q v = false) := by simp [Hid, canB]
   go_enter Tryz.func184, Tryz.ntmps184
   go_wp2_with (first | (go_at_call 212; refine (isNum_any _ _).mono ?_; rintro e w' ⟨rfl, rfl⟩) | (go_at_call 52; refine (isBelow_any _ _ _).mono ?_; rintro e w' ⟨rfl, rfl⟩))
   refine bodyPost_ret (v := .bool (false)) (by simp [results, Tryz.results184, go_sem]) rfl ⟨by rw [hv.out], ?_⟩
   go_grown
  ·have c2' : (nk != 0) = true := by simpa using c2
   have hv : Hid (canB nk np nv k q v = evEqB k q v nk np nv) := by simp [Hid, canB, evEqB, c1, c2']
   clear c1 c2
   go_enter Tryz.func184, Tryz.ntmps184
   go_wp2_with (first | (go_at_call 212; refine (isNum_any _ _).mono ?_; rintro e w' ⟨rfl, rfl⟩) | (go_at_call 52; refine (isBelow_any _ _ _).mono ?_; rintro e w' ⟨rfl, rfl⟩))
   refine bodyPost_ret (v := .bool (evEqB k q v nk np nv)) (by simp [results, Tryz.results184, go_sem]) rfl ⟨by rw [hv.out], ?_⟩
   go_grown
 subst c1
 by_cases c2 : k = 3
 case neg =>
  have c2' : (k != 3) = true := by simpa using c2
  have hv : Hid (canB 3 np nv k q v = false) := by simp [Hid, canB, c2]
  clear c2
  go_enter Tryz.func184, Tryz.ntmps184
  go_wp2_with (first | (go_at_call 212; refine (isNum_any _ _).mono ?_; rintro e w' ⟨rfl, rfl⟩) | (go_at_call 52; refine (isBelow_any _ _ _).mono ?_; rintro e w' ⟨rfl, rfl⟩))
  refine bodyPost_ret (v := .bool (false)) (by simp [results, Tryz.results184, go_sem]) rfl ⟨by rw [hv.out], ?_⟩
  go_grown
 subst c2
 rcases Bool.eq_false_or_eq_true (numB v) with c3 | c3
 case inr =>
  have hv : Hid (canB 3 np nv 3 q v = false) := by simp [Hid, canB, c3]
  have c3' : inB v (-1000000000) 1000000000 = false := c3
  clear c3
  go_enter Tryz.func184, Tryz.ntmps184
  go_wp2_with (first | (go_at_call 212; refine (isNum_any _ _).mono ?_; rintro e w' ⟨rfl, rfl⟩) | (go_at_call 52; refine (isBelow_any _ _ _).mono ?_; rintro e w' ⟨rfl, rfl⟩))
  refine bodyPost_ret (v := .bool (false)) (by simp [results, Tryz.results184, go_sem]) rfl ⟨by rw [hv.out], ?_⟩
  go_grown
 by_cases c4 : np = 9
 ·subst c4
  have hv : Hid (canB 3 9 nv 3 q v = belB q 4) := by simp [Hid, canB, c3]
  have c3' : inB v (-1000000000) 1000000000 = true := c3
  clear c3
  go_enter Tryz.func184, Tryz.ntmps184
  go_wp2_with (first | (go_at_call 212; refine (isNum_any _ _).mono ?_; rintro e w' ⟨rfl, rfl⟩) | (go_at_call 52; refine (isBelow_any _ _ _).mono ?_; rintro e w' ⟨rfl, rfl⟩))
  refine bodyPost_ret (v := .bool (belB q 4)) (by simp [results, Tryz.results184, go_sem]) rfl ⟨by rw [hv.out], ?_⟩
  go_grown
 ·have c4' : (np == 9) = false := by simpa using c4
  have hv : Hid (canB 3 np nv 3 q v = (q == np)) := by simp [Hid, canB, c3, c4]
  have c3' : inB v (-1000000000) 1000000000 = true := c3
  clear c3 c4
  go_enter Tryz.func184, Tryz.ntmps184
  go_wp2_with (first | (go_at_call 212; refine (isNum_any _ _).mono ?_; rintro e w' ⟨rfl, rfl⟩) | (go_at_call 52; refine (isBelow_any _ _ _).mono ?_; rintro e w' ⟨rfl, rfl⟩))
  refine bodyPost_ret (v := .bool (q == np)) (by simp [results, Tryz.results184, go_sem]) rfl ⟨by rw [hv.out], ?_⟩
  go_grown
end Go.Proofs.YtbleeedbiipfnaaGreatDoor
