/- The walks of the program's canCome and settled. -/
import Derived.Test.YtdigofhceahpdaaGreatDoorSb11
import Derived.Test.YtdigofhceahpdaaGreatDoorSb15
import Derived.Test.YtdigofhceahpdaaGreatDoorSb16
namespace Go.Proofs.YtdigofhceahpdaaGreatDoor
open Go.RowKit Go.Deep
set_option maxRecDepth 100000 in
set_option maxHeartbeats 1000000 in
theorem toInsS_free (b off len cap : Nat) (g : Nat → I5) (w : World) (hlen : len ≤ 1048576) (hb : b < w.heap.size) (hc : InsAt w b off len g) :
   Calls Tryz.prog 25 #[.slice (some ⟨b, off, none⟩) len cap] w fun e w' => e = .returned (.slice (some ⟨w.heap.size, 0, none⟩) len len) ∧ InsAt w' w.heap.size 0 len g ∧ w.heap.size < w'.heap.size ∧ Below w.heap.size w w' ∧ ∀ j, w'.frozen? ⟨w.heap.size, j, none⟩ = false := by
 have hl' : (len : Int) ≤ 1048576 := by omega
 have hmk := run_make_ins len hlen
 have HC : Hid (InsAt w b off len g) := hc
 clear hc
 go_enter Tryz.func25, Tryz.ntmps25
 go_wp2_with fail
 clear hmk
 go_loopw [4] (fun i wr => ∃ k : Nat, k ≤ len ∧ i = .int .i64 k ∧ (∃ f, wr.rowIs w.heap.size 60 (len * 5) f ∧ Hid (Filled f g k)) ∧ Below w.heap.size w wr) (fun i _ => len - (intOf i).toNat)
 case atStart => exact ⟨0, Nat.zero_le _, rfl, ⟨_, madeIns_row w len, fun i hi => by omega⟩, (Below.refl _ _).alloc (Nat.le_refl _) _⟩
 case round =>
   obtain ⟨k, hk, rfl, ⟨f, hrow, HF⟩, hbw⟩ := hrel
   have hs := hrow.lt
   by_cases hlt : k < len
   · obtain ⟨c0, c1, c2, c3, c4⟩ := HC.out.below hbw hb k hlt
     have HR : Hid (wr.rowIs w.heap.size 60 (len * 5) f) := hrow
     clear hrow
     go_wp2_with fail
     refine (toIns_any _ _ _ _ _ _).mono ?_
     rintro e w1 ⟨rfl, hb1⟩
     have hr1 : w1.rowIs w.heap.size 60 (len * 5) f := HR.out.of_block (hb1.block _ hs)
     have f0 := hr1.frozen (k * 5)
     have f1 := hr1.frozen (k * 5 + 1)
     have f2 := hr1.frozen (k * 5 + 2)
     have f3 := hr1.frozen (k * 5 + 3)
     have f4 := hr1.frozen (k * 5 + 4)
     have g0 := hr1.cell (i := k * 5) (by omega)
     have g1 := hr1.cell (i := k * 5 + 1) (by omega)
     have g2 := hr1.cell (i := k * 5 + 2) (by omega)
     have g3 := hr1.cell (i := k * 5 + 3) (by omega)
     have g4 := hr1.cell (i := k * 5 + 4) (by omega)
     have HR1 : Hid (w1.rowIs w.heap.size 60 (len * 5) f) := hr1
     clear hr1
     go_wp2_with fail
     exact ⟨⟨k + 1, by omega, by go_num, Filled.step HR1.out HF.out, (((((hbw.trans (hb1.mono (Nat.le_of_lt hs))).setCell (Nat.le_refl _) _).setCell (Nat.le_refl _) _).setCell (Nat.le_refl _) _).setCell (Nat.le_refl _) _).setCell (Nat.le_refl _) _⟩, by simp [intOf]; omega⟩
   · have hkl : k = len := by omega
     have HI : Hid (InsAt wr w.heap.size 0 len g) := by
       have := HF.out.at hrow hk
       rw [hkl] at this
       exact this
     have HZ : Hid (∀ j, wr.frozen? ⟨w.heap.size, j, none⟩ = false) := fun j => hrow.frozen j
     clear hkl HF hrow
     go_wp2
     go_ret
     exact ⟨rfl, HI.out, hs, hbw, HZ.out⟩
set_option maxRecDepth 100000 in
set_option maxRecDepth 100000 in
set_option maxHeartbeats 1000000 in
theorem toInsS_freeEmpty (a0 : Option Addr) (cap : Nat) (g : Nat → I5) (w : World) :
   Calls Tryz.prog 25 #[.slice a0 0 cap] w fun e w' => e = .returned (.slice (some ⟨w.heap.size, 0, none⟩) 0 0) ∧ InsAt w' w.heap.size 0 0 g ∧ w.heap.size < w'.heap.size ∧ Below w.heap.size w w' ∧ ∀ j, w'.frozen? ⟨w.heap.size, j, none⟩ = false := by
 have hmk : ∀ w : World, (Instr.makeSlice 57 (.int .i64 0) (.int .i64 0)).run Tryz.prog w = .ok (.slice (some ⟨w.heap.size, 0, none⟩) 0 0) (w.alloc (.cells (madeCells (insV 0 0 0 0 0).cells (0 * 5)) 60)) := fun w => run_make_ins 0 (by omega) w
 go_enter Tryz.func25, Tryz.ntmps25
 go_wp2_with fail
 clear hmk
 go_rounds 1
 go_ret
 exact ⟨rfl, fun i hi => by omega, by simp, (Below.refl _ _).alloc (Nat.le_refl _) _, fun j => new_frozen _ _ _ j rfl⟩
def CopiesF (w : World) (a0 : Option Addr) (len cap : Nat) (g : Nat → I5) : Prop := ∀ wx, Below w.heap.size w wx →
 Calls Tryz.prog 25 #[.slice a0 len cap] wx fun e w' => e = .returned (.slice (some ⟨wx.heap.size, 0, none⟩) len len) ∧ InsAt w' wx.heap.size 0 len g ∧ wx.heap.size < w'.heap.size ∧ Below wx.heap.size wx w' ∧ ∀ j, w'.frozen? ⟨wx.heap.size, j, none⟩ = false
theorem copiesF_of {W : World} {a0 : Option Addr} {len cap : Nat} (hl : len ≤ 1048576) (hr : len = 0 ∨ ∃ b off g, a0 = some ⟨b, off, none⟩ ∧ b < W.heap.size ∧ InsAt W b off len g) : ∃ g, CopiesF W a0 len cap g := by
 rcases hr with rfl | ⟨b, off, g, rfl, hb, hI⟩
 · exact ⟨fun _ => ⟨0, 0, 0, 0, 0⟩, fun wx _ => toInsS_freeEmpty a0 cap _ wx⟩
 · exact ⟨g, fun wx hB => toInsS_free b off len cap g wx hl (Nat.lt_of_lt_of_le hb hB.size) (hI.below hB hb)⟩
def Room (w : World) (b len : Nat) : Prop := (∀ i, i < len * 5 → ∃ u, w.cell? ⟨b, i, none⟩ = some u) ∧ ∀ j, w.frozen? ⟨b, j, none⟩ = false
end Go.Proofs.YtdigofhceahpdaaGreatDoor
namespace Go.Proofs.YtdigofhceahpdaaGreatDoor
open Go.RowKit
set_option maxHeartbeats 1000000 in
theorem canCome_any (nk np nv k q v : Int) (w : World) :
   Calls Tryz.prog 147 #[evV nk np nv, evV k q v] w fun e w' => e = .returned (.bool (canB nk np nv k q v)) ∧ Below w.heap.size w w' := by
 have he := fun wx => eql_ev k q v nk np nv wx
 by_cases c1 : nk = 3
 case neg =>
   have c1' : (nk != 3) = true := by simpa using c1
   by_cases c2 : nk = 0
   · subst c2
     have hv : Hid (canB 0 np nv k q v = false) := by simp [Hid, canB]
     go_enter Tryz.func147, Tryz.ntmps147
     go_wp2_with (first | (go_at_call 164; refine (isNum_any _ _).mono ?_; rintro e w' ⟨rfl, rfl⟩) | (go_at_call 95; refine (isBelow_any _ _ _).mono ?_; rintro e w' ⟨rfl, rfl⟩))
     refine bodyPost_ret (v := .bool (false)) (by simp [results, Tryz.results147, go_sem]) rfl ⟨by rw [hv.out], ?_⟩
     go_grown
   · have c2' : (nk != 0) = true := by simpa using c2
     have hv : Hid (canB nk np nv k q v = evEqB k q v nk np nv) := by simp [Hid, canB, evEqB, c1, c2']
     clear c1 c2
     go_enter Tryz.func147, Tryz.ntmps147
     go_wp2_with (first | (go_at_call 164; refine (isNum_any _ _).mono ?_; rintro e w' ⟨rfl, rfl⟩) | (go_at_call 95; refine (isBelow_any _ _ _).mono ?_; rintro e w' ⟨rfl, rfl⟩))
     refine bodyPost_ret (v := .bool (evEqB k q v nk np nv)) (by simp [results, Tryz.results147, go_sem]) rfl ⟨by rw [hv.out], ?_⟩
     go_grown
 subst c1
 by_cases c2 : k = 3
 case neg =>
   have c2' : (k != 3) = true := by simpa using c2
   have hv : Hid (canB 3 np nv k q v = false) := by simp [Hid, canB, c2]
   clear c2
   go_enter Tryz.func147, Tryz.ntmps147
   go_wp2_with (first | (go_at_call 164; refine (isNum_any _ _).mono ?_; rintro e w' ⟨rfl, rfl⟩) | (go_at_call 95; refine (isBelow_any _ _ _).mono ?_; rintro e w' ⟨rfl, rfl⟩))
   refine bodyPost_ret (v := .bool (false)) (by simp [results, Tryz.results147, go_sem]) rfl ⟨by rw [hv.out], ?_⟩
   go_grown
 subst c2
 rcases Bool.eq_false_or_eq_true (numB v) with c3 | c3
 case inr =>
   have hv : Hid (canB 3 np nv 3 q v = false) := by simp [Hid, canB, c3]
   have c3' : inB v (-1000000000) 1000000000 = false := c3
   clear c3
   go_enter Tryz.func147, Tryz.ntmps147
   go_wp2_with (first | (go_at_call 164; refine (isNum_any _ _).mono ?_; rintro e w' ⟨rfl, rfl⟩) | (go_at_call 95; refine (isBelow_any _ _ _).mono ?_; rintro e w' ⟨rfl, rfl⟩))
   refine bodyPost_ret (v := .bool (false)) (by simp [results, Tryz.results147, go_sem]) rfl ⟨by rw [hv.out], ?_⟩
   go_grown
 by_cases c4 : np = 9
 · subst c4
   have hv : Hid (canB 3 9 nv 3 q v = belB q 4) := by simp [Hid, canB, c3]
   have c3' : inB v (-1000000000) 1000000000 = true := c3
   clear c3
   go_enter Tryz.func147, Tryz.ntmps147
   go_wp2_with (first | (go_at_call 164; refine (isNum_any _ _).mono ?_; rintro e w' ⟨rfl, rfl⟩) | (go_at_call 95; refine (isBelow_any _ _ _).mono ?_; rintro e w' ⟨rfl, rfl⟩))
   refine bodyPost_ret (v := .bool (belB q 4)) (by simp [results, Tryz.results147, go_sem]) rfl ⟨by rw [hv.out], ?_⟩
   go_grown
 · have c4' : (np == 9) = false := by simpa using c4
   have hv : Hid (canB 3 np nv 3 q v = (q == np)) := by simp [Hid, canB, c3, c4]
   have c3' : inB v (-1000000000) 1000000000 = true := c3
   clear c3 c4
   go_enter Tryz.func147, Tryz.ntmps147
   go_wp2_with (first | (go_at_call 164; refine (isNum_any _ _).mono ?_; rintro e w' ⟨rfl, rfl⟩) | (go_at_call 95; refine (isBelow_any _ _ _).mono ?_; rintro e w' ⟨rfl, rfl⟩))
   refine bodyPost_ret (v := .bool (q == np)) (by simp [results, Tryz.results147, go_sem]) rfl ⟨by rw [hv.out], ?_⟩
   go_grown
end Go.Proofs.YtdigofhceahpdaaGreatDoor
