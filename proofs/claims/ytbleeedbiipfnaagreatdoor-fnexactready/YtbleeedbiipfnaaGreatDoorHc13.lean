/- The walk of the program's settled. -/
import Derived.Test.YtbleeedbiipfnaaGreatDoorHc0
import Derived.Test.YtbleeedbiipfnaaGreatDoorHc10
import Derived.Test.YtbleeedbiipfnaaGreatDoorHc12
namespace Go.Proofs.YtbleeedbiipfnaaGreatDoor
set_option maxRecDepth 100000
set_option maxHeartbeats 1000000
open Go.RowKit Go.Deep
theorem toInsS_free (b off len cap : Nat) (g : Nat → I5) (w : World) (hlen : len ≤ 1048576) (hb : b < w.heap.size) (hc : InsAt w b off len g) :
  Calls Tryz.prog 153 #[.slice (some ⟨b, off, none⟩) len cap] w fun e w' => e = .returned (.slice (some ⟨w.heap.size, 0, none⟩) len len) ∧ InsAt w' w.heap.size 0 len g ∧ w.heap.size < w'.heap.size ∧ Below w.heap.size w w' ∧ ∀ j, w'.frozen? ⟨w.heap.size, j, none⟩ = false := by
 have hl' : (len : Int) ≤ 1048576 := by omega
 have hmk := run_make_ins len hlen
 have HC : Hid (InsAt w b off len g) := hc
 clear hc
 go_enter Tryz.func153, Tryz.ntmps153
 go_wp2_with fail
 clear hmk
 go_loopw [4] (fun i wr => ∃ k : Nat, k ≤ len ∧ i = .int .i64 k ∧ (∃ f, wr.rowIs w.heap.size 136 (len * 5) f ∧ Hid (Filled f g k)) ∧ Below w.heap.size w wr) (fun i _ => len - (intOf i).toNat)
 case atStart => exact ⟨0, Nat.zero_le _, rfl, ⟨_, madeIns_row w len, fun i hi => by omega⟩, (Below.refl _ _).alloc (Nat.le_refl _) _⟩
 case round =>
  obtain ⟨k, hk, rfl, ⟨f, hrow, HF⟩, hbw⟩ := hrel
  have hs := hrow.lt
  by_cases hlt : k < len
  ·obtain ⟨c0, c1, c2, c3, c4⟩ := HC.out.below hbw hb k hlt
   have HR : Hid (wr.rowIs w.heap.size 136 (len * 5) f) := hrow
   clear hrow
   go_wp2_with fail
   refine (toIns_any _ _ _ _ _ _).mono ?_
   rintro e w1 ⟨rfl, hb1⟩
   have hr1 : w1.rowIs w.heap.size 136 (len * 5) f := HR.out.of_block (hb1.block _ hs)
   have f0 := hr1.frozen (k * 5)
   have f1 := hr1.frozen (k * 5 + 1)
   have f2 := hr1.frozen (k * 5 + 2)
   have f3 := hr1.frozen (k * 5 + 3)
   have f4 := hr1.frozen (k * 5 + 4)
   have g0 := hr1.cell (i := k * 5) (by omega)
   have g1 := hr1.cell (i := k * 5 + 1) (by omega)
   have g2 := hr1.cell (i := k * 5 + 2) (by omega)
   have g3 := hr1.cell (i := k * 5 + 3) (by omega)
   have g4 := hr1.cell (i := k * 5 + 4) (by omega)
   have HR1 : Hid (w1.rowIs w.heap.size 136 (len * 5) f) := hr1
   clear hr1
   go_wp2_with fail
   exact ⟨⟨k + 1, by omega, by go_num, Filled.step HR1.out HF.out, (((((hbw.trans (hb1.mono (Nat.le_of_lt hs))).setCell (Nat.le_refl _) _).setCell (Nat.le_refl _) _).setCell (Nat.le_refl _) _).setCell (Nat.le_refl _) _).setCell (Nat.le_refl _) _⟩, by simp [intOf]; omega⟩
  ·have hkl : k = len := by omega
   have HI : Hid (InsAt wr w.heap.size 0 len g) := by
    have := HF.out.at hrow hk
    rw [hkl] at this
    exact this
   have HZ : Hid (∀ j, wr.frozen? ⟨w.heap.size, j, none⟩ = false) := fun j => hrow.frozen j
   clear hkl HF hrow
   go_wp2
   go_ret
   exact ⟨rfl, HI.out, hs, hbw, HZ.out⟩
theorem toInsS_freeEmpty (a0 : Option Addr) (cap : Nat) (g : Nat → I5) (w : World) :
  Calls Tryz.prog 153 #[.slice a0 0 cap] w fun e w' => e = .returned (.slice (some ⟨w.heap.size, 0, none⟩) 0 0) ∧ InsAt w' w.heap.size 0 0 g ∧ w.heap.size < w'.heap.size ∧ Below w.heap.size w w' ∧ ∀ j, w'.frozen? ⟨w.heap.size, j, none⟩ = false := by
 have hmk : ∀ w : World, (Instr.makeSlice 87 (.int .i64 0) (.int .i64 0)).run Tryz.prog w = .ok (.slice (some ⟨w.heap.size, 0, none⟩) 0 0) (w.alloc (.cells (madeCells (insV 0 0 0 0 0).cells (0 * 5)) 136)) := fun w => run_make_ins 0 (by omega) w
 go_enter Tryz.func153, Tryz.ntmps153
 go_wp2_with fail
 clear hmk
 go_rounds 1
 go_ret
 exact ⟨rfl, fun i hi => by omega, by simp, (Below.refl _ _).alloc (Nat.le_refl _) _, fun j => new_frozen _ _ _ j rfl⟩
def CopiesF (w : World) (a0 : Option Addr) (len cap : Nat) (g : Nat → I5) : Prop := ∀ wx, Below w.heap.size w wx →
 Calls Tryz.prog 153 #[.slice a0 len cap] wx fun e w' => e = .returned (.slice (some ⟨wx.heap.size, 0, none⟩) len len) ∧ InsAt w' wx.heap.size 0 len g ∧ wx.heap.size < w'.heap.size ∧ Below wx.heap.size wx w' ∧ ∀ j, w'.frozen? ⟨wx.heap.size, j, none⟩ = false
theorem copiesF_of {W : World} {a0 : Option Addr} {len cap : Nat} (hl : len ≤ 1048576) (hr : len = 0 ∨ ∃ b off g, a0 = some ⟨b, off, none⟩ ∧ b < W.heap.size ∧ InsAt W b off len g) : ∃ g, CopiesF W a0 len cap g := by
 rcases hr with rfl | ⟨b, off, g, rfl, hb, hI⟩
 ·exact ⟨fun _ => ⟨0, 0, 0, 0, 0⟩, fun wx _ => toInsS_freeEmpty a0 cap _ wx⟩
 ·exact ⟨g, fun wx hB => toInsS_free b off len cap g wx hl (Nat.lt_of_lt_of_le hb hB.size) (hI.below hB hb)⟩
def Room (w : World) (b len : Nat) : Prop := (∀ i, i < len * 5 → ∃ u, w.cell? ⟨b, i, none⟩ = some u) ∧ ∀ j, w.frozen? ⟨b, j, none⟩ = false
theorem Room.set {w : World} {b len : Nat} (h : Room w b len) (p : Addr) (v : Value) : Room (w.setCell p v) b len :=
 ⟨fun i hi => (h.1 i hi).elim fun _ e => cell?_setCell_some e, fun j => by rw [World.frozen?_setCell]; exact h.2 j⟩
theorem Room.of_ins {w : World} {b len : Nat} {g : Nat → I5} (h : InsAt w b 0 len g) (hf : ∀ j, w.frozen? ⟨b, j, none⟩ = false) : Room w b len := by
 refine ⟨fun i hi => ?_, hf⟩
 obtain ⟨c0, c1, c2, c3, c4⟩ := h (i / 5) (by omega)
 simp only [Nat.zero_add] at c0 c1 c2 c3 c4
 have hh : i = i / 5 * 5 ∨ i = i / 5 * 5 + 1 ∨ i = i / 5 * 5 + 2 ∨ i = i / 5 * 5 + 3 ∨ i = i / 5 * 5 + 4 := by omega
 rcases hh with e | e | e | e | e
 ·rw [e]; exact ⟨_, c0⟩
 ·rw [e]; exact ⟨_, c1⟩
 ·rw [e]; exact ⟨_, c2⟩
 ·rw [e]; exact ⟨_, c3⟩
 ·rw [e]; exact ⟨_, c4⟩
theorem markInsS_any (b len cap : Nat) (k : Int) (w : World) (hlen : len ≤ 1048576) (k0 : 0 ≤ k) (k1 : k ≤ 100000000) (h : Room w b len) :
  Calls Tryz.prog 161 #[.slice (some ⟨b, 0, none⟩) len cap, .int .i64 k] w fun e w' => e = .returned (.int .i64 (k + 5 * len)) ∧ w.grownBy w' (some b) := by
 have hl' : (len : Int) ≤ 1048576 := by omega
 have HO : Hid (Room w b len) := h
 clear h
 go_enter Tryz.func161, Tryz.ntmps161
 go_wp2_with fail
 go_loopw [1, 5] (fun q i wr => ∃ j : Nat, j ≤ len ∧ i = .int .i64 j ∧ q = .int .i64 (k + 5 * j) ∧ Hid (Room wr b len ∧ w.grownBy wr (some b))) (fun _ i _ => len - (intOf i).toNat)
 case atStart => exact ⟨0, Nat.zero_le _, rfl, by simp, HO.out, World.grownBy.refl _ _⟩
 case round =>
  clear HO
  obtain ⟨j, hj, rfl, rfl, HR⟩ := hrel
  by_cases hlt : j < len
  ·have hlt' : (j : Int) < (len : Int) := by omega
   obtain ⟨u0, c0⟩ := HR.out.1.1 (j * 5) (by omega)
   obtain ⟨u1, c1⟩ := HR.out.1.1 (j * 5 + 1) (by omega)
   obtain ⟨u2, c2⟩ := HR.out.1.1 (j * 5 + 2) (by omega)
   obtain ⟨u3, c3⟩ := HR.out.1.1 (j * 5 + 3) (by omega)
   obtain ⟨u4, c4⟩ := HR.out.1.1 (j * 5 + 4) (by omega)
   have fz := HR.out.1.2
   go_wp2
   go_roundw
   case rel =>
    refine ⟨j + 1, by omega, by go_num, by go_num, ?_⟩
    refine ⟨?_, ?_⟩
    ·repeat (refine Room.set ?_ _ _)
     exact HR.out.1
    ·repeat (refine grown_setCell ?_ (.inl rfl) _)
     exact HR.out.2
   case measure => simp [intOf]; omega
  ·have hlt' : ¬ (j : Int) < (len : Int) := by omega
   have HF : Hid (w.grownBy wr (some b)) := HR.out.2
   have hjl : (j : Int) = len := by omega
   have HJ : Hid ((j : Int) = len) := hjl
   clear HR hjl
   go_wp2
   go_ret
   exact ⟨ret_int (by rw [HJ.out]), HF.out⟩
theorem canCome_any (nk np nv k q v : Int) (w : World) :
  Calls Tryz.prog 184 #[evV nk np nv, evV k q v] w fun e w' => e = .returned (.bool (canB nk np nv k q v)) ∧ Below w.heap.size w w' := by
 have he := fun wx => eql_ev k q v nk np nv wx
 by_cases c1 : nk = 3
 case neg =>
  have c1' : (nk != 3) = true := by simpa using c1
  by_cases c2 : nk = 0
  ·subst c2
   have hv : Hid (canB 0 np nv k q v = false) := by simp [Hid, canB]
   go_enter Tryz.func184, Tryz.ntmps184
   go_wp2_with (first | (go_at_call 212; refine (isNum_any _ _).mono ?_; rintro e w' ⟨rfl, rfl⟩) | (go_at_call 52; refine (isBelow_any _ _ _).mono ?_; rintro e w' ⟨rfl, rfl⟩))
   refine bodyPost_ret (v := .bool (false)) (by simp [results, Tryz.results184, go_sem]) rfl ⟨by rw [hv.out], ?_⟩
   go_grown
  ·have c2' : (nk != 0) = true := by simpa using c2
   have hv : Hid (canB nk np nv k q v = evEqB k q v nk np nv) := by simp [Hid, canB, evEqB, c1, c2']
   clear c1 c2
   go_enter Tryz.func184, Tryz.ntmps184
   go_wp2_with (first | (go_at_call 212; refine (isNum_any _ _).mono ?_; rintro e w' ⟨rfl, rfl⟩) | (go_at_call 52; refine (isBelow_any _ _ _).mono ?_; rintro e w' ⟨rfl, rfl⟩))
   refine bodyPost_ret (v := .bool (evEqB k q v nk np nv)) (by simp [results, Tryz.results184, go_sem]) rfl ⟨by rw [hv.out], ?_⟩
   go_grown
 subst c1
 by_cases c2 : k = 3
 case neg =>
  have c2' : (k != 3) = true := by simpa using c2
  have hv : Hid (canB 3 np nv k q v = false) := by simp [Hid, canB, c2]
  clear c2
  go_enter Tryz.func184, Tryz.ntmps184
  go_wp2_with (first | (go_at_call 212; refine (isNum_any _ _).mono ?_; rintro e w' ⟨rfl, rfl⟩) | (go_at_call 52; refine (isBelow_any _ _ _).mono ?_; rintro e w' ⟨rfl, rfl⟩))
  refine bodyPost_ret (v := .bool (false)) (by simp [results, Tryz.results184, go_sem]) rfl ⟨by rw [hv.out], ?_⟩
  go_grown
 subst c2
 rcases Bool.eq_false_or_eq_true (numB v) with c3 | c3
 case inr =>
  have hv : Hid (canB 3 np nv 3 q v = false) := by simp [Hid, canB, c3]
  have c3' : inB v (-1000000000) 1000000000 = false := c3
  clear c3
  go_enter Tryz.func184, Tryz.ntmps184
  go_wp2_with (first | (go_at_call 212; refine (isNum_any _ _).mono ?_; rintro e w' ⟨rfl, rfl⟩) | (go_at_call 52; refine (isBelow_any _ _ _).mono ?_; rintro e w' ⟨rfl, rfl⟩))
  refine bodyPost_ret (v := .bool (false)) (by simp [results, Tryz.results184, go_sem]) rfl ⟨by rw [hv.out], ?_⟩
  go_grown
 by_cases c4 : np = 9
 ·subst c4
  have hv : Hid (canB 3 9 nv 3 q v = belB q 4) := by simp [Hid, canB, c3]
  have c3' : inB v (-1000000000) 1000000000 = true := c3
  clear c3
  go_enter Tryz.func184, Tryz.ntmps184
  go_wp2_with (first | (go_at_call 212; refine (isNum_any _ _).mono ?_; rintro e w' ⟨rfl, rfl⟩) | (go_at_call 52; refine (isBelow_any _ _ _).mono ?_; rintro e w' ⟨rfl, rfl⟩))
  refine bodyPost_ret (v := .bool (belB q 4)) (by simp [results, Tryz.results184, go_sem]) rfl ⟨by rw [hv.out], ?_⟩
  go_grown
 ·have c4' : (np == 9) = false := by simpa using c4
  have hv : Hid (canB 3 np nv 3 q v = (q == np)) := by simp [Hid, canB, c3, c4]
  have c3' : inB v (-1000000000) 1000000000 = true := c3
  clear c3 c4
  go_enter Tryz.func184, Tryz.ntmps184
  go_wp2_with (first | (go_at_call 212; refine (isNum_any _ _).mono ?_; rintro e w' ⟨rfl, rfl⟩) | (go_at_call 52; refine (isBelow_any _ _ _).mono ?_; rintro e w' ⟨rfl, rfl⟩))
  refine bodyPost_ret (v := .bool (q == np)) (by simp [results, Tryz.results184, go_sem]) rfl ⟨by rw [hv.out], ?_⟩
  go_grown
open Go.Sort
theorem neq_regs (a b c d a' b' c' d' : Int) (w : World) : (binOp .neq 196 (regV a b c d) (regV a' b' c' d')).run Tryz.prog w = .ok (.bool (!regEqB a b c d a' b' c' d')) w := by
 have h := eql_regs a b c d a' b' c' d' w
 simp only [binOp, Sem.run_bind, Sem.run_pure] at h ⊢
 revert h
 generalize Sem.run Tryz.prog (Op.equal 196 (regV a b c d) (regV a' b' c' d')) w = r
 cases r <;> simp (config := { contextual := true }) [Result.andThen]
theorem diF_w1 {w W : World} {v0 : Int} {v1 : Int} {v2 : Int} {v3 : Int} {v4 : Int} {v5 : Option Addr} {v6 : Nat} {v7 : Nat} {v8 : Int} {v9 : Int} {v10 : Int} {v11 : Int} {v12 : Int} {v13 : Int} {v14 : Option Addr} {v15 : Nat} {v16 : Nat} {v17 : Int} (hW : (((w.alloc (oQ0 v0 v1 v2 v3 v4 v5 v6 v7 v8)).alloc (oQ0 v9 v10 v11 v12 v13 v14 v15 v16 v17)).alloc (zQ1)) = W) : W.cell? ⟨w.heap.size, 0, none⟩ = some (.int .i64 v0) ∧ W.cell? ⟨w.heap.size, 1, none⟩ = some (.int .i64 v1) ∧ W.cell? ⟨w.heap.size, 2, none⟩ = some (.int .i64 v2) ∧ W.cell? ⟨w.heap.size, 3, none⟩ = some (.int .i64 v3) ∧ W.cell? ⟨w.heap.size, 4, none⟩ = some (.int .i64 v4) ∧ W.cell? ⟨w.heap.size, 5, none⟩ = some (.slice v5 v6 v7) ∧ W.cell? ⟨w.heap.size, 6, none⟩ = some (.int .i64 v8) ∧ W.cell? ⟨w.heap.size + 1, 0, none⟩ = some (.int .i64 v9) ∧ W.cell? ⟨w.heap.size + 1, 1, none⟩ = some (.int .i64 v10) ∧ W.cell? ⟨w.heap.size + 1, 2, none⟩ = some (.int .i64 v11) ∧ W.cell? ⟨w.heap.size + 1, 3, none⟩ = some (.int .i64 v12) ∧ W.cell? ⟨w.heap.size + 1, 4, none⟩ = some (.int .i64 v13) ∧ W.cell? ⟨w.heap.size + 1, 5, none⟩ = some (.slice v14 v15 v16) ∧ W.cell? ⟨w.heap.size + 1, 6, none⟩ = some (.int .i64 v17) ∧ W.cell? ⟨w.heap.size + 1 + 1, 0, none⟩ = some (.int .i64 0) ∧ W.cell? ⟨w.heap.size + 1 + 1, 1, none⟩ = some (.int .i64 0) ∧ W.cell? ⟨w.heap.size + 1 + 1, 2, none⟩ = some (.int .i64 0) ∧ W.cell? ⟨w.heap.size + 1 + 1, 3, none⟩ = some (.int .i64 0) ∧ W.cell? ⟨w.heap.size + 1 + 1, 4, none⟩ = some (.int .i64 0) ∧ W.cell? ⟨w.heap.size + 1 + 1, 5, none⟩ = some (.slice none 0 0) ∧ W.cell? ⟨w.heap.size + 1 + 1, 6, none⟩ = some (.int .i64 0) ∧ (∀ j, W.frozen? ⟨w.heap.size, j, none⟩ = false) ∧ (∀ j, W.frozen? ⟨w.heap.size + 1, j, none⟩ = false) ∧ (∀ j, W.frozen? ⟨w.heap.size + 1 + 1, j, none⟩ = false) ∧ w.heap.size + 1 + 1 < W.heap.size ∧ Below w.heap.size w W := by
 subst hW
 exact ⟨(old_cell _ _ (by first | (simp; done) | (simp; omega))).trans ((old_cell _ _ (by simp)).trans (by simp)), (old_cell _ _ (by first | (simp; done) | (simp; omega))).trans ((old_cell _ _ (by simp)).trans (by simp)), (old_cell _ _ (by first | (simp; done) | (simp; omega))).trans ((old_cell _ _ (by simp)).trans (by simp)), (old_cell _ _ (by first | (simp; done) | (simp; omega))).trans ((old_cell _ _ (by simp)).trans (by simp)), (old_cell _ _ (by first | (simp; done) | (simp; omega))).trans ((old_cell _ _ (by simp)).trans (by simp)), (old_cell _ _ (by first | (simp; done) | (simp; omega))).trans ((old_cell _ _ (by simp)).trans (by simp)), (old_cell _ _ (by first | (simp; done) | (simp; omega))).trans ((old_cell _ _ (by simp)).trans (by simp)), (old_cell _ _ (by simp)).trans (new_cell _ _ _ 0 (by simp)), (old_cell _ _ (by simp)).trans (new_cell _ _ _ 1 (by simp)), (old_cell _ _ (by simp)).trans (new_cell _ _ _ 2 (by simp)), (old_cell _ _ (by simp)).trans (new_cell _ _ _ 3 (by simp)), (old_cell _ _ (by simp)).trans (new_cell _ _ _ 4 (by simp)), (old_cell _ _ (by simp)).trans (new_cell _ _ _ 5 (by simp)), (old_cell _ _ (by simp)).trans (new_cell _ _ _ 6 (by simp)), new_cell _ _ _ 0 (by simp), new_cell _ _ _ 1 (by simp), new_cell _ _ _ 2 (by simp), new_cell _ _ _ 3 (by simp), new_cell _ _ _ 4 (by simp), new_cell _ _ _ 5 (by simp), new_cell _ _ _ 6 (by simp), fun j => ((bcell (below_alloc _ _)).2 _ _ (by first | (simp; done) | (simp; omega))).trans (((bcell (below_alloc _ _)).2 _ _ (by simp)).trans (new_frozen _ _ _ j rfl)), fun j => ((bcell (below_alloc _ _)).2 _ _ (by simp)).trans (new_frozen _ _ _ j (by simp)), fun j => new_frozen _ _ _ j (by simp), by simp, by go_grown⟩
theorem settled_regs (p a b c d : Int) (oa : Option Addr) (on oc : Nat) (code : Int) (p' a' b' c' d' : Int) (oa' : Option Addr) (on' oc' : Nat) (code' : Int) (n : Nat) (w : World) (hr : regsB [a', b', c', d'] = false) :
  Calls Tryz.prog 187 #[dV p a b c d oa on oc code, dV p' a' b' c' d' oa' on' oc' code', .int .i64 n] w fun e w' => e = .returned (dV p a b c d oa on oc 2) ∧ Below w.heap.size w w' := by
 have he : ∀ wx, (binOp .neq 196 (regV a' b' c' d') (regV (clamp a') (clamp b') (clamp c') (clamp d'))).run Tryz.prog wx = .ok (.bool true) wx := fun wx => by rw [neq_regs, regEqB_clamp, hr]; rfl
 go_enter Tryz.func187, Tryz.ntmps187
 go_wp2_with fail
 generalize hW : (((w.alloc (oQ0 p a b c d oa on oc code)).alloc (oQ0 p' a' b' c' d' oa' on' oc' code')).alloc (zQ1)) = W at *
 obtain ⟨k0, k1, k2, k3, k4, k5, k6, x0, x1, x2, x3, x4, x5, x6, r0, r1, r2, r3, r4, r5, r6, kf, xf, rf, l2, BW'⟩ := diF_w1 hW
 have BW : Hid (Below w.heap.size w W) := BW'
 clear BW'
 clear hW
 have l0 : w.heap.size < W.heap.size := by omega
 have l1 : w.heap.size + 1 < W.heap.size := by omega
 have x0' := cell_regrown x0
 have x1' := cell_regrown x1
 have x2' := cell_regrown x2
 have x3' := cell_regrown x3
 have x4' := cell_regrown x4
 have x5' := cell_regrown x5
 have x6' := cell_regrown x6
 refine wp_region_quiet_below (by kernel_rfl) (by kernel_rfl) ?_
 repeat (quiet_step (first | (go_at_call 213; exact Calls.regrown_of (held_any _ _ _ _ _))))
 refine wpQuiet_nil ?_
 intro _ hw'
 obtain ⟨⟨dq, osq⟩, hw''⟩ := hw'
 subst hw''
 have b3 := below_regrown W dq osq
 have B3 : Hid (Below w.heap.size w (grow (redrawn W dq) osq)) := BW.out.trans (b3.mono BW.out.size)
 obtain ⟨hc3, hf3⟩ := bcell b3
 generalize grow (redrawn W dq) osq = w3 at *
 clear b3 x0' x1' x2' x3' x4' x5' x6' he BW hr
 go_wp2_with (go_at_call 52; refine (isBelow_any _ _ _).mono ?_; rintro e w' ⟨rfl, rfl⟩)
 refine bodyPost_ret (v := dV p a b c d oa on oc 2) (by simp [results, Tryz.results187, go_sem, hc3, l2, r0, r1, r2, r3, r4, r5, r6]) rfl ⟨rfl, ?_⟩
 have := B3.out
 go_grown
theorem settled_full (p a b c d : Int) (oa : Option Addr) (on oc : Nat) (code : Int) (p' a' b' c' d' : Int) (oa' : Option Addr) (on' oc' : Nat) (code' : Int) (n : Nat) (w : World) (hr : regsB [a', b', c', d'] = true) (hn : (60 : Int) < (on' : Int)) :
  Calls Tryz.prog 187 #[dV p a b c d oa on oc code, dV p' a' b' c' d' oa' on' oc' code', .int .i64 n] w fun e w' => e = .returned (dV p a b c d oa on oc 2) ∧ Below w.heap.size w w' := by
 have he : ∀ wx, (binOp .neq 196 (regV a' b' c' d') (regV (clamp a') (clamp b') (clamp c') (clamp d'))).run Tryz.prog wx = .ok (.bool false) wx := fun wx => by rw [neq_regs, regEqB_clamp, hr]; rfl
 go_enter Tryz.func187, Tryz.ntmps187
 go_wp2_with fail
 generalize hW : (((w.alloc (oQ0 p a b c d oa on oc code)).alloc (oQ0 p' a' b' c' d' oa' on' oc' code')).alloc (zQ1)) = W at *
 obtain ⟨k0, k1, k2, k3, k4, k5, k6, x0, x1, x2, x3, x4, x5, x6, r0, r1, r2, r3, r4, r5, r6, kf, xf, rf, l2, BW'⟩ := diF_w1 hW
 have BW : Hid (Below w.heap.size w W) := BW'
 clear BW'
 clear hW
 have l0 : w.heap.size < W.heap.size := by omega
 have l1 : w.heap.size + 1 < W.heap.size := by omega
 have x0' := cell_regrown x0
 have x1' := cell_regrown x1
 have x2' := cell_regrown x2
 have x3' := cell_regrown x3
 have x4' := cell_regrown x4
 have x5' := cell_regrown x5
 have x6' := cell_regrown x6
 refine wp_region_quiet_below (by kernel_rfl) (by kernel_rfl) ?_
 repeat (quiet_step (first | (go_at_call 213; exact Calls.regrown_of (held_any _ _ _ _ _))))
 refine wpQuiet_nil ?_
 intro _ hw'
 obtain ⟨⟨dq, osq⟩, hw''⟩ := hw'
 subst hw''
 have b3 := below_regrown W dq osq
 have B3 : Hid (Below w.heap.size w (grow (redrawn W dq) osq)) := BW.out.trans (b3.mono BW.out.size)
 obtain ⟨hc3, hf3⟩ := bcell b3
 generalize grow (redrawn W dq) osq = w3 at *
 clear b3 x0' x1' x2' x3' x4' x5' x6' he BW hr
 go_wp2_with (go_at_call 52; refine (isBelow_any _ _ _).mono ?_; rintro e w' ⟨rfl, rfl⟩)
 refine bodyPost_ret (v := dV p a b c d oa on oc 2) (by simp [results, Tryz.results187, go_sem, hc3, l2, r0, r1, r2, r3, r4, r5, r6]) rfl ⟨rfl, ?_⟩
 have := B3.out
 go_grown
theorem settled_out (p a b c d : Int) (oa : Option Addr) (on oc : Nat) (code : Int) (p' a' b' c' d' : Int) (oa' : Option Addr) (on' oc' : Nat) (code' : Int) (n : Nat) (w : World) (hr : regsB [a', b', c', d'] = true) (hn : ¬ (60 : Int) < (on' : Int)) (hp : belB p' n = false) :
  Calls Tryz.prog 187 #[dV p a b c d oa on oc code, dV p' a' b' c' d' oa' on' oc' code', .int .i64 n] w fun e w' => e = .returned (dV p a' b' c' d' oa' on' oc' 2) ∧ Below w.heap.size w w' := by
 have he : ∀ wx, (binOp .neq 196 (regV a' b' c' d') (regV (clamp a') (clamp b') (clamp c') (clamp d'))).run Tryz.prog wx = .ok (.bool false) wx := fun wx => by rw [neq_regs, regEqB_clamp, hr]; rfl
 go_enter Tryz.func187, Tryz.ntmps187
 go_wp2_with fail
 generalize hW : (((w.alloc (oQ0 p a b c d oa on oc code)).alloc (oQ0 p' a' b' c' d' oa' on' oc' code')).alloc (zQ1)) = W at *
 obtain ⟨k0, k1, k2, k3, k4, k5, k6, x0, x1, x2, x3, x4, x5, x6, r0, r1, r2, r3, r4, r5, r6, kf, xf, rf, l2, BW'⟩ := diF_w1 hW
 have BW : Hid (Below w.heap.size w W) := BW'
 clear BW'
 clear hW
 have l0 : w.heap.size < W.heap.size := by omega
 have l1 : w.heap.size + 1 < W.heap.size := by omega
 have x0' := cell_regrown x0
 have x1' := cell_regrown x1
 have x2' := cell_regrown x2
 have x3' := cell_regrown x3
 have x4' := cell_regrown x4
 have x5' := cell_regrown x5
 have x6' := cell_regrown x6
 refine wp_region_quiet_below (by kernel_rfl) (by kernel_rfl) ?_
 repeat (quiet_step (first | (go_at_call 213; exact Calls.regrown_of (held_any _ _ _ _ _))))
 refine wpQuiet_nil ?_
 intro _ hw'
 obtain ⟨⟨dq, osq⟩, hw''⟩ := hw'
 subst hw''
 have b3 := below_regrown W dq osq
 have B3 : Hid (Below w.heap.size w (grow (redrawn W dq) osq)) := BW.out.trans (b3.mono BW.out.size)
 obtain ⟨hc3, hf3⟩ := bcell b3
 generalize grow (redrawn W dq) osq = w3 at *
 clear b3 x0' x1' x2' x3' x4' x5' x6' he BW hr
 go_wp2_with (go_at_call 52; refine (isBelow_any _ _ _).mono ?_; rintro e w' ⟨rfl, rfl⟩)
 refine bodyPost_ret (v := dV p a' b' c' d' oa' on' oc' 2) (by simp [results, Tryz.results187, go_sem, hc3, l2, r0, r1, r2, r3, r4, r5, r6]) rfl ⟨rfl, ?_⟩
 have := B3.out
 go_grown
theorem settled_ok (p a b c d : Int) (oa : Option Addr) (on oc : Nat) (code : Int) (p' a' b' c' d' : Int) (oa' : Option Addr) (on' oc' : Nat) (code' : Int) (n : Nat) (w : World) (hr : regsB [a', b', c', d'] = true) (hn : ¬ (60 : Int) < (on' : Int)) (hp : belB p' n = true) :
  Calls Tryz.prog 187 #[dV p a b c d oa on oc code, dV p' a' b' c' d' oa' on' oc' code', .int .i64 n] w fun e w' => e = .returned (dV p' a' b' c' d' oa' on' oc' code') ∧ Below w.heap.size w w' := by
 have he : ∀ wx, (binOp .neq 196 (regV a' b' c' d') (regV (clamp a') (clamp b') (clamp c') (clamp d'))).run Tryz.prog wx = .ok (.bool false) wx := fun wx => by rw [neq_regs, regEqB_clamp, hr]; rfl
 go_enter Tryz.func187, Tryz.ntmps187
 go_wp2_with fail
 generalize hW : (((w.alloc (oQ0 p a b c d oa on oc code)).alloc (oQ0 p' a' b' c' d' oa' on' oc' code')).alloc (zQ1)) = W at *
 obtain ⟨k0, k1, k2, k3, k4, k5, k6, x0, x1, x2, x3, x4, x5, x6, r0, r1, r2, r3, r4, r5, r6, kf, xf, rf, l2, BW'⟩ := diF_w1 hW
 have BW : Hid (Below w.heap.size w W) := BW'
 clear BW'
 clear hW
 have l0 : w.heap.size < W.heap.size := by omega
 have l1 : w.heap.size + 1 < W.heap.size := by omega
 have x0' := cell_regrown x0
 have x1' := cell_regrown x1
 have x2' := cell_regrown x2
 have x3' := cell_regrown x3
 have x4' := cell_regrown x4
 have x5' := cell_regrown x5
 have x6' := cell_regrown x6
 refine wp_region_quiet_below (by kernel_rfl) (by kernel_rfl) ?_
 repeat (quiet_step (first | (go_at_call 213; exact Calls.regrown_of (held_any _ _ _ _ _))))
 refine wpQuiet_nil ?_
 intro _ hw'
 obtain ⟨⟨dq, osq⟩, hw''⟩ := hw'
 subst hw''
 have b3 := below_regrown W dq osq
 have B3 : Hid (Below w.heap.size w (grow (redrawn W dq) osq)) := BW.out.trans (b3.mono BW.out.size)
 obtain ⟨hc3, hf3⟩ := bcell b3
 generalize grow (redrawn W dq) osq = w3 at *
 clear b3 x0' x1' x2' x3' x4' x5' x6' he BW hr
 go_wp2_with (go_at_call 52; refine (isBelow_any _ _ _).mono ?_; rintro e w' ⟨rfl, rfl⟩)
 refine bodyPost_ret (v := dV p' a' b' c' d' oa' on' oc' code') (by simp [results, Tryz.results187, go_sem, hc3, l2, r0, r1, r2, r3, r4, r5, r6]) rfl ⟨rfl, ?_⟩
 have := B3.out
 go_grown
end Go.Proofs.YtbleeedbiipfnaaGreatDoor
