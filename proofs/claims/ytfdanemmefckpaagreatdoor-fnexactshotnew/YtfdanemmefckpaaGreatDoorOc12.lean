/- The model's Do, for every program, state and event in memory. -/
import Derived.Test.YtfdanemmefckpaaGreatDoorOc0
import Derived.Test.YtfdanemmefckpaaGreatDoorOc9
import Derived.Laws.EntriesVeiled
import Derived.Test.YtfdanemmefckpaaGreatDoorOc7
import Derived.Deep.RegionHeld3
namespace Go.Proofs.YtfdanemmefckpaaGreatDoor
set_option maxRecDepth 100000
set_option maxHeartbeats 4000000
open Go.RowKit
theorem stepOf_1 (w : World) :
  Calls Tryz.prog 200 #[.int .i64 1] w fun e w' => e = .returned (.func (.func 226) #[] #[]) ∧ Below w.heap.size w w' := by
 go_enter Tryz.func200, Tryz.ntmps200
 go_wp2_with fail
 refine bodyPost_ret (v := .func (.func 226) #[] #[]) (by simp [results, Tryz.results200, go_sem]) rfl ⟨rfl, ?_⟩
 go_grown
theorem stepOf_2 (w : World) :
  Calls Tryz.prog 200 #[.int .i64 2] w fun e w' => e = .returned (.func (.func 227) #[] #[]) ∧ Below w.heap.size w w' := by
 go_enter Tryz.func200, Tryz.ntmps200
 go_wp2_with fail
 refine bodyPost_ret (v := .func (.func 227) #[] #[]) (by simp [results, Tryz.results200, go_sem]) rfl ⟨rfl, ?_⟩
 go_grown
theorem stepOf_3 (w : World) :
  Calls Tryz.prog 200 #[.int .i64 3] w fun e w' => e = .returned (.func (.func 228) #[] #[]) ∧ Below w.heap.size w w' := by
 go_enter Tryz.func200, Tryz.ntmps200
 go_wp2_with fail
 refine bodyPost_ret (v := .func (.func 228) #[] #[]) (by simp [results, Tryz.results200, go_sem]) rfl ⟨rfl, ?_⟩
 go_grown
theorem stepOf_4 (w : World) :
  Calls Tryz.prog 200 #[.int .i64 4] w fun e w' => e = .returned (.func (.func 229) #[] #[]) ∧ Below w.heap.size w w' := by
 go_enter Tryz.func200, Tryz.ntmps200
 go_wp2_with fail
 refine bodyPost_ret (v := .func (.func 229) #[] #[]) (by simp [results, Tryz.results200, go_sem]) rfl ⟨rfl, ?_⟩
 go_grown
theorem stepOf_5 (w : World) :
  Calls Tryz.prog 200 #[.int .i64 5] w fun e w' => e = .returned (.func (.func 230) #[] #[]) ∧ Below w.heap.size w w' := by
 go_enter Tryz.func200, Tryz.ntmps200
 go_wp2_with fail
 refine bodyPost_ret (v := .func (.func 230) #[] #[]) (by simp [results, Tryz.results200, go_sem]) rfl ⟨rfl, ?_⟩
 go_grown
theorem stepOf_6 (w : World) :
  Calls Tryz.prog 200 #[.int .i64 6] w fun e w' => e = .returned (.func (.func 231) #[] #[]) ∧ Below w.heap.size w w' := by
 go_enter Tryz.func200, Tryz.ntmps200
 go_wp2_with fail
 refine bodyPost_ret (v := .func (.func 231) #[] #[]) (by simp [results, Tryz.results200, go_sem]) rfl ⟨rfl, ?_⟩
 go_grown
theorem stepOf_7 (w : World) :
  Calls Tryz.prog 200 #[.int .i64 7] w fun e w' => e = .returned (.func (.func 232) #[] #[]) ∧ Below w.heap.size w w' := by
 go_enter Tryz.func200, Tryz.ntmps200
 go_wp2_with fail
 refine bodyPost_ret (v := .func (.func 232) #[] #[]) (by simp [results, Tryz.results200, go_sem]) rfl ⟨rfl, ?_⟩
 go_grown
theorem stepOf_8 (w : World) :
  Calls Tryz.prog 200 #[.int .i64 8] w fun e w' => e = .returned (.func (.func 233) #[] #[]) ∧ Below w.heap.size w w' := by
 go_enter Tryz.func200, Tryz.ntmps200
 go_wp2_with fail
 refine bodyPost_ret (v := .func (.func 233) #[] #[]) (by simp [results, Tryz.results200, go_sem]) rfl ⟨rfl, ?_⟩
 go_grown
theorem stepOf_9 (w : World) :
  Calls Tryz.prog 200 #[.int .i64 9] w fun e w' => e = .returned (.func (.func 234) #[] #[]) ∧ Below w.heap.size w w' := by
 go_enter Tryz.func200, Tryz.ntmps200
 go_wp2_with fail
 refine bodyPost_ret (v := .func (.func 234) #[] #[]) (by simp [results, Tryz.results200, go_sem]) rfl ⟨rfl, ?_⟩
 go_grown
theorem stepOf_10 (w : World) :
  Calls Tryz.prog 200 #[.int .i64 10] w fun e w' => e = .returned (.func (.func 235) #[] #[]) ∧ Below w.heap.size w w' := by
 go_enter Tryz.func200, Tryz.ntmps200
 go_wp2_with fail
 refine bodyPost_ret (v := .func (.func 235) #[] #[]) (by simp [results, Tryz.results200, go_sem]) rfl ⟨rfl, ?_⟩
 go_grown
theorem stepOf_11 (w : World) :
  Calls Tryz.prog 200 #[.int .i64 11] w fun e w' => e = .returned (.func (.func 236) #[] #[]) ∧ Below w.heap.size w w' := by
 go_enter Tryz.func200, Tryz.ntmps200
 go_wp2_with fail
 refine bodyPost_ret (v := .func (.func 236) #[] #[]) (by simp [results, Tryz.results200, go_sem]) rfl ⟨rfl, ?_⟩
 go_grown
theorem canCome_any (nk np nv k q v : Int) (w : World) :
  Calls Tryz.prog 198 #[evV nk np nv, evV k q v] w fun e w' => e = .returned (.bool (canB nk np nv k q v)) ∧ Below w.heap.size w w' := by
 have he := fun wx => eql_ev k q v nk np nv wx
 by_cases c1 : nk = 3
 case neg =>
  have c1' : (nk != 3) = true := by simpa using c1
  by_cases c2 : nk = 0
  ·subst c2
   have hv : Hid (canB 0 np nv k q v = false) := by simp [Hid, canB]
   go_enter Tryz.func198, Tryz.ntmps198
   go_wp2_with (first | (go_at_call 225; refine (isNum_any _ _).mono ?_; rintro e w' ⟨rfl, rfl⟩) | (go_at_call 57; refine (isBelow_any _ _ _).mono ?_; rintro e w' ⟨rfl, rfl⟩))
   refine bodyPost_ret (v := .bool (false)) (by simp [results, Tryz.results198, go_sem]) rfl ⟨by rw [hv.out], ?_⟩
   go_grown
  ·have c2' : (nk != 0) = true := by simpa using c2
   have hv : Hid (canB nk np nv k q v = evEqB k q v nk np nv) := by simp [Hid, canB, evEqB, c1, c2']
   clear c1 c2
   go_enter Tryz.func198, Tryz.ntmps198
   go_wp2_with (first | (go_at_call 225; refine (isNum_any _ _).mono ?_; rintro e w' ⟨rfl, rfl⟩) | (go_at_call 57; refine (isBelow_any _ _ _).mono ?_; rintro e w' ⟨rfl, rfl⟩))
   refine bodyPost_ret (v := .bool (evEqB k q v nk np nv)) (by simp [results, Tryz.results198, go_sem]) rfl ⟨by rw [hv.out], ?_⟩
   go_grown
 subst c1
 by_cases c2 : k = 3
 case neg =>
  have c2' : (k != 3) = true := by simpa using c2
  have hv : Hid (canB 3 np nv k q v = false) := by simp [Hid, canB, c2]
  clear c2
  go_enter Tryz.func198, Tryz.ntmps198
  go_wp2_with (first | (go_at_call 225; refine (isNum_any _ _).mono ?_; rintro e w' ⟨rfl, rfl⟩) | (go_at_call 57; refine (isBelow_any _ _ _).mono ?_; rintro e w' ⟨rfl, rfl⟩))
  refine bodyPost_ret (v := .bool (false)) (by simp [results, Tryz.results198, go_sem]) rfl ⟨by rw [hv.out], ?_⟩
  go_grown
 subst c2
 rcases Bool.eq_false_or_eq_true (numB v) with c3 | c3
 case inr =>
  have hv : Hid (canB 3 np nv 3 q v = false) := by simp [Hid, canB, c3]
  have c3' : inB v (-1000000000) 1000000000 = false := c3
  clear c3
  go_enter Tryz.func198, Tryz.ntmps198
  go_wp2_with (first | (go_at_call 225; refine (isNum_any _ _).mono ?_; rintro e w' ⟨rfl, rfl⟩) | (go_at_call 57; refine (isBelow_any _ _ _).mono ?_; rintro e w' ⟨rfl, rfl⟩))
  refine bodyPost_ret (v := .bool (false)) (by simp [results, Tryz.results198, go_sem]) rfl ⟨by rw [hv.out], ?_⟩
  go_grown
 by_cases c4 : np = 9
 ·subst c4
  have hv : Hid (canB 3 9 nv 3 q v = belB q 4) := by simp [Hid, canB, c3]
  have c3' : inB v (-1000000000) 1000000000 = true := c3
  clear c3
  go_enter Tryz.func198, Tryz.ntmps198
  go_wp2_with (first | (go_at_call 225; refine (isNum_any _ _).mono ?_; rintro e w' ⟨rfl, rfl⟩) | (go_at_call 57; refine (isBelow_any _ _ _).mono ?_; rintro e w' ⟨rfl, rfl⟩))
  refine bodyPost_ret (v := .bool (belB q 4)) (by simp [results, Tryz.results198, go_sem]) rfl ⟨by rw [hv.out], ?_⟩
  go_grown
 ·have c4' : (np == 9) = false := by simpa using c4
  have hv : Hid (canB 3 np nv 3 q v = (q == np)) := by simp [Hid, canB, c3, c4]
  have c3' : inB v (-1000000000) 1000000000 = true := c3
  clear c3 c4
  go_enter Tryz.func198, Tryz.ntmps198
  go_wp2_with (first | (go_at_call 225; refine (isNum_any _ _).mono ?_; rintro e w' ⟨rfl, rfl⟩) | (go_at_call 57; refine (isBelow_any _ _ _).mono ?_; rintro e w' ⟨rfl, rfl⟩))
  refine bodyPost_ret (v := .bool (q == np)) (by simp [results, Tryz.results198, go_sem]) rfl ⟨by rw [hv.out], ?_⟩
  go_grown
open Go.Sort
theorem neq_regs (a b c d a' b' c' d' : Int) (w : World) : (binOp .neq 233 (regV a b c d) (regV a' b' c' d')).run Tryz.prog w = .ok (.bool (!regEqB a b c d a' b' c' d')) w := by
 have h := eql_regs a b c d a' b' c' d' w
 simp only [binOp, Sem.run_bind, Sem.run_pure] at h ⊢
 revert h
 generalize Sem.run Tryz.prog (Op.equal 233 (regV a b c d) (regV a' b' c' d')) w = r
 cases r <;> simp (config := { contextual := true }) [Result.andThen]
theorem diF_w1 {w W : World} {v0 : Int} {v1 : Int} {v2 : Int} {v3 : Int} {v4 : Int} {v5 : Option Addr} {v6 : Nat} {v7 : Nat} {v8 : Int} {v9 : Int} {v10 : Int} {v11 : Int} {v12 : Int} {v13 : Int} {v14 : Option Addr} {v15 : Nat} {v16 : Nat} {v17 : Int} (hW : (((w.alloc (oQ3 v0 v1 v2 v3 v4 v5 v6 v7 v8)).alloc (oQ3 v9 v10 v11 v12 v13 v14 v15 v16 v17)).alloc (zQ1)) = W) : W.cell? ⟨w.heap.size, 0, none⟩ = some (.int .i64 v0) ∧ W.cell? ⟨w.heap.size, 1, none⟩ = some (.int .i64 v1) ∧ W.cell? ⟨w.heap.size, 2, none⟩ = some (.int .i64 v2) ∧ W.cell? ⟨w.heap.size, 3, none⟩ = some (.int .i64 v3) ∧ W.cell? ⟨w.heap.size, 4, none⟩ = some (.int .i64 v4) ∧ W.cell? ⟨w.heap.size, 5, none⟩ = some (.slice v5 v6 v7) ∧ W.cell? ⟨w.heap.size, 6, none⟩ = some (.int .i64 v8) ∧ W.cell? ⟨w.heap.size + 1, 0, none⟩ = some (.int .i64 v9) ∧ W.cell? ⟨w.heap.size + 1, 1, none⟩ = some (.int .i64 v10) ∧ W.cell? ⟨w.heap.size + 1, 2, none⟩ = some (.int .i64 v11) ∧ W.cell? ⟨w.heap.size + 1, 3, none⟩ = some (.int .i64 v12) ∧ W.cell? ⟨w.heap.size + 1, 4, none⟩ = some (.int .i64 v13) ∧ W.cell? ⟨w.heap.size + 1, 5, none⟩ = some (.slice v14 v15 v16) ∧ W.cell? ⟨w.heap.size + 1, 6, none⟩ = some (.int .i64 v17) ∧ W.cell? ⟨w.heap.size + 1 + 1, 0, none⟩ = some (.int .i64 0) ∧ W.cell? ⟨w.heap.size + 1 + 1, 1, none⟩ = some (.int .i64 0) ∧ W.cell? ⟨w.heap.size + 1 + 1, 2, none⟩ = some (.int .i64 0) ∧ W.cell? ⟨w.heap.size + 1 + 1, 3, none⟩ = some (.int .i64 0) ∧ W.cell? ⟨w.heap.size + 1 + 1, 4, none⟩ = some (.int .i64 0) ∧ W.cell? ⟨w.heap.size + 1 + 1, 5, none⟩ = some (.slice none 0 0) ∧ W.cell? ⟨w.heap.size + 1 + 1, 6, none⟩ = some (.int .i64 0) ∧ (∀ j, W.frozen? ⟨w.heap.size, j, none⟩ = false) ∧ (∀ j, W.frozen? ⟨w.heap.size + 1, j, none⟩ = false) ∧ (∀ j, W.frozen? ⟨w.heap.size + 1 + 1, j, none⟩ = false) ∧ w.heap.size + 1 + 1 < W.heap.size ∧ Below w.heap.size w W := by
 subst hW
 exact ⟨(old_cell _ _ (by first | (simp; done) | (simp; omega))).trans ((old_cell _ _ (by simp)).trans (by simp)), (old_cell _ _ (by first | (simp; done) | (simp; omega))).trans ((old_cell _ _ (by simp)).trans (by simp)), (old_cell _ _ (by first | (simp; done) | (simp; omega))).trans ((old_cell _ _ (by simp)).trans (by simp)), (old_cell _ _ (by first | (simp; done) | (simp; omega))).trans ((old_cell _ _ (by simp)).trans (by simp)), (old_cell _ _ (by first | (simp; done) | (simp; omega))).trans ((old_cell _ _ (by simp)).trans (by simp)), (old_cell _ _ (by first | (simp; done) | (simp; omega))).trans ((old_cell _ _ (by simp)).trans (by simp)), (old_cell _ _ (by first | (simp; done) | (simp; omega))).trans ((old_cell _ _ (by simp)).trans (by simp)), (old_cell _ _ (by simp)).trans (new_cell _ _ _ 0 (by simp)), (old_cell _ _ (by simp)).trans (new_cell _ _ _ 1 (by simp)), (old_cell _ _ (by simp)).trans (new_cell _ _ _ 2 (by simp)), (old_cell _ _ (by simp)).trans (new_cell _ _ _ 3 (by simp)), (old_cell _ _ (by simp)).trans (new_cell _ _ _ 4 (by simp)), (old_cell _ _ (by simp)).trans (new_cell _ _ _ 5 (by simp)), (old_cell _ _ (by simp)).trans (new_cell _ _ _ 6 (by simp)), new_cell _ _ _ 0 (by simp), new_cell _ _ _ 1 (by simp), new_cell _ _ _ 2 (by simp), new_cell _ _ _ 3 (by simp), new_cell _ _ _ 4 (by simp), new_cell _ _ _ 5 (by simp), new_cell _ _ _ 6 (by simp), fun j => ((bcell (below_alloc _ _)).2 _ _ (by first | (simp; done) | (simp; omega))).trans (((bcell (below_alloc _ _)).2 _ _ (by simp)).trans (new_frozen _ _ _ j rfl)), fun j => ((bcell (below_alloc _ _)).2 _ _ (by simp)).trans (new_frozen _ _ _ j (by simp)), fun j => new_frozen _ _ _ j (by simp), by simp, by go_grown⟩
theorem settled_regs (p a b c d : Int) (oa : Option Addr) (on oc : Nat) (code : Int) (p' a' b' c' d' : Int) (oa' : Option Addr) (on' oc' : Nat) (code' : Int) (n : Nat) (w : World) (hr : regsB [a', b', c', d'] = false) :
  Calls Tryz.prog 201 #[dV p a b c d oa on oc code, dV p' a' b' c' d' oa' on' oc' code', .int .i64 n] w fun e w' => e = .returned (dV p a b c d oa on oc 2) ∧ Below w.heap.size w w' := by
 have he : ∀ wx, (binOp .neq 233 (regV a' b' c' d') (regV (clamp a') (clamp b') (clamp c') (clamp d'))).run Tryz.prog wx = .ok (.bool true) wx := fun wx => by rw [neq_regs, regEqB_clamp, hr]; rfl
 go_enter Tryz.func201, Tryz.ntmps201
 go_wp2_with fail
 generalize hW : (((w.alloc (oQ3 p a b c d oa on oc code)).alloc (oQ3 p' a' b' c' d' oa' on' oc' code')).alloc (zQ1)) = W at *
 obtain ⟨k0, k1, k2, k3, k4, k5, k6, x0, x1, x2, x3, x4, x5, x6, r0, r1, r2, r3, r4, r5, r6, kf, xf, rf, l2, BW'⟩ := diF_w1 hW
 have BW : Hid (Below w.heap.size w W) := BW'
 clear BW'
 clear hW
 have l0 : w.heap.size < W.heap.size := by omega
 have l1 : w.heap.size + 1 < W.heap.size := by omega
 have x0' := cell_regrown x0
 have x1' := cell_regrown x1
 have x2' := cell_regrown x2
 have x3' := cell_regrown x3
 have x4' := cell_regrown x4
 have x5' := cell_regrown x5
 have x6' := cell_regrown x6
 refine wp_region_quiet_below (by kernel_rfl) (by kernel_rfl) ?_
 repeat (quiet_step (first | (go_at_call 222; exact Calls.regrown_of (held_any _ _ _ _ _))))
 refine wpQuiet_nil ?_
 intro _ hw'
 obtain ⟨⟨dq, osq⟩, hw''⟩ := hw'
 subst hw''
 have b3 := below_regrown W dq osq
 have B3 : Hid (Below w.heap.size w (grow (redrawn W dq) osq)) := BW.out.trans (b3.mono BW.out.size)
 obtain ⟨hc3, hf3⟩ := bcell b3
 generalize grow (redrawn W dq) osq = w3 at *
 clear b3 x0' x1' x2' x3' x4' x5' x6' he BW hr
 go_wp2_with (go_at_call 57; refine (isBelow_any _ _ _).mono ?_; rintro e w' ⟨rfl, rfl⟩)
 refine bodyPost_ret (v := dV p a b c d oa on oc 2) (by simp [results, Tryz.results201, go_sem, hc3, l2, r0, r1, r2, r3, r4, r5, r6]) rfl ⟨rfl, ?_⟩
 have := B3.out
 go_grown
theorem settled_full (p a b c d : Int) (oa : Option Addr) (on oc : Nat) (code : Int) (p' a' b' c' d' : Int) (oa' : Option Addr) (on' oc' : Nat) (code' : Int) (n : Nat) (w : World) (hr : regsB [a', b', c', d'] = true) (hn : (60 : Int) < (on' : Int)) :
  Calls Tryz.prog 201 #[dV p a b c d oa on oc code, dV p' a' b' c' d' oa' on' oc' code', .int .i64 n] w fun e w' => e = .returned (dV p a b c d oa on oc 2) ∧ Below w.heap.size w w' := by
 have he : ∀ wx, (binOp .neq 233 (regV a' b' c' d') (regV (clamp a') (clamp b') (clamp c') (clamp d'))).run Tryz.prog wx = .ok (.bool false) wx := fun wx => by rw [neq_regs, regEqB_clamp, hr]; rfl
 go_enter Tryz.func201, Tryz.ntmps201
 go_wp2_with fail
 generalize hW : (((w.alloc (oQ3 p a b c d oa on oc code)).alloc (oQ3 p' a' b' c' d' oa' on' oc' code')).alloc (zQ1)) = W at *
 obtain ⟨k0, k1, k2, k3, k4, k5, k6, x0, x1, x2, x3, x4, x5, x6, r0, r1, r2, r3, r4, r5, r6, kf, xf, rf, l2, BW'⟩ := diF_w1 hW
 have BW : Hid (Below w.heap.size w W) := BW'
 clear BW'
 clear hW
 have l0 : w.heap.size < W.heap.size := by omega
 have l1 : w.heap.size + 1 < W.heap.size := by omega
 have x0' := cell_regrown x0
 have x1' := cell_regrown x1
 have x2' := cell_regrown x2
 have x3' := cell_regrown x3
 have x4' := cell_regrown x4
 have x5' := cell_regrown x5
 have x6' := cell_regrown x6
 refine wp_region_quiet_below (by kernel_rfl) (by kernel_rfl) ?_
 repeat (quiet_step (first | (go_at_call 222; exact Calls.regrown_of (held_any _ _ _ _ _))))
 refine wpQuiet_nil ?_
 intro _ hw'
 obtain ⟨⟨dq, osq⟩, hw''⟩ := hw'
 subst hw''
 have b3 := below_regrown W dq osq
 have B3 : Hid (Below w.heap.size w (grow (redrawn W dq) osq)) := BW.out.trans (b3.mono BW.out.size)
 obtain ⟨hc3, hf3⟩ := bcell b3
 generalize grow (redrawn W dq) osq = w3 at *
 clear b3 x0' x1' x2' x3' x4' x5' x6' he BW hr
 go_wp2_with (go_at_call 57; refine (isBelow_any _ _ _).mono ?_; rintro e w' ⟨rfl, rfl⟩)
 refine bodyPost_ret (v := dV p a b c d oa on oc 2) (by simp [results, Tryz.results201, go_sem, hc3, l2, r0, r1, r2, r3, r4, r5, r6]) rfl ⟨rfl, ?_⟩
 have := B3.out
 go_grown
theorem settled_out (p a b c d : Int) (oa : Option Addr) (on oc : Nat) (code : Int) (p' a' b' c' d' : Int) (oa' : Option Addr) (on' oc' : Nat) (code' : Int) (n : Nat) (w : World) (hr : regsB [a', b', c', d'] = true) (hn : ¬ (60 : Int) < (on' : Int)) (hp : belB p' n = false) :
  Calls Tryz.prog 201 #[dV p a b c d oa on oc code, dV p' a' b' c' d' oa' on' oc' code', .int .i64 n] w fun e w' => e = .returned (dV p a' b' c' d' oa' on' oc' 2) ∧ Below w.heap.size w w' := by
 have he : ∀ wx, (binOp .neq 233 (regV a' b' c' d') (regV (clamp a') (clamp b') (clamp c') (clamp d'))).run Tryz.prog wx = .ok (.bool false) wx := fun wx => by rw [neq_regs, regEqB_clamp, hr]; rfl
 go_enter Tryz.func201, Tryz.ntmps201
 go_wp2_with fail
 generalize hW : (((w.alloc (oQ3 p a b c d oa on oc code)).alloc (oQ3 p' a' b' c' d' oa' on' oc' code')).alloc (zQ1)) = W at *
 obtain ⟨k0, k1, k2, k3, k4, k5, k6, x0, x1, x2, x3, x4, x5, x6, r0, r1, r2, r3, r4, r5, r6, kf, xf, rf, l2, BW'⟩ := diF_w1 hW
 have BW : Hid (Below w.heap.size w W) := BW'
 clear BW'
 clear hW
 have l0 : w.heap.size < W.heap.size := by omega
 have l1 : w.heap.size + 1 < W.heap.size := by omega
 have x0' := cell_regrown x0
 have x1' := cell_regrown x1
 have x2' := cell_regrown x2
 have x3' := cell_regrown x3
 have x4' := cell_regrown x4
 have x5' := cell_regrown x5
 have x6' := cell_regrown x6
 refine wp_region_quiet_below (by kernel_rfl) (by kernel_rfl) ?_
 repeat (quiet_step (first | (go_at_call 222; exact Calls.regrown_of (held_any _ _ _ _ _))))
 refine wpQuiet_nil ?_
 intro _ hw'
 obtain ⟨⟨dq, osq⟩, hw''⟩ := hw'
 subst hw''
 have b3 := below_regrown W dq osq
 have B3 : Hid (Below w.heap.size w (grow (redrawn W dq) osq)) := BW.out.trans (b3.mono BW.out.size)
 obtain ⟨hc3, hf3⟩ := bcell b3
 generalize grow (redrawn W dq) osq = w3 at *
 clear b3 x0' x1' x2' x3' x4' x5' x6' he BW hr
 go_wp2_with (go_at_call 57; refine (isBelow_any _ _ _).mono ?_; rintro e w' ⟨rfl, rfl⟩)
 refine bodyPost_ret (v := dV p a' b' c' d' oa' on' oc' 2) (by simp [results, Tryz.results201, go_sem, hc3, l2, r0, r1, r2, r3, r4, r5, r6]) rfl ⟨rfl, ?_⟩
 have := B3.out
 go_grown
theorem settled_ok (p a b c d : Int) (oa : Option Addr) (on oc : Nat) (code : Int) (p' a' b' c' d' : Int) (oa' : Option Addr) (on' oc' : Nat) (code' : Int) (n : Nat) (w : World) (hr : regsB [a', b', c', d'] = true) (hn : ¬ (60 : Int) < (on' : Int)) (hp : belB p' n = true) :
  Calls Tryz.prog 201 #[dV p a b c d oa on oc code, dV p' a' b' c' d' oa' on' oc' code', .int .i64 n] w fun e w' => e = .returned (dV p' a' b' c' d' oa' on' oc' code') ∧ Below w.heap.size w w' := by
 have he : ∀ wx, (binOp .neq 233 (regV a' b' c' d') (regV (clamp a') (clamp b') (clamp c') (clamp d'))).run Tryz.prog wx = .ok (.bool false) wx := fun wx => by rw [neq_regs, regEqB_clamp, hr]; rfl
 go_enter Tryz.func201, Tryz.ntmps201
 go_wp2_with fail
 generalize hW : (((w.alloc (oQ3 p a b c d oa on oc code)).alloc (oQ3 p' a' b' c' d' oa' on' oc' code')).alloc (zQ1)) = W at *
 obtain ⟨k0, k1, k2, k3, k4, k5, k6, x0, x1, x2, x3, x4, x5, x6, r0, r1, r2, r3, r4, r5, r6, kf, xf, rf, l2, BW'⟩ := diF_w1 hW
 have BW : Hid (Below w.heap.size w W) := BW'
 clear BW'
 clear hW
 have l0 : w.heap.size < W.heap.size := by omega
 have l1 : w.heap.size + 1 < W.heap.size := by omega
 have x0' := cell_regrown x0
 have x1' := cell_regrown x1
 have x2' := cell_regrown x2
 have x3' := cell_regrown x3
 have x4' := cell_regrown x4
 have x5' := cell_regrown x5
 have x6' := cell_regrown x6
 refine wp_region_quiet_below (by kernel_rfl) (by kernel_rfl) ?_
 repeat (quiet_step (first | (go_at_call 222; exact Calls.regrown_of (held_any _ _ _ _ _))))
 refine wpQuiet_nil ?_
 intro _ hw'
 obtain ⟨⟨dq, osq⟩, hw''⟩ := hw'
 subst hw''
 have b3 := below_regrown W dq osq
 have B3 : Hid (Below w.heap.size w (grow (redrawn W dq) osq)) := BW.out.trans (b3.mono BW.out.size)
 obtain ⟨hc3, hf3⟩ := bcell b3
 generalize grow (redrawn W dq) osq = w3 at *
 clear b3 x0' x1' x2' x3' x4' x5' x6' he BW hr
 go_wp2_with (go_at_call 57; refine (isBelow_any _ _ _).mono ?_; rintro e w' ⟨rfl, rfl⟩)
 refine bodyPost_ret (v := dV p' a' b' c' d' oa' on' oc' code') (by simp [results, Tryz.results201, go_sem, hc3, l2, r0, r1, r2, r3, r4, r5, r6]) rfl ⟨rfl, ?_⟩
 have := B3.out
 go_grown
theorem l2Do_take_any (b off len cap k : Nat) (g : Nat → I5) (ra oa : Option Addr) (rc oc : Nat) (rs os : List Int) (eq ev : Int) (w : World) (hl : (len : Int) ≤ 30) (hb : b < w.heap.size) (hI : InsAt w b off len g) (h4 : rs.length = 4) (ho : os.length ≤ 60) (h1 : Sl w ra rs) (h2 : Sl w oa os) (hk : k < len) (hp : progOkB g len 4 = true) (np nv : Int) (HN : Hid (evK (g k).o = 3 ∧ evP (g k).o (g k).n = np ∧ evW (g k).o (g k).a rs = nv)) (H7 : Hid ((g k).o = 7)) (q2 : inB ev (-1000000000) 1000000000 = true) (q3 : (np != 9) = false) (q5 : inB eq 0 3 = true) :
  Calls Tryz.prog 144 #[.slice (some ⟨b, off, none⟩) len cap, stV k ra rs.length rc oa os.length oc 0, evV 3 eq ev] w fun e w' => ∃ v, e = .returned (.tuple #[v, .bool true]) ∧ StOwn w' w.heap.size v (doneS len (g k) k rs os 0 ev).p (doneS len (g k) k rs os 0 ev).rs (doneS len (g k) k rs os 0 ev).os (doneS len (g k) k rs os 0 ev).c ∧ Below w.heap.size w w' := by
 have HI : Hid (InsAt w b off len g) := hI
 have H1 : Hid (Sl w ra rs) := h1
 have H2 : Hid (Sl w oa os) := h2
 have H4 : Hid (rs.length = 4) := h4
 have HP : Hid (progOkB g len 4 = true) := hp
 have hk' : (k : Int) < (len : Int) := by omega
 clear hI h1 h2 h4 hp
 go_enter Tryz.func144, Tryz.ntmps144
 go_wp2_with fail
 refine (l2Next_any _ _ _ _ k g _ _ _ _ _ _ rs _ (by unfold maxLen; omega) (by simp; omega) (HI.out.below (by go_grown) hb) (H1.out.below (by go_grown)) H4.out hk HP.out).mono ?_
 rintro e w1 ⟨he1, b1⟩
 rw [HN.out.1, HN.out.2.1, HN.out.2.2] at he1
 subst he1
 have B1 : Hid (Below w.heap.size w (w1.alloc (oQ0 3 np nv))) := (below_up (by go_grown) b1 (by simp; omega)).alloc (by have := b1.size; simp at this; omega) _
 have X1 : Hid (DoBox (w1.alloc (oQ0 3 np nv)) w.heap.size (.int .i64 k) (.slice ra rs.length rc) (.slice oa os.length oc) (.int .i64 0) 3 eq ev) := ((DoBox.new w _ _ _ _ _ _ _ _ _ _).below b1).below (below_alloc w1 _)
 clear b1
 obtain ⟨p0, p1, p2, p3, -, -, -, -, -, -, -, -⟩ := X1.out
 go_wp2_with fail
 clear p0 p1 p2 p3
 have V1 : Hid (EvC3 (w1.alloc (oQ0 3 np nv)) w1.heap.size 3 np nv) := EvC3.new w1 _ _ _ _
 generalize w1.alloc (oQ0 3 np nv) = W1 at *
 refine (l2Copy_any _ _ _ _ _ _ rs os _ (by have := H4.out; omega) (by omega) (H1.out.below B1.out) (H2.out.below B1.out)).mono ?_
 rintro e w2 ⟨v2, rfl, o2, b2⟩
 obtain ⟨ra2, rc2, oa2, oc2, rfl, -, -⟩ := o2.read
 have bA := below_alloc w2 (oQ1 k ra2 rs.length rc2 oa2 os.length oc2 0)
 have q2 : Below W1.heap.size W1 (w2.alloc (oQ1 k ra2 rs.length rc2 oa2 os.length oc2 0)) := b2.trans (bA.mono b2.size)
 have X2 : Hid (DoBox (w2.alloc (oQ1 k ra2 rs.length rc2 oa2 os.length oc2 0)) w.heap.size (.int .i64 k) (.slice ra rs.length rc) (.slice oa os.length oc) (.int .i64 0) 3 eq ev) := X1.out.below q2
 have V2 : Hid (EvC3 (w2.alloc (oQ1 k ra2 rs.length rc2 oa2 os.length oc2 0)) w1.heap.size 3 np nv) := V1.out.below q2
 have Y2 : Hid (BoxC (w2.alloc (oQ1 k ra2 rs.length rc2 oa2 os.length oc2 0)) w2.heap.size (.int .i64 k) (.slice ra2 rs.length rc2) (.slice oa2 os.length oc2) (.int .i64 0)) := BoxC.new w2 _ _ _ _ _
 have F2 : Hid (∀ j, (w2.alloc (oQ1 k ra2 rs.length rc2 oa2 os.length oc2 0)).frozen? ⟨w2.heap.size, j, none⟩ = false) := fun j => by simp
 have O2 : Hid (StOwn (w2.alloc (oQ1 k ra2 rs.length rc2 oa2 os.length oc2 0)) W1.heap.size (stV k ra2 rs.length rc2 oa2 os.length oc2 0) k rs os 0) := o2.below bA
 have L2 : Hid (∀ j, hasBlock (stV k ra2 rs.length rc2 oa2 os.length oc2 0) j → W1.heap.size ≤ j ∧ j < w2.heap.size) := fun j hj => o2.lt hj
 have B2 : Hid (Below w.heap.size w (w2.alloc (oQ1 k ra2 rs.length rc2 oa2 os.length oc2 0))) := B1.out.trans (q2.mono B1.out.size)
 have zw : w.heap.size + 1 + 1 < W1.heap.size := X1.out.lt
 have zv : w1.heap.size < W1.heap.size := World.block_lt_of_cell? W1 _ V1.out.1
 have z2 : W1.heap.size ≤ w2.heap.size := b2.size
 clear b2 o2 bA q2 X1 V1 B1
 obtain ⟨p0, p1, p2, p3, e0, e1, e2, r0, r1, r2, r3, rf⟩ := X2.out
 obtain ⟨u0, u1, u2⟩ := V2.out
 obtain ⟨t0, t1, t2, t3⟩ := Y2.out
 have tf := F2.out
 go_wp2_with (first | (go_at_call 154; refine (l1Num_any _ _).mono ?_; rintro e w' ⟨rfl, rfl⟩) | (go_at_call 51; refine (l1In_any _ _ _ _).mono ?_; rintro e w' ⟨rfl, rfl⟩))
 generalize w2.alloc (oQ1 k ra2 rs.length rc2 oa2 os.length oc2 0) = W2 at *
 obtain ⟨o1, o2, ha⟩ := O2.out.parts
 obtain ⟨G, rfl, _, hG1, hG2⟩ := own_some o1 (by have := H4.out; omega)
 have hGw : W1.heap.size ≤ G ∧ G < w2.heap.size := L2.out G ((hasBlock_iff _ _ _ _ _).2 (.inl rfl))
 obtain ⟨⟨q1', q11⟩, ⟨r0', r3'⟩, -, -⟩ := ins_range (right_ins HP.out hk)
 obtain ⟨jr, hjr⟩ := Int.eq_ofNat_of_zero_le r0'
 obtain ⟨c0, c1, c2, c3, c4⟩ := HI.out.below B2.out hb k hk
 rw [hjr] at c1
 have hj4 : jr < rs.length := by have := H4.out; omega
 have hj4' : (jr : Int) < (rs.length : Int) := by omega
 have cg : W2.cell? ⟨G, jr, none⟩ = some (.int .i64 (zi rs jr)) := o1.cell hj4
 have fg : W2.frozen? ⟨G, jr, none⟩ = false := o1.frozen jr
 have HD : Hid (doneS len (g k) k rs os 0 ev = goS len k (rs.set jr ev) os 0) := by
  show doneS len (g k) k rs os 0 ev = goS len k (rs.set jr ev) os 0
  unfold doneS
  rw [H7.out, if_neg (by decide), if_pos rfl, hjr, Int.toNat_natCast]
 have zG : w.heap.size < G ∧ w.heap.size + 1 < G ∧ w.heap.size + 1 + 1 < G ∧ G ≠ w2.heap.size := by omega
 have zb : b ≠ G := by have := B2.out; omega
 clear o1 o2 ha c0 c2 c3 c4 hjr q1' q11 r0' r3'
 go_region
 have m3 : Marked (stV k (some ⟨G, 0, none⟩) rs.length rc2 oa2 os.length oc2 0) W2 (W2.setCell ⟨G, jr, none⟩ (.int .i64 ev)).drew := Marked.of_row (row := some G) (grown_dr (grown_setCell (p := ⟨G, jr, none⟩) (World.grownBy.refl W2 (some G)) (.inl rfl) _)) fun j hj => (hasBlock_iff _ _ _ _ _).2 (.inl (by cases hj; rfl))
 have O3 : Hid (StOwn (W2.setCell ⟨G, jr, none⟩ (.int .i64 ev)).drew W1.heap.size (stV k (some ⟨G, 0, none⟩) rs.length rc2 oa2 os.length oc2 0) k (rs.set jr ev) os 0) := by
  obtain ⟨o1, o2, ha⟩ := O2.out.parts
  exact ⟨_, _, rfl, (o1.set rfl jr ev).1, o2.setOther (fun e => ha G rfl e) _, ha⟩
 have X3 : Hid (DoBox (W2.setCell ⟨G, jr, none⟩ (.int .i64 ev)).drew w.heap.size (.int .i64 k) (.slice ra rs.length rc) (.slice oa os.length oc) (.int .i64 0) 3 eq ev) := X2.out.marked m3 fun j hj => by have := L2.out j hj; omega
 have Y3 : Hid (BoxC (W2.setCell ⟨G, jr, none⟩ (.int .i64 ev)).drew w2.heap.size (.int .i64 k) (.slice (some ⟨G, 0, none⟩) rs.length rc2) (.slice oa2 os.length oc2) (.int .i64 0)) := Y2.out.marked m3 fun hh => by have := L2.out _ hh; omega
 have B3 : Hid (Below w.heap.size w (W2.setCell ⟨G, jr, none⟩ (.int .i64 ev)).drew) := B2.out.trans (m3.below B2.out.size fun j hj => by have := L2.out j hj; omega)
 clear p0 p1 p2 p3 e0 e1 e2 r0 r1 r2 r3 rf u0 u1 u2 t0 t1 t2 t3 tf m3 X2 V2 Y2 F2 O2 B2 cg fg c1
 obtain ⟨t0, t1, t2, t3⟩ := Y3.out
 go_wp2_with fail
 clear t0 t1 t2 t3
 generalize (W2.setCell ⟨G, jr, none⟩ (.int .i64 ev)).drew = W3 at *
 refine (l2Go_any _ _ _ _ _ _ _ _ _ _ _ _ (by omega) (by omega)).mono ?_
 rintro e w4 ⟨rfl, b4⟩
 have X4 : Hid (DoBox w4 w.heap.size (.int .i64 k) (.slice ra rs.length rc) (.slice oa os.length oc) (.int .i64 0) 3 eq ev) := X3.out.below b4
 have O4 : Hid (StOwn w4 W1.heap.size (stV k (some ⟨G, 0, none⟩) rs.length rc2 oa2 os.length oc2 0) k (rs.set jr ev) os 0) := O3.out.below b4
 have B4 : Hid (Below w.heap.size w w4) := B3.out.trans (b4.mono B3.out.size)
 clear b4 X3 Y3 O3 B3
 obtain ⟨-, -, -, -, -, -, -, r0, r1, r2, r3, rf⟩ := X4.out
 go_wp2
 refine bodyPost_ret (v := .tuple #[stV (goP len k) (some ⟨G, 0, none⟩) rs.length rc2 oa2 os.length oc2 (goC len k 0), .bool true]) (by simp [results, Tryz.results144, go_sem, r0, r1, r2, r3]) rfl ⟨_, rfl, ?_, ?_⟩
 ·rw [HD.out]
  exact StOwn.put4 (B' := W1.heap.size) ((O4.out.replace _).recode _) zw (by omega)
 ·have := B4.out
  go_grown
theorem l2Do_take_one (b off len cap k : Nat) (g : Nat → I5) (ra oa : Option Addr) (rc oc : Nat) (rs os : List Int) (eq ev : Int) (w : World) (hl : (len : Int) ≤ 30) (hb : b < w.heap.size) (hI : InsAt w b off len g) (h4 : rs.length = 4) (ho : os.length ≤ 60) (h1 : Sl w ra rs) (h2 : Sl w oa os) (hk : k < len) (hp : progOkB g len 4 = true) (np nv : Int) (HN : Hid (evK (g k).o = 3 ∧ evP (g k).o (g k).n = np ∧ evW (g k).o (g k).a rs = nv)) (H7 : Hid ((g k).o = 7)) (q2 : inB ev (-1000000000) 1000000000 = true) (q3 : (np != 9) = true) (q4 : (eq != np) = false) (q5 : inB eq 0 3 = true) :
  Calls Tryz.prog 144 #[.slice (some ⟨b, off, none⟩) len cap, stV k ra rs.length rc oa os.length oc 0, evV 3 eq ev] w fun e w' => ∃ v, e = .returned (.tuple #[v, .bool true]) ∧ StOwn w' w.heap.size v (doneS len (g k) k rs os 0 ev).p (doneS len (g k) k rs os 0 ev).rs (doneS len (g k) k rs os 0 ev).os (doneS len (g k) k rs os 0 ev).c ∧ Below w.heap.size w w' := by
 have HI : Hid (InsAt w b off len g) := hI
 have H1 : Hid (Sl w ra rs) := h1
 have H2 : Hid (Sl w oa os) := h2
 have H4 : Hid (rs.length = 4) := h4
 have HP : Hid (progOkB g len 4 = true) := hp
 have hk' : (k : Int) < (len : Int) := by omega
 clear hI h1 h2 h4 hp
 go_enter Tryz.func144, Tryz.ntmps144
 go_wp2_with fail
 refine (l2Next_any _ _ _ _ k g _ _ _ _ _ _ rs _ (by unfold maxLen; omega) (by simp; omega) (HI.out.below (by go_grown) hb) (H1.out.below (by go_grown)) H4.out hk HP.out).mono ?_
 rintro e w1 ⟨he1, b1⟩
 rw [HN.out.1, HN.out.2.1, HN.out.2.2] at he1
 subst he1
 have B1 : Hid (Below w.heap.size w (w1.alloc (oQ0 3 np nv))) := (below_up (by go_grown) b1 (by simp; omega)).alloc (by have := b1.size; simp at this; omega) _
 have X1 : Hid (DoBox (w1.alloc (oQ0 3 np nv)) w.heap.size (.int .i64 k) (.slice ra rs.length rc) (.slice oa os.length oc) (.int .i64 0) 3 eq ev) := ((DoBox.new w _ _ _ _ _ _ _ _ _ _).below b1).below (below_alloc w1 _)
 clear b1
 obtain ⟨p0, p1, p2, p3, -, -, -, -, -, -, -, -⟩ := X1.out
 go_wp2_with fail
 clear p0 p1 p2 p3
 have V1 : Hid (EvC3 (w1.alloc (oQ0 3 np nv)) w1.heap.size 3 np nv) := EvC3.new w1 _ _ _ _
 generalize w1.alloc (oQ0 3 np nv) = W1 at *
 refine (l2Copy_any _ _ _ _ _ _ rs os _ (by have := H4.out; omega) (by omega) (H1.out.below B1.out) (H2.out.below B1.out)).mono ?_
 rintro e w2 ⟨v2, rfl, o2, b2⟩
 obtain ⟨ra2, rc2, oa2, oc2, rfl, -, -⟩ := o2.read
 have bA := below_alloc w2 (oQ1 k ra2 rs.length rc2 oa2 os.length oc2 0)
 have q2 : Below W1.heap.size W1 (w2.alloc (oQ1 k ra2 rs.length rc2 oa2 os.length oc2 0)) := b2.trans (bA.mono b2.size)
 have X2 : Hid (DoBox (w2.alloc (oQ1 k ra2 rs.length rc2 oa2 os.length oc2 0)) w.heap.size (.int .i64 k) (.slice ra rs.length rc) (.slice oa os.length oc) (.int .i64 0) 3 eq ev) := X1.out.below q2
 have V2 : Hid (EvC3 (w2.alloc (oQ1 k ra2 rs.length rc2 oa2 os.length oc2 0)) w1.heap.size 3 np nv) := V1.out.below q2
 have Y2 : Hid (BoxC (w2.alloc (oQ1 k ra2 rs.length rc2 oa2 os.length oc2 0)) w2.heap.size (.int .i64 k) (.slice ra2 rs.length rc2) (.slice oa2 os.length oc2) (.int .i64 0)) := BoxC.new w2 _ _ _ _ _
 have F2 : Hid (∀ j, (w2.alloc (oQ1 k ra2 rs.length rc2 oa2 os.length oc2 0)).frozen? ⟨w2.heap.size, j, none⟩ = false) := fun j => by simp
 have O2 : Hid (StOwn (w2.alloc (oQ1 k ra2 rs.length rc2 oa2 os.length oc2 0)) W1.heap.size (stV k ra2 rs.length rc2 oa2 os.length oc2 0) k rs os 0) := o2.below bA
 have L2 : Hid (∀ j, hasBlock (stV k ra2 rs.length rc2 oa2 os.length oc2 0) j → W1.heap.size ≤ j ∧ j < w2.heap.size) := fun j hj => o2.lt hj
 have B2 : Hid (Below w.heap.size w (w2.alloc (oQ1 k ra2 rs.length rc2 oa2 os.length oc2 0))) := B1.out.trans (q2.mono B1.out.size)
 have zw : w.heap.size + 1 + 1 < W1.heap.size := X1.out.lt
 have zv : w1.heap.size < W1.heap.size := World.block_lt_of_cell? W1 _ V1.out.1
 have z2 : W1.heap.size ≤ w2.heap.size := b2.size
 clear b2 o2 bA q2 X1 V1 B1
 obtain ⟨p0, p1, p2, p3, e0, e1, e2, r0, r1, r2, r3, rf⟩ := X2.out
 obtain ⟨u0, u1, u2⟩ := V2.out
 obtain ⟨t0, t1, t2, t3⟩ := Y2.out
 have tf := F2.out
 go_wp2_with (first | (go_at_call 154; refine (l1Num_any _ _).mono ?_; rintro e w' ⟨rfl, rfl⟩) | (go_at_call 51; refine (l1In_any _ _ _ _).mono ?_; rintro e w' ⟨rfl, rfl⟩))
 generalize w2.alloc (oQ1 k ra2 rs.length rc2 oa2 os.length oc2 0) = W2 at *
 obtain ⟨o1, o2, ha⟩ := O2.out.parts
 obtain ⟨G, rfl, _, hG1, hG2⟩ := own_some o1 (by have := H4.out; omega)
 have hGw : W1.heap.size ≤ G ∧ G < w2.heap.size := L2.out G ((hasBlock_iff _ _ _ _ _).2 (.inl rfl))
 obtain ⟨⟨q1', q11⟩, ⟨r0', r3'⟩, -, -⟩ := ins_range (right_ins HP.out hk)
 obtain ⟨jr, hjr⟩ := Int.eq_ofNat_of_zero_le r0'
 obtain ⟨c0, c1, c2, c3, c4⟩ := HI.out.below B2.out hb k hk
 rw [hjr] at c1
 have hj4 : jr < rs.length := by have := H4.out; omega
 have hj4' : (jr : Int) < (rs.length : Int) := by omega
 have cg : W2.cell? ⟨G, jr, none⟩ = some (.int .i64 (zi rs jr)) := o1.cell hj4
 have fg : W2.frozen? ⟨G, jr, none⟩ = false := o1.frozen jr
 have HD : Hid (doneS len (g k) k rs os 0 ev = goS len k (rs.set jr ev) os 0) := by
  show doneS len (g k) k rs os 0 ev = goS len k (rs.set jr ev) os 0
  unfold doneS
  rw [H7.out, if_neg (by decide), if_pos rfl, hjr, Int.toNat_natCast]
 have zG : w.heap.size < G ∧ w.heap.size + 1 < G ∧ w.heap.size + 1 + 1 < G ∧ G ≠ w2.heap.size := by omega
 have zb : b ≠ G := by have := B2.out; omega
 clear o1 o2 ha c0 c2 c3 c4 hjr q1' q11 r0' r3'
 go_region
 have m3 : Marked (stV k (some ⟨G, 0, none⟩) rs.length rc2 oa2 os.length oc2 0) W2 (W2.setCell ⟨G, jr, none⟩ (.int .i64 ev)).drew := Marked.of_row (row := some G) (grown_dr (grown_setCell (p := ⟨G, jr, none⟩) (World.grownBy.refl W2 (some G)) (.inl rfl) _)) fun j hj => (hasBlock_iff _ _ _ _ _).2 (.inl (by cases hj; rfl))
 have O3 : Hid (StOwn (W2.setCell ⟨G, jr, none⟩ (.int .i64 ev)).drew W1.heap.size (stV k (some ⟨G, 0, none⟩) rs.length rc2 oa2 os.length oc2 0) k (rs.set jr ev) os 0) := by
  obtain ⟨o1, o2, ha⟩ := O2.out.parts
  exact ⟨_, _, rfl, (o1.set rfl jr ev).1, o2.setOther (fun e => ha G rfl e) _, ha⟩
 have X3 : Hid (DoBox (W2.setCell ⟨G, jr, none⟩ (.int .i64 ev)).drew w.heap.size (.int .i64 k) (.slice ra rs.length rc) (.slice oa os.length oc) (.int .i64 0) 3 eq ev) := X2.out.marked m3 fun j hj => by have := L2.out j hj; omega
 have Y3 : Hid (BoxC (W2.setCell ⟨G, jr, none⟩ (.int .i64 ev)).drew w2.heap.size (.int .i64 k) (.slice (some ⟨G, 0, none⟩) rs.length rc2) (.slice oa2 os.length oc2) (.int .i64 0)) := Y2.out.marked m3 fun hh => by have := L2.out _ hh; omega
 have B3 : Hid (Below w.heap.size w (W2.setCell ⟨G, jr, none⟩ (.int .i64 ev)).drew) := B2.out.trans (m3.below B2.out.size fun j hj => by have := L2.out j hj; omega)
 clear p0 p1 p2 p3 e0 e1 e2 r0 r1 r2 r3 rf u0 u1 u2 t0 t1 t2 t3 tf m3 X2 V2 Y2 F2 O2 B2 cg fg c1
 obtain ⟨t0, t1, t2, t3⟩ := Y3.out
 go_wp2_with fail
 clear t0 t1 t2 t3
 generalize (W2.setCell ⟨G, jr, none⟩ (.int .i64 ev)).drew = W3 at *
 refine (l2Go_any _ _ _ _ _ _ _ _ _ _ _ _ (by omega) (by omega)).mono ?_
 rintro e w4 ⟨rfl, b4⟩
 have X4 : Hid (DoBox w4 w.heap.size (.int .i64 k) (.slice ra rs.length rc) (.slice oa os.length oc) (.int .i64 0) 3 eq ev) := X3.out.below b4
 have O4 : Hid (StOwn w4 W1.heap.size (stV k (some ⟨G, 0, none⟩) rs.length rc2 oa2 os.length oc2 0) k (rs.set jr ev) os 0) := O3.out.below b4
 have B4 : Hid (Below w.heap.size w w4) := B3.out.trans (b4.mono B3.out.size)
 clear b4 X3 Y3 O3 B3
 obtain ⟨-, -, -, -, -, -, -, r0, r1, r2, r3, rf⟩ := X4.out
 go_wp2
 refine bodyPost_ret (v := .tuple #[stV (goP len k) (some ⟨G, 0, none⟩) rs.length rc2 oa2 os.length oc2 (goC len k 0), .bool true]) (by simp [results, Tryz.results144, go_sem, r0, r1, r2, r3]) rfl ⟨_, rfl, ?_, ?_⟩
 ·rw [HD.out]
  exact StOwn.put4 (B' := W1.heap.size) ((O4.out.replace _).recode _) zw (by omega)
 ·have := B4.out
  go_grown
theorem l2Do_print (b off len cap k : Nat) (g : Nat → I5) (ra oa : Option Addr) (rc oc : Nat) (rs os : List Int) (w : World) (hl : (len : Int) ≤ 30) (hb : b < w.heap.size) (hI : InsAt w b off len g) (h4 : rs.length = 4) (ho : os.length ≤ 60) (h1 : Sl w ra rs) (h2 : Sl w oa os) (hk : k < len) (hp : progOkB g len 4 = true) (np nv : Int) (HN : Hid (evK (g k).o = 4 ∧ evP (g k).o (g k).n = np ∧ evW (g k).o (g k).a rs = nv)) (H8 : Hid ((g k).o = 8 ∧ os.length ≠ 60)) (h60 : ((os.length : Int) == 60) = false) :
  Calls Tryz.prog 144 #[.slice (some ⟨b, off, none⟩) len cap, stV k ra rs.length rc oa os.length oc 0, evV 4 np nv] w fun e w' => ∃ v, e = .returned (.tuple #[v, .bool true]) ∧ StOwn w' w.heap.size v (doneS len (g k) k rs os 0 nv).p (doneS len (g k) k rs os 0 nv).rs (doneS len (g k) k rs os 0 nv).os (doneS len (g k) k rs os 0 nv).c ∧ Below w.heap.size w w' := by
 have HI : Hid (InsAt w b off len g) := hI
 have H1 : Hid (Sl w ra rs) := h1
 have H2 : Hid (Sl w oa os) := h2
 have H4 : Hid (rs.length = 4) := h4
 have HP : Hid (progOkB g len 4 = true) := hp
 have hk' : (k : Int) < (len : Int) := by omega
 clear hI h1 h2 h4 hp
 go_enter Tryz.func144, Tryz.ntmps144
 go_wp2_with fail
 refine (l2Next_any _ _ _ _ k g _ _ _ _ _ _ rs _ (by unfold maxLen; omega) (by simp; omega) (HI.out.below (by go_grown) hb) (H1.out.below (by go_grown)) H4.out hk HP.out).mono ?_
 rintro e w1 ⟨he1, b1⟩
 rw [HN.out.1, HN.out.2.1, HN.out.2.2] at he1
 subst he1
 have B1 : Hid (Below w.heap.size w (w1.alloc (oQ0 4 np nv))) := (below_up (by go_grown) b1 (by simp; omega)).alloc (by have := b1.size; simp at this; omega) _
 have X1 : Hid (DoBox (w1.alloc (oQ0 4 np nv)) w.heap.size (.int .i64 k) (.slice ra rs.length rc) (.slice oa os.length oc) (.int .i64 0) 4 np nv) := ((DoBox.new w _ _ _ _ _ _ _ _ _ _).below b1).below (below_alloc w1 _)
 clear b1
 obtain ⟨p0, p1, p2, p3, -, -, -, -, -, -, -, -⟩ := X1.out
 go_wp2_with fail
 clear p0 p1 p2 p3
 have V1 : Hid (EvC3 (w1.alloc (oQ0 4 np nv)) w1.heap.size 4 np nv) := EvC3.new w1 _ _ _ _
 generalize w1.alloc (oQ0 4 np nv) = W1 at *
 refine (l2Copy_any _ _ _ _ _ _ rs os _ (by have := H4.out; omega) (by omega) (H1.out.below B1.out) (H2.out.below B1.out)).mono ?_
 rintro e w2 ⟨v2, rfl, o2, b2⟩
 obtain ⟨ra2, rc2, oa2, oc2, rfl, -, -⟩ := o2.read
 have bA := below_alloc w2 (oQ1 k ra2 rs.length rc2 oa2 os.length oc2 0)
 have q2 : Below W1.heap.size W1 (w2.alloc (oQ1 k ra2 rs.length rc2 oa2 os.length oc2 0)) := b2.trans (bA.mono b2.size)
 have X2 : Hid (DoBox (w2.alloc (oQ1 k ra2 rs.length rc2 oa2 os.length oc2 0)) w.heap.size (.int .i64 k) (.slice ra rs.length rc) (.slice oa os.length oc) (.int .i64 0) 4 np nv) := X1.out.below q2
 have V2 : Hid (EvC3 (w2.alloc (oQ1 k ra2 rs.length rc2 oa2 os.length oc2 0)) w1.heap.size 4 np nv) := V1.out.below q2
 have Y2 : Hid (BoxC (w2.alloc (oQ1 k ra2 rs.length rc2 oa2 os.length oc2 0)) w2.heap.size (.int .i64 k) (.slice ra2 rs.length rc2) (.slice oa2 os.length oc2) (.int .i64 0)) := BoxC.new w2 _ _ _ _ _
 have F2 : Hid (∀ j, (w2.alloc (oQ1 k ra2 rs.length rc2 oa2 os.length oc2 0)).frozen? ⟨w2.heap.size, j, none⟩ = false) := fun j => by simp
 have O2 : Hid (StOwn (w2.alloc (oQ1 k ra2 rs.length rc2 oa2 os.length oc2 0)) W1.heap.size (stV k ra2 rs.length rc2 oa2 os.length oc2 0) k rs os 0) := o2.below bA
 have L2 : Hid (∀ j, hasBlock (stV k ra2 rs.length rc2 oa2 os.length oc2 0) j → W1.heap.size ≤ j ∧ j < w2.heap.size) := fun j hj => o2.lt hj
 have B2 : Hid (Below w.heap.size w (w2.alloc (oQ1 k ra2 rs.length rc2 oa2 os.length oc2 0))) := B1.out.trans (q2.mono B1.out.size)
 have zw : w.heap.size + 1 + 1 < W1.heap.size := X1.out.lt
 have zv : w1.heap.size < W1.heap.size := World.block_lt_of_cell? W1 _ V1.out.1
 have z2 : W1.heap.size ≤ w2.heap.size := b2.size
 clear b2 o2 bA q2 X1 V1 B1
 obtain ⟨p0, p1, p2, p3, e0, e1, e2, r0, r1, r2, r3, rf⟩ := X2.out
 obtain ⟨u0, u1, u2⟩ := V2.out
 obtain ⟨t0, t1, t2, t3⟩ := Y2.out
 have tf := F2.out
 go_wp2_with (at_builtin; refine append_stop rfl ?_)
 unfold STOP
 have AS : Hid (Sl ((w2.alloc (oQ1 k ra2 rs.length rc2 oa2 os.length oc2 0)).alloc (.cells #[.int .i64 nv] 3)) (some ⟨w2.heap.size + 1, 0, none⟩) [nv]) := .inr ⟨w2.heap.size + 1, 0, rfl, by simp, fun i hi => by
  obtain rfl : i = 0 := by simp at hi; omega
  exact new_cell _ _ _ 0 (by simp)⟩
 have bA := below_alloc (w2.alloc (oQ1 k ra2 rs.length rc2 oa2 os.length oc2 0)) (.cells #[.int .i64 nv] 3)
 clear p0 p1 p2 p3 e0 e1 e2 r0 r1 r2 r3 rf u0 u1 u2 t0 t1 t2 t3 tf
 have hsz : (w2.alloc (oQ1 k ra2 rs.length rc2 oa2 os.length oc2 0)).heap.size = w2.heap.size + 1 := by simp
 have HZ : Hid ((w2.alloc (oQ1 k ra2 rs.length rc2 oa2 os.length oc2 0)).heap.size = w2.heap.size + 1) := hsz
 clear hsz
 generalize w2.alloc (oQ1 k ra2 rs.length rc2 oa2 os.length oc2 0) = W2 at *
 obtain ⟨o1, o2, ha⟩ := O2.out.parts
 refine wpList_append_ints _ rfl _ _ rfl W1.heap.size 1 (.slice oa2 os.length oc2) (some ⟨w2.heap.size + 1, 0, none⟩) os [nv] rfl rfl (o2.below bA) AS.out (by simp; omega) (by have := HZ.out; simp; omega) ?_
 intro v3 w3 o3 g3 at3
 obtain ⟨oa3, oc3, hv3, -⟩ := o3.form
 rw [show (os ++ [nv]).length = os.length + 1 by simp] at hv3
 subst hv3
 have m3 : Marked (stV k ra2 rs.length rc2 oa2 os.length oc2 0) W2 w3 := (Marked.of_below bA).trans (Marked.of_row g3 fun j hj => (hasBlock_iff _ _ _ _ _).2 (.inr hj))
 have o1' : OwnI w3 W1.heap.size (.slice ra2 rs.length rc2) rs := own_apart (o1.below bA) g3 fun j h1 h2 => ha j h2 h1
 have lr : ∀ j, (Value.slice ra2 rs.length rc2).ownBlock = some j → j < w2.heap.size := fun j hj => (L2.out j ((hasBlock_iff _ _ _ _ _).2 (.inl hj))).2
 have lo : ∀ j, (Value.slice oa3 (os.length + 1) oc3).ownBlock = some j → j < w2.heap.size ∨ w2.heap.size < j := fun j hj => by
  rcases at3 with h | h
  ·exact .inl (L2.out j ((hasBlock_iff _ _ _ _ _).2 (.inr (h.symm.trans hj)))).2
  ·rw [hj, World.size_alloc, HZ.out] at h
   exact .inr (by cases h; omega)
 have ha' : ∀ j, (Value.slice ra2 rs.length rc2).ownBlock = some j → (Value.slice oa3 (os.length + 1) oc3).ownBlock ≠ some j := fun j hj hj' => by
  rcases at3 with h | h
  ·exact ha j hj (h.symm.trans hj')
  ·rw [hj', World.size_alloc, HZ.out] at h
   have := lr j hj
   cases h
   omega
 have Y3 := Y2.out.marked m3 fun hh => by have := L2.out _ hh; omega
 have f3 : ∀ j, w3.frozen? ⟨w2.heap.size, j, none⟩ = false := fun j => (m3.frozen (by have := HZ.out; omega) (fun hh => by have := L2.out _ hh; omega) j).trans (F2.out j)
 have X3 : Hid (DoBox w3 w.heap.size (.int .i64 k) (.slice ra rs.length rc) (.slice oa os.length oc) (.int .i64 0) 4 np nv) := X2.out.marked m3 fun j hj => by have := L2.out j hj; omega
 have X4 : Hid (DoBox (w3.setCell ⟨w2.heap.size, 2, none⟩ (.slice oa3 (os.length + 1) oc3)) w.heap.size (.int .i64 k) (.slice ra rs.length rc) (.slice oa os.length oc) (.int .i64 0) 4 np nv) := X3.out.kept fun j _ hj => Below.heap_setCell _ _ _ _ (by simp; omega)
 have O4 : Hid (StOwn (w3.setCell ⟨w2.heap.size, 2, none⟩ (.slice oa3 (os.length + 1) oc3)) W1.heap.size (stV k ra2 rs.length rc2 oa3 (os.length + 1) oc3 0) k rs (os ++ [nv]) 0) := ⟨_, _, rfl, o1'.setOther (fun e => by have := lr _ e; simp at this) _, o3.setOther (fun e => by have := lo _ e; simp at this) _, ha'⟩
 have B4 : Hid (Below w.heap.size w (w3.setCell ⟨w2.heap.size, 2, none⟩ (.slice oa3 (os.length + 1) oc3))) := (B2.out.trans (m3.below B2.out.size fun j hj => by have := L2.out j hj; omega)).setCell (by simp; omega) _
 clear o1 o2 ha o3 g3 at3 bA AS m3 o1' lr lo ha' X2 V2 Y2 F2 O2 B2 X3
 obtain ⟨t0, t1, t2, t3⟩ := Y3
 go_wp2_with fail
 clear t0 t1 t2 t3 f3
 generalize (w3.setCell ⟨w2.heap.size, 2, none⟩ (.slice oa3 (os.length + 1) oc3)) = W4 at *
 refine (l2Go_any _ _ _ _ _ _ _ _ _ _ _ _ (by omega) (by omega)).mono ?_
 rintro e w5 ⟨rfl, b5⟩
 have X5 : Hid (DoBox w5 w.heap.size (.int .i64 k) (.slice ra rs.length rc) (.slice oa os.length oc) (.int .i64 0) 4 np nv) := X4.out.below b5
 have O5 : Hid (StOwn w5 W1.heap.size (stV k ra2 rs.length rc2 oa3 (os.length + 1) oc3 0) k rs (os ++ [nv]) 0) := O4.out.below b5
 have B5 : Hid (Below w.heap.size w w5) := B4.out.trans (b5.mono B4.out.size)
 clear b5 X4 O4 B4
 obtain ⟨-, -, -, -, -, -, -, r0, r1, r2, r3, rf⟩ := X5.out
 go_wp2
 refine bodyPost_ret (v := .tuple #[stV (goP len k) ra2 rs.length rc2 oa3 (os.length + 1) oc3 (goC len k 0), .bool true]) (by simp [results, Tryz.results144, go_sem, r0, r1, r2, r3]) rfl ⟨_, rfl, ?_, ?_⟩
 ·have hd : doneS len (g k) k rs os 0 nv = goS len k rs (os ++ [nv]) 0 := by
   unfold doneS
   rw [H8.out.1, if_neg (by decide), if_neg (by decide), if_pos rfl, if_neg H8.out.2]
  rw [hd]
  exact StOwn.put4 (B' := W1.heap.size) ((O5.out.replace _).recode _) zw (by omega)
 ·have := B5.out
  go_grown
theorem canB_take (np nv k p v : Int) : canB 3 np nv k p v = ((k == 3) && numB v && (if np = 9 then belB p 4 else p == np)) := by
 unfold canB
 rw [if_pos rfl]
theorem canB_other {nk : Int} (h3 : nk ≠ 3) (h0 : nk ≠ 0) (np nv k p v : Int) : canB nk np nv k p v = evEqB k p v nk np nv := by
 unfold canB evEqB
 rw [if_neg h3]
 have : (nk != 0) = true := by simp [h0]
 rw [this, Bool.true_and]
theorem evEqB_true {a b c a' b' c' : Int} (h : evEqB a b c a' b' c' = true) : a = a' ∧ b = b' ∧ c = c' := by
 simpa [evEqB] using h
theorem take_from {x : I5} {len : Int} (h : insOkB x.o x.r x.a x.b x.n len 4 = true) (h7 : x.o = 7) : x.n = 9 ∨ (0 ≤ x.n ∧ x.n ≤ 3) := by
 simp only [insOkB, Bool.and_eq_true] at h
 have h5 := h.2
 unfold opOkB at h5
 rw [h7] at h5
 simp [inB] at h5
 omega
def DoneR (w : World) (s : S4) (t : Bool) (e : Ending) (w' : World) : Prop := ∃ v, e = .returned (.tuple #[v, .bool t]) ∧ StOwn w' w.heap.size v s.p s.rs s.os s.c ∧ Below w.heap.size w w'
theorem l2Do_any (b off len cap k : Nat) (g : Nat → I5) (ra oa : Option Addr) (rc oc : Nat) (rs os : List Int) (ek eq ev : Int) (w : World) (hb : b < w.heap.size) (hI : InsAt w b off len g) (h1 : Sl w ra rs) (h2 : Sl w oa os) (hR : rightB g len (k : Int) rs os 0 = true) :
  Calls Tryz.prog 144 #[.slice (some ⟨b, off, none⟩) len cap, stV k ra rs.length rc oa os.length oc 0, evV ek eq ev] w (DoneR w (doS g len k rs os 0 ek eq ev) (doB g len k rs os 0 ek eq ev)) := by
 obtain ⟨hp, hs, -⟩ := right_parts hR
 obtain ⟨⟨r0, r1, r2, r3, hrs, hn0, hn1, hn2, hn3⟩, ⟨k', hkk, hk'⟩, h60, hall⟩ := st_parts hs
 obtain rfl : k = k' := by omega
 have hk := hk'
 have h4 : rs.length = 4 := by rw [hrs]; rfl
 have hnum : allN rs = true := by rw [hrs]; simp [allN, hn0, hn1, hn2, hn3]
 have hl : (len : Int) ≤ 30 := by
  simp only [progOkB, Bool.and_eq_true] at hp
  have := hp.2.1
  simp [inB] at this
  omega
 have hins := right_ins hp hk
 obtain ⟨⟨o1, o11⟩, -⟩ := ins_range hins
 have hN : ∀ K P V, evK (g k).o = K → evP (g k).o (g k).n = P → evW (g k).o (g k).a rs = V → doB g len k rs os 0 ek eq ev = canB K P V ek eq ev := by
  intro K P V hK hP hV
  unfold doB nxK nxP nxW
  rw [if_pos hR, if_pos hR, if_pos hR, Int.toNat_natCast, hK, hP, hV]
 have hno : doB g len k rs os 0 ek eq ev = false → doS g len k rs os 0 ek eq ev = ⟨k, rs, os, 0⟩ := fun h => by
  unfold doS
  rw [if_neg (by rw [h]; decide)]
 have hyes : doB g len k rs os 0 ek eq ev = true → doS g len k rs os 0 ek eq ev = doneS len (g k) k rs os 0 ev := fun h => by
  unfold doS
  rw [if_pos h, Int.toNat_natCast]
 by_cases h7 : (g k).o = 7
 ·have eK : evK (g k).o = 3 := by rw [h7]; rfl
  have eP : evP (g k).o (g k).n = (g k).n := by rw [h7]; rfl
  have eV : evW (g k).o (g k).a rs = 0 := by rw [h7]; rfl
  have hc := hN _ _ _ eK eP eV
  rw [canB_take] at hc
  have HN : Hid (evK (g k).o = 3 ∧ evP (g k).o (g k).n = (g k).n ∧ evW (g k).o (g k).a rs = 0) := ⟨eK, eP, eV⟩
  rcases Bool.eq_false_or_eq_true (ek == 3) with t1 | t1
  case inr =>
   rw [t1] at hc
   rw [hc, hno hc]
   exact l2Do_take_no b off len cap k g ra oa rc oc rs os ek eq ev w hl hb hI h4 h60 h1 h2 hk hp _ _ HN (.inl (by simpa using t1))
  have t1' : (ek != 3) = false := by simpa using t1
  obtain rfl : ek = 3 := by simpa using t1
  rcases Bool.eq_false_or_eq_true (numB ev) with t2 | t2
  case inr =>
   rw [t2] at hc
   rw [hc, hno hc]
   exact l2Do_take_no b off len cap k g ra oa rc oc rs os 3 eq ev w hl hb hI h4 h60 h1 h2 hk hp _ _ HN (.inr (.inl ⟨t1', t2⟩))
  rcases take_from hins h7 with h9 | ⟨n0, n3⟩
  ·have t3 : ((g k).n != 9) = false := by simp [h9]
   rw [t1, t2, h9, if_pos rfl] at hc
   have hb4 : inB eq 0 3 = belB eq 4 := inB_below eq 4
   rcases Bool.eq_false_or_eq_true (belB eq 4) with t5 | t5
   ·rw [t5] at hc
    rw [hc, hyes hc]
    exact l2Do_take_any b off len cap k g ra oa rc oc rs os eq ev w hl hb hI h4 h60 h1 h2 hk hp _ _ HN h7 t2 t3 (hb4.trans t5)
   ·rw [t5] at hc
    rw [hc, hno hc]
    exact l2Do_take_no b off len cap k g ra oa rc oc rs os 3 eq ev w hl hb hI h4 h60 h1 h2 hk hp _ _ HN (.inr (.inr (.inr ⟨t1', t2, t3, hb4.trans t5⟩)))
  ·have t3 : ((g k).n != 9) = true := by simp; omega
   rw [t1, t2, if_neg (by omega)] at hc
   rcases Bool.eq_false_or_eq_true (eq == (g k).n) with t4 | t4
   ·have e4 : eq = (g k).n := by simpa using t4
    rw [t4] at hc
    rw [hc, hyes hc]
    exact l2Do_take_one b off len cap k g ra oa rc oc rs os eq ev w hl hb hI h4 h60 h1 h2 hk hp _ _ HN h7 t2 t3 (by simpa using t4) (by simp [inB]; omega)
   ·rw [t4] at hc
    rw [hc, hno hc]
    exact l2Do_take_no b off len cap k g ra oa rc oc rs os 3 eq ev w hl hb hI h4 h60 h1 h2 hk hp _ _ HN (.inr (.inr (.inl ⟨t1', t2, t3, by simpa using t4⟩)))
 by_cases h6 : (g k).o = 6
 ·have eK : evK (g k).o = 2 := by rw [h6]; rfl
  have hc := hN _ _ _ eK rfl rfl
  rw [canB_other (by decide) (by decide)] at hc
  have HN : Hid (evK (g k).o = 2 ∧ evP (g k).o (g k).n = evP (g k).o (g k).n ∧ evW (g k).o (g k).a rs = evW (g k).o (g k).a rs) := ⟨eK, rfl, rfl⟩
  rcases Bool.eq_false_or_eq_true (evEqB ek eq ev 2 (evP (g k).o (g k).n) (evW (g k).o (g k).a rs)) with t | t
  ·obtain ⟨rfl, rfl, rfl⟩ := evEqB_true t
   rw [t] at hc
   rw [hc, hyes hc]
   exact l2Do_send b off len cap k g ra oa rc oc rs os w hl hb hI h4 h60 h1 h2 hk hp _ _ HN h6
  ·rw [t] at hc
   rw [hc, hno hc]
   exact l2Do_no b off len cap k g ra oa rc oc rs os ek eq ev w hl hb hI h4 h60 h1 h2 hk hp 2 _ _ rfl HN t
 by_cases h8 : (g k).o = 8
 ·have eK : evK (g k).o = 4 := by rw [h8]; rfl
  have hc := hN _ _ _ eK rfl rfl
  rw [canB_other (by decide) (by decide)] at hc
  have HN : Hid (evK (g k).o = 4 ∧ evP (g k).o (g k).n = evP (g k).o (g k).n ∧ evW (g k).o (g k).a rs = evW (g k).o (g k).a rs) := ⟨eK, rfl, rfl⟩
  rcases Bool.eq_false_or_eq_true (evEqB ek eq ev 4 (evP (g k).o (g k).n) (evW (g k).o (g k).a rs)) with t | t
  ·obtain ⟨rfl, rfl, rfl⟩ := evEqB_true t
   rw [t] at hc
   rw [hc, hyes hc]
   by_cases h : os.length = 60
   ·exact l2Do_full b off len cap k g ra oa rc oc rs os w hl hb hI h4 h60 h1 h2 hk hp _ _ HN ⟨h8, h⟩ (by simp [h])
   ·exact l2Do_print b off len cap k g ra oa rc oc rs os w hl hb hI h4 h60 h1 h2 hk hp _ _ HN ⟨h8, h⟩ (by simp; omega)
  ·rw [t] at hc
   rw [hc, hno hc]
   exact l2Do_no b off len cap k g ra oa rc oc rs os ek eq ev w hl hb hI h4 h60 h1 h2 hk hp 4 _ _ rfl HN t
 have eK : evK (g k).o = 1 := by unfold evK; rw [if_neg h6, if_neg h7, if_neg h8]
 have eV : evW (g k).o (g k).a rs = 0 := by unfold evW; rw [if_neg h6, if_neg h8]
 have hc := hN _ _ _ eK rfl eV
 rw [canB_other (by decide) (by decide)] at hc
 have HN : Hid (evK (g k).o = 1 ∧ evP (g k).o (g k).n = evP (g k).o (g k).n ∧ evW (g k).o (g k).a rs = 0) := ⟨eK, rfl, eV⟩
 rcases Bool.eq_false_or_eq_true (evEqB ek eq ev 1 (evP (g k).o (g k).n) 0) with t | t
 ·obtain ⟨rfl, rfl, rfl⟩ := evEqB_true t
  rw [t] at hc
  rw [hc, hyes hc]
  exact l2Do_local b off len cap k g ra oa rc oc rs os w hl hb hI h4 h60 h1 h2 hk hp _ HN ⟨hnum, h6, h7, h8⟩
 ·rw [t] at hc
  rw [hc, hno hc]
  exact l2Do_no b off len cap k g ra oa rc oc rs os ek eq ev w hl hb hI h4 h60 h1 h2 hk hp 1 _ _ rfl HN t
end Go.Proofs.YtfdanemmefckpaaGreatDoor
