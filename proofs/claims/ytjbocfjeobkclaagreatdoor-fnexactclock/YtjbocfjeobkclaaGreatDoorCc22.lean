/- The walk of the program's settled. -/
import Derived.Test.YtjbocfjeobkclaaGreatDoorCc0
import Derived.Test.YtjbocfjeobkclaaGreatDoorCc21
import Derived.Test.YtjbocfjeobkclaaGreatDoorCc11
import Derived.Laws.EntriesVeiled
import Derived.Test.YtjbocfjeobkclaaGreatDoorCc12
namespace Go.Proofs.YtjbocfjeobkclaaGreatDoor
set_option maxRecDepth 100000
set_option maxHeartbeats 2000000
open Go.RowKit
theorem new_cellB (w : World) (cs : Array Value) (t : TypeId) (j : Nat) {N : Nat} (h : N = w.heap.size) : (w.alloc (.cells cs t)).cell? ⟨N, j, none⟩ = cs[j]? := by
 subst h
 simp
theorem new_frozenB (w : World) (cs : Array Value) (t : TypeId) (j : Nat) {N : Nat} (h : N = w.heap.size) : (w.alloc (.cells cs t)).frozen? ⟨N, j, none⟩ = false := by
 subst h
 simp
theorem set4_list (a b c d : Int) (j : Nat) (v : Int) (hj : j < 4) : [(set4 a b c d j v).1, (set4 a b c d j v).2.1, (set4 a b c d j v).2.2.1, (set4 a b c d j v).2.2.2] = [a, b, c, d].set j v := by
 match j, hj with
 | 0, _ => rfl
 | 1, _ => rfl
 | 2, _ => rfl
 | 3, _ => rfl
theorem step_set (p a b c d : Int) (oa : Option Addr) (on oc : Nat) (code : Int) (jr ja jb : Nat) (n o k q v : Int) (w : World) (h0 : 0 ≤ p) (h1 : p ≤ 1000000000) (hj : jr < 4) :
  Calls Tryz.prog 147 #[dV p a b c d oa on oc code, insV o jr ja jb n, evV k q v] w fun e w' => e = .returned (dV (p + 1) (set4 a b c d jr (n)).1 (set4 a b c d jr (n)).2.1 (set4 a b c d jr (n)).2.2.1 (set4 a b c d jr (n)).2.2.2 oa on oc code) ∧ Below w.heap.size w w' := by
 go_enter Tryz.func147, Tryz.ntmps147
 go_wp2_with fail
 refine (put_any _ _ _ _ _ _ _ _ _ _ _ _ h0 h1 hj).mono ?_
 rintro e w1 ⟨rfl, b1⟩
 have B1 : Hid (Below w.heap.size w w1) := below_up (by go_grown) b1 (by simp; omega)
 obtain ⟨hc1, hf1⟩ := bcell b1
 clear b1
 go_wp2
 refine bodyPost_ret (v := dV (p + 1) (set4 a b c d jr (n)).1 (set4 a b c d jr (n)).2.1 (set4 a b c d jr (n)).2.2.1 (set4 a b c d jr (n)).2.2.2 oa on oc code) (by simp [results, Tryz.results147, go_sem, hc1]) rfl ⟨rfl, ?_⟩
 have := B1.out
 go_grown
theorem step_take (p a b c d : Int) (oa : Option Addr) (on oc : Nat) (code : Int) (jr ja jb : Nat) (n o k q v : Int) (w : World) (h0 : 0 ≤ p) (h1 : p ≤ 1000000000) (hj : jr < 4) :
  Calls Tryz.prog 153 #[dV p a b c d oa on oc code, insV o jr ja jb n, evV k q v] w fun e w' => e = .returned (dV (p + 1) (set4 a b c d jr (v)).1 (set4 a b c d jr (v)).2.1 (set4 a b c d jr (v)).2.2.1 (set4 a b c d jr (v)).2.2.2 oa on oc code) ∧ Below w.heap.size w w' := by
 go_enter Tryz.func153, Tryz.ntmps153
 go_wp2_with fail
 refine (put_any _ _ _ _ _ _ _ _ _ _ _ _ h0 h1 hj).mono ?_
 rintro e w1 ⟨rfl, b1⟩
 have B1 : Hid (Below w.heap.size w w1) := below_up (by go_grown) b1 (by simp; omega)
 obtain ⟨hc1, hf1⟩ := bcell b1
 clear b1
 go_wp2
 refine bodyPost_ret (v := dV (p + 1) (set4 a b c d jr (v)).1 (set4 a b c d jr (v)).2.1 (set4 a b c d jr (v)).2.2.1 (set4 a b c d jr (v)).2.2.2 oa on oc code) (by simp [results, Tryz.results153, go_sem, hc1]) rfl ⟨rfl, ?_⟩
 have := B1.out
 go_grown
theorem step_send (p a b c d : Int) (oa : Option Addr) (on oc : Nat) (code : Int) (jr ja jb : Nat) (n o k q v : Int) (w : World) (h0 : 0 ≤ p) (h1 : p ≤ 1000000000) :
  Calls Tryz.prog 152 #[dV p a b c d oa on oc code, insV o jr ja jb n, evV k q v] w fun e w' => e = .returned (dV (p + 1) a b c d oa on oc code) ∧ Below w.heap.size w w' := by
 go_enter Tryz.func152, Tryz.ntmps152
 go_wp2_with fail
 refine (onward_any _ _ _ _ _ _ _ _ _ _ h0 h1).mono ?_
 rintro e w1 ⟨rfl, b1⟩
 have B1 : Hid (Below w.heap.size w w1) := below_up (by go_grown) b1 (by simp; omega)
 obtain ⟨hc1, hf1⟩ := bcell b1
 clear b1
 go_wp2
 refine bodyPost_ret (v := dV (p + 1) a b c d oa on oc code) (by simp [results, Tryz.results152, go_sem, hc1]) rfl ⟨rfl, ?_⟩
 have := B1.out
 go_grown
theorem step_jump (p a b c d : Int) (oa : Option Addr) (on oc : Nat) (code : Int) (jr ja jb : Nat) (n o k q v : Int) (w : World) (_h0 : 0 ≤ p) (_h1 : p ≤ 1000000000) :
  Calls Tryz.prog 155 #[dV p a b c d oa on oc code, insV o jr ja jb n, evV k q v] w fun e w' => e = .returned (dV n a b c d oa on oc code) ∧ Below w.heap.size w w' := by
 go_enter Tryz.func155, Tryz.ntmps155
 go_wp2
 refine bodyPost_ret (v := dV n a b c d oa on oc code) (by simp [results, Tryz.results155, go_sem]) rfl ⟨rfl, ?_⟩
 go_grown
theorem step_end (p a b c d : Int) (oa : Option Addr) (on oc : Nat) (code : Int) (jr ja jb : Nat) (n o k q v : Int) (w : World) (_h0 : 0 ≤ p) (_h1 : p ≤ 1000000000) :
  Calls Tryz.prog 157 #[dV p a b c d oa on oc code, insV o jr ja jb n, evV k q v] w fun e w' => e = .returned (dV p a b c d oa on oc 1) ∧ Below w.heap.size w w' := by
 go_enter Tryz.func157, Tryz.ntmps157
 go_wp2
 refine bodyPost_ret (v := dV p a b c d oa on oc 1) (by simp [results, Tryz.results157, go_sem]) rfl ⟨rfl, ?_⟩
 go_grown
theorem diB_w1 {w W : World} {v0 : Int} {v1 : Int} {v2 : Int} {v3 : Int} {v4 : Int} {v5 : Option Addr} {v6 : Nat} {v7 : Nat} {v8 : Int} {v9 : Int} {v10 : Int} {v11 : Int} {v12 : Int} {v13 : Int} {v14 : Int} {v15 : Int} {v16 : Int} (hW : ((((w.alloc (oQ3 v0 v1 v2 v3 v4 v5 v6 v7 v8)).alloc (oQ4 v9 v10 v11 v12 v13)).alloc (oQ0 v14 v15 v16)).alloc (zQ2)) = W) : W.cell? ⟨w.heap.size, 0, none⟩ = some (.int .i64 v0) ∧ W.cell? ⟨w.heap.size, 1, none⟩ = some (.int .i64 v1) ∧ W.cell? ⟨w.heap.size, 2, none⟩ = some (.int .i64 v2) ∧ W.cell? ⟨w.heap.size, 3, none⟩ = some (.int .i64 v3) ∧ W.cell? ⟨w.heap.size, 4, none⟩ = some (.int .i64 v4) ∧ W.cell? ⟨w.heap.size, 5, none⟩ = some (.slice v5 v6 v7) ∧ W.cell? ⟨w.heap.size, 6, none⟩ = some (.int .i64 v8) ∧ W.cell? ⟨w.heap.size + 1, 0, none⟩ = some (.int .i64 v9) ∧ W.cell? ⟨w.heap.size + 1, 1, none⟩ = some (.int .i64 v10) ∧ W.cell? ⟨w.heap.size + 1, 2, none⟩ = some (.int .i64 v11) ∧ W.cell? ⟨w.heap.size + 1, 3, none⟩ = some (.int .i64 v12) ∧ W.cell? ⟨w.heap.size + 1, 4, none⟩ = some (.int .i64 v13) ∧ W.cell? ⟨w.heap.size + 1 + 1, 0, none⟩ = some (.int .i64 v14) ∧ W.cell? ⟨w.heap.size + 1 + 1, 1, none⟩ = some (.int .i64 v15) ∧ W.cell? ⟨w.heap.size + 1 + 1, 2, none⟩ = some (.int .i64 v16) ∧ W.cell? ⟨w.heap.size + 1 + 1 + 1, 0, none⟩ = some (.int .i64 0) ∧ W.cell? ⟨w.heap.size + 1 + 1 + 1, 1, none⟩ = some (.int .i64 0) ∧ W.cell? ⟨w.heap.size + 1 + 1 + 1, 2, none⟩ = some (.int .i64 0) ∧ W.cell? ⟨w.heap.size + 1 + 1 + 1, 3, none⟩ = some (.int .i64 0) ∧ W.cell? ⟨w.heap.size + 1 + 1 + 1, 4, none⟩ = some (.int .i64 0) ∧ W.cell? ⟨w.heap.size + 1 + 1 + 1, 5, none⟩ = some (.slice none 0 0) ∧ W.cell? ⟨w.heap.size + 1 + 1 + 1, 6, none⟩ = some (.int .i64 0) ∧ (∀ j, W.frozen? ⟨w.heap.size + 1 + 1 + 1, j, none⟩ = false) ∧ w.heap.size + 1 + 1 + 1 < W.heap.size ∧ Below w.heap.size w W := by
 subst hW
 exact ⟨(old_cell _ _ (by first | (simp; done) | (simp; omega))).trans ((old_cell _ _ (by first | (simp; done) | (simp; omega))).trans ((old_cell _ _ (by simp)).trans (by simp))), (old_cell _ _ (by first | (simp; done) | (simp; omega))).trans ((old_cell _ _ (by first | (simp; done) | (simp; omega))).trans ((old_cell _ _ (by simp)).trans (by simp))), (old_cell _ _ (by first | (simp; done) | (simp; omega))).trans ((old_cell _ _ (by first | (simp; done) | (simp; omega))).trans ((old_cell _ _ (by simp)).trans (by simp))), (old_cell _ _ (by first | (simp; done) | (simp; omega))).trans ((old_cell _ _ (by first | (simp; done) | (simp; omega))).trans ((old_cell _ _ (by simp)).trans (by simp))), (old_cell _ _ (by first | (simp; done) | (simp; omega))).trans ((old_cell _ _ (by first | (simp; done) | (simp; omega))).trans ((old_cell _ _ (by simp)).trans (by simp))), (old_cell _ _ (by first | (simp; done) | (simp; omega))).trans ((old_cell _ _ (by first | (simp; done) | (simp; omega))).trans ((old_cell _ _ (by simp)).trans (by simp))), (old_cell _ _ (by first | (simp; done) | (simp; omega))).trans ((old_cell _ _ (by first | (simp; done) | (simp; omega))).trans ((old_cell _ _ (by simp)).trans (by simp))), (old_cell _ _ (by first | (simp; done) | (simp; omega))).trans ((old_cell _ _ (by simp)).trans (by simp)), (old_cell _ _ (by first | (simp; done) | (simp; omega))).trans ((old_cell _ _ (by simp)).trans (by simp)), (old_cell _ _ (by first | (simp; done) | (simp; omega))).trans ((old_cell _ _ (by simp)).trans (by simp)), (old_cell _ _ (by first | (simp; done) | (simp; omega))).trans ((old_cell _ _ (by simp)).trans (by simp)), (old_cell _ _ (by first | (simp; done) | (simp; omega))).trans ((old_cell _ _ (by simp)).trans (by simp)), (old_cell _ _ (by simp)).trans (new_cellB _ _ _ 0 (by simp)), (old_cell _ _ (by simp)).trans (new_cellB _ _ _ 1 (by simp)), (old_cell _ _ (by simp)).trans (new_cellB _ _ _ 2 (by simp)), new_cellB _ _ _ 0 (by simp), new_cellB _ _ _ 1 (by simp), new_cellB _ _ _ 2 (by simp), new_cellB _ _ _ 3 (by simp), new_cellB _ _ _ 4 (by simp), new_cellB _ _ _ 5 (by simp), new_cellB _ _ _ 6 (by simp), fun j => new_frozenB _ _ _ j (by simp), by simp, by go_grown⟩
theorem step_add (p a b c d : Int) (oa : Option Addr) (on oc : Nat) (code : Int) (jr ja jb : Nat) (n o k q v : Int) (w : World) (h0 : 0 ≤ p) (h1 : p ≤ 1000000000) (hj : jr < 4) (ha : ja < 4) (hb : jb < 4) (na1 : -1000000000 ≤ zi [a, b, c, d] ja) (na2 : zi [a, b, c, d] ja ≤ 1000000000) (nb1 : -1000000000 ≤ zi [a, b, c, d] jb) (nb2 : zi [a, b, c, d] jb ≤ 1000000000) (mb1 : -1000000000000000000 ≤ zi [a, b, c, d] ja * zi [a, b, c, d] jb) (mb2 : zi [a, b, c, d] ja * zi [a, b, c, d] jb ≤ 1000000000000000000) :
  Calls Tryz.prog 148 #[dV p a b c d oa on oc code, insV o jr ja jb n, evV k q v] w fun e w' => e = .returned (dV (p + 1) (set4 a b c d jr (zi [a, b, c, d] ja + zi [a, b, c, d] jb)).1 (set4 a b c d jr (zi [a, b, c, d] ja + zi [a, b, c, d] jb)).2.1 (set4 a b c d jr (zi [a, b, c, d] ja + zi [a, b, c, d] jb)).2.2.1 (set4 a b c d jr (zi [a, b, c, d] ja + zi [a, b, c, d] jb)).2.2.2 oa on oc code) ∧ Below w.heap.size w w' := by
 go_enter Tryz.func148, Tryz.ntmps148
 go_wp2_with fail
 generalize hW : ((((w.alloc (oQ3 p a b c d oa on oc code)).alloc (oQ4 o jr ja jb n)).alloc (oQ0 k q v)).alloc (zQ2)) = W at *
 obtain ⟨k0, k1, k2, k3, k4, k5, k6, x0, x1, x2, x3, x4, y0, y1, y2, r0, r1, r2, r3, r4, r5, r6, rf, l3, BW'⟩ := diB_w1 hW
 have BW : Hid (Below w.heap.size w W) := BW'
 clear BW'
 clear hW
 have l0 : w.heap.size < W.heap.size := by omega
 have l1 : w.heap.size + 1 < W.heap.size := by omega
 have l2 : w.heap.size + 1 + 1 < W.heap.size := by omega
 have ja' : (ja : Int) < 4 := by omega
 have ca : W.cell? ⟨w.heap.size, 1 + ja, none⟩ = some (.int .i64 (zi [a, b, c, d] ja)) := by
  match ja, ha with
  | 0, _ => exact k1
  | 1, _ => exact k2
  | 2, _ => exact k3
  | 3, _ => exact k4
 have cb : W.cell? ⟨w.heap.size, 1 + jb, none⟩ = some (.int .i64 (zi [a, b, c, d] jb)) := by
  match jb, hb with
  | 0, _ => exact k1
  | 1, _ => exact k2
  | 2, _ => exact k3
  | 3, _ => exact k4
 have jb' : (jb : Int) < 4 := by omega
 have hw : IntKind.i64.wrap (zi [a, b, c, d] ja + zi [a, b, c, d] jb) = zi [a, b, c, d] ja + zi [a, b, c, d] jb := by rw [IntKind.wrap_i64]; omega
 generalize hN3 : w.heap.size + 1 + 1 + 1 = N3 at *
 generalize hN2 : w.heap.size + 1 + 1 = N2 at *
 generalize hN1 : w.heap.size + 1 = N1 at *
 have ne1 : w.heap.size ≠ N3 := by omega
 have ne2 : N1 ≠ N3 := by omega
 have ne3 : N3 ≠ w.heap.size := by omega
 have ne4 : N3 ≠ N1 := by omega
 have HN : Hid (w.heap.size < N3) := by show w.heap.size < N3; omega
 clear hN1 hN2 hN3
 go_region_held3 (fun w' => w'.cell? ⟨w.heap.size, 0, none⟩ = some (.int .i64 p) ∧ w'.cell? ⟨w.heap.size, 1, none⟩ = some (.int .i64 a) ∧ w'.cell? ⟨w.heap.size, 2, none⟩ = some (.int .i64 b) ∧ w'.cell? ⟨w.heap.size, 3, none⟩ = some (.int .i64 c) ∧ w'.cell? ⟨w.heap.size, 4, none⟩ = some (.int .i64 d) ∧ w'.cell? ⟨w.heap.size, 5, none⟩ = some (.slice oa on oc) ∧ w'.cell? ⟨w.heap.size, 6, none⟩ = some (.int .i64 code) ∧ w'.cell? ⟨N1, 1, none⟩ = some (.int .i64 jr) ∧ w'.cell? ⟨N1, 2, none⟩ = some (.int .i64 ja) ∧ w'.cell? ⟨N1, 3, none⟩ = some (.int .i64 jb) ∧ w'.cell? ⟨w.heap.size, 1 + ja, none⟩ = some (.int .i64 (zi [a, b, c, d] ja)) ∧ w'.cell? ⟨w.heap.size, 1 + jb, none⟩ = some (.int .i64 (zi [a, b, c, d] jb))) (go_keep)
  (first | (go_at_call 161; refine (put_any _ _ _ _ _ _ _ _ _ _ _ _ h0 h1 hj).mono ?_; rintro e w1 ⟨rfl, b1'⟩; have b1 : Below W.heap.size W w1 := (Below.refl W.heap.size W).drew.trans b1'; obtain ⟨hc1, hf1⟩ := bcell b1; have B1 : Hid (Below w.heap.size w w1) := BW.out.trans (b1.mono BW.out.size); clear b1 b1'))
 go_wp2
 refine bodyPost_ret (v := dV (p + 1) (set4 a b c d jr (zi [a, b, c, d] ja + zi [a, b, c, d] jb)).1 (set4 a b c d jr (zi [a, b, c, d] ja + zi [a, b, c, d] jb)).2.1 (set4 a b c d jr (zi [a, b, c, d] ja + zi [a, b, c, d] jb)).2.2.1 (set4 a b c d jr (zi [a, b, c, d] ja + zi [a, b, c, d] jb)).2.2.2 oa on oc code) (by simp [results, Tryz.results148, go_sem, hc1, l3, r0, r1, r2, r3, r4, r5, r6]) rfl ⟨rfl, ?_⟩
 have := B1.out
 have := HN.out
 go_grown
theorem step_sub (p a b c d : Int) (oa : Option Addr) (on oc : Nat) (code : Int) (jr ja jb : Nat) (n o k q v : Int) (w : World) (h0 : 0 ≤ p) (h1 : p ≤ 1000000000) (hj : jr < 4) (ha : ja < 4) (hb : jb < 4) (na1 : -1000000000 ≤ zi [a, b, c, d] ja) (na2 : zi [a, b, c, d] ja ≤ 1000000000) (nb1 : -1000000000 ≤ zi [a, b, c, d] jb) (nb2 : zi [a, b, c, d] jb ≤ 1000000000) (mb1 : -1000000000000000000 ≤ zi [a, b, c, d] ja * zi [a, b, c, d] jb) (mb2 : zi [a, b, c, d] ja * zi [a, b, c, d] jb ≤ 1000000000000000000) :
  Calls Tryz.prog 149 #[dV p a b c d oa on oc code, insV o jr ja jb n, evV k q v] w fun e w' => e = .returned (dV (p + 1) (set4 a b c d jr (zi [a, b, c, d] ja - zi [a, b, c, d] jb)).1 (set4 a b c d jr (zi [a, b, c, d] ja - zi [a, b, c, d] jb)).2.1 (set4 a b c d jr (zi [a, b, c, d] ja - zi [a, b, c, d] jb)).2.2.1 (set4 a b c d jr (zi [a, b, c, d] ja - zi [a, b, c, d] jb)).2.2.2 oa on oc code) ∧ Below w.heap.size w w' := by
 go_enter Tryz.func149, Tryz.ntmps149
 go_wp2_with fail
 generalize hW : ((((w.alloc (oQ3 p a b c d oa on oc code)).alloc (oQ4 o jr ja jb n)).alloc (oQ0 k q v)).alloc (zQ2)) = W at *
 obtain ⟨k0, k1, k2, k3, k4, k5, k6, x0, x1, x2, x3, x4, y0, y1, y2, r0, r1, r2, r3, r4, r5, r6, rf, l3, BW'⟩ := diB_w1 hW
 have BW : Hid (Below w.heap.size w W) := BW'
 clear BW'
 clear hW
 have l0 : w.heap.size < W.heap.size := by omega
 have l1 : w.heap.size + 1 < W.heap.size := by omega
 have l2 : w.heap.size + 1 + 1 < W.heap.size := by omega
 have ja' : (ja : Int) < 4 := by omega
 have ca : W.cell? ⟨w.heap.size, 1 + ja, none⟩ = some (.int .i64 (zi [a, b, c, d] ja)) := by
  match ja, ha with
  | 0, _ => exact k1
  | 1, _ => exact k2
  | 2, _ => exact k3
  | 3, _ => exact k4
 have cb : W.cell? ⟨w.heap.size, 1 + jb, none⟩ = some (.int .i64 (zi [a, b, c, d] jb)) := by
  match jb, hb with
  | 0, _ => exact k1
  | 1, _ => exact k2
  | 2, _ => exact k3
  | 3, _ => exact k4
 have jb' : (jb : Int) < 4 := by omega
 have hw : IntKind.i64.wrap (zi [a, b, c, d] ja - zi [a, b, c, d] jb) = zi [a, b, c, d] ja - zi [a, b, c, d] jb := by rw [IntKind.wrap_i64]; omega
 generalize hN3 : w.heap.size + 1 + 1 + 1 = N3 at *
 generalize hN2 : w.heap.size + 1 + 1 = N2 at *
 generalize hN1 : w.heap.size + 1 = N1 at *
 have ne1 : w.heap.size ≠ N3 := by omega
 have ne2 : N1 ≠ N3 := by omega
 have ne3 : N3 ≠ w.heap.size := by omega
 have ne4 : N3 ≠ N1 := by omega
 have HN : Hid (w.heap.size < N3) := by show w.heap.size < N3; omega
 clear hN1 hN2 hN3
 go_region_held3 (fun w' => w'.cell? ⟨w.heap.size, 0, none⟩ = some (.int .i64 p) ∧ w'.cell? ⟨w.heap.size, 1, none⟩ = some (.int .i64 a) ∧ w'.cell? ⟨w.heap.size, 2, none⟩ = some (.int .i64 b) ∧ w'.cell? ⟨w.heap.size, 3, none⟩ = some (.int .i64 c) ∧ w'.cell? ⟨w.heap.size, 4, none⟩ = some (.int .i64 d) ∧ w'.cell? ⟨w.heap.size, 5, none⟩ = some (.slice oa on oc) ∧ w'.cell? ⟨w.heap.size, 6, none⟩ = some (.int .i64 code) ∧ w'.cell? ⟨N1, 1, none⟩ = some (.int .i64 jr) ∧ w'.cell? ⟨N1, 2, none⟩ = some (.int .i64 ja) ∧ w'.cell? ⟨N1, 3, none⟩ = some (.int .i64 jb) ∧ w'.cell? ⟨w.heap.size, 1 + ja, none⟩ = some (.int .i64 (zi [a, b, c, d] ja)) ∧ w'.cell? ⟨w.heap.size, 1 + jb, none⟩ = some (.int .i64 (zi [a, b, c, d] jb))) (go_keep)
  (first | (go_at_call 161; refine (put_any _ _ _ _ _ _ _ _ _ _ _ _ h0 h1 hj).mono ?_; rintro e w1 ⟨rfl, b1'⟩; have b1 : Below W.heap.size W w1 := (Below.refl W.heap.size W).drew.trans b1'; obtain ⟨hc1, hf1⟩ := bcell b1; have B1 : Hid (Below w.heap.size w w1) := BW.out.trans (b1.mono BW.out.size); clear b1 b1'))
 go_wp2
 refine bodyPost_ret (v := dV (p + 1) (set4 a b c d jr (zi [a, b, c, d] ja - zi [a, b, c, d] jb)).1 (set4 a b c d jr (zi [a, b, c, d] ja - zi [a, b, c, d] jb)).2.1 (set4 a b c d jr (zi [a, b, c, d] ja - zi [a, b, c, d] jb)).2.2.1 (set4 a b c d jr (zi [a, b, c, d] ja - zi [a, b, c, d] jb)).2.2.2 oa on oc code) (by simp [results, Tryz.results149, go_sem, hc1, l3, r0, r1, r2, r3, r4, r5, r6]) rfl ⟨rfl, ?_⟩
 have := B1.out
 have := HN.out
 go_grown
theorem step_mul (p a b c d : Int) (oa : Option Addr) (on oc : Nat) (code : Int) (jr ja jb : Nat) (n o k q v : Int) (w : World) (h0 : 0 ≤ p) (h1 : p ≤ 1000000000) (hj : jr < 4) (ha : ja < 4) (hb : jb < 4) (na1 : -1000000000 ≤ zi [a, b, c, d] ja) (na2 : zi [a, b, c, d] ja ≤ 1000000000) (nb1 : -1000000000 ≤ zi [a, b, c, d] jb) (nb2 : zi [a, b, c, d] jb ≤ 1000000000) (mb1 : -1000000000000000000 ≤ zi [a, b, c, d] ja * zi [a, b, c, d] jb) (mb2 : zi [a, b, c, d] ja * zi [a, b, c, d] jb ≤ 1000000000000000000) :
  Calls Tryz.prog 150 #[dV p a b c d oa on oc code, insV o jr ja jb n, evV k q v] w fun e w' => e = .returned (dV (p + 1) (set4 a b c d jr (zi [a, b, c, d] ja * zi [a, b, c, d] jb)).1 (set4 a b c d jr (zi [a, b, c, d] ja * zi [a, b, c, d] jb)).2.1 (set4 a b c d jr (zi [a, b, c, d] ja * zi [a, b, c, d] jb)).2.2.1 (set4 a b c d jr (zi [a, b, c, d] ja * zi [a, b, c, d] jb)).2.2.2 oa on oc code) ∧ Below w.heap.size w w' := by
 go_enter Tryz.func150, Tryz.ntmps150
 go_wp2_with fail
 generalize hW : ((((w.alloc (oQ3 p a b c d oa on oc code)).alloc (oQ4 o jr ja jb n)).alloc (oQ0 k q v)).alloc (zQ2)) = W at *
 obtain ⟨k0, k1, k2, k3, k4, k5, k6, x0, x1, x2, x3, x4, y0, y1, y2, r0, r1, r2, r3, r4, r5, r6, rf, l3, BW'⟩ := diB_w1 hW
 have BW : Hid (Below w.heap.size w W) := BW'
 clear BW'
 clear hW
 have l0 : w.heap.size < W.heap.size := by omega
 have l1 : w.heap.size + 1 < W.heap.size := by omega
 have l2 : w.heap.size + 1 + 1 < W.heap.size := by omega
 have ja' : (ja : Int) < 4 := by omega
 have ca : W.cell? ⟨w.heap.size, 1 + ja, none⟩ = some (.int .i64 (zi [a, b, c, d] ja)) := by
  match ja, ha with
  | 0, _ => exact k1
  | 1, _ => exact k2
  | 2, _ => exact k3
  | 3, _ => exact k4
 have cb : W.cell? ⟨w.heap.size, 1 + jb, none⟩ = some (.int .i64 (zi [a, b, c, d] jb)) := by
  match jb, hb with
  | 0, _ => exact k1
  | 1, _ => exact k2
  | 2, _ => exact k3
  | 3, _ => exact k4
 have jb' : (jb : Int) < 4 := by omega
 have hw : IntKind.i64.wrap (zi [a, b, c, d] ja * zi [a, b, c, d] jb) = zi [a, b, c, d] ja * zi [a, b, c, d] jb := by rw [IntKind.wrap_i64]; omega
 generalize hN3 : w.heap.size + 1 + 1 + 1 = N3 at *
 generalize hN2 : w.heap.size + 1 + 1 = N2 at *
 generalize hN1 : w.heap.size + 1 = N1 at *
 have ne1 : w.heap.size ≠ N3 := by omega
 have ne2 : N1 ≠ N3 := by omega
 have ne3 : N3 ≠ w.heap.size := by omega
 have ne4 : N3 ≠ N1 := by omega
 have HN : Hid (w.heap.size < N3) := by show w.heap.size < N3; omega
 clear hN1 hN2 hN3
 go_region_held3 (fun w' => w'.cell? ⟨w.heap.size, 0, none⟩ = some (.int .i64 p) ∧ w'.cell? ⟨w.heap.size, 1, none⟩ = some (.int .i64 a) ∧ w'.cell? ⟨w.heap.size, 2, none⟩ = some (.int .i64 b) ∧ w'.cell? ⟨w.heap.size, 3, none⟩ = some (.int .i64 c) ∧ w'.cell? ⟨w.heap.size, 4, none⟩ = some (.int .i64 d) ∧ w'.cell? ⟨w.heap.size, 5, none⟩ = some (.slice oa on oc) ∧ w'.cell? ⟨w.heap.size, 6, none⟩ = some (.int .i64 code) ∧ w'.cell? ⟨N1, 1, none⟩ = some (.int .i64 jr) ∧ w'.cell? ⟨N1, 2, none⟩ = some (.int .i64 ja) ∧ w'.cell? ⟨N1, 3, none⟩ = some (.int .i64 jb) ∧ w'.cell? ⟨w.heap.size, 1 + ja, none⟩ = some (.int .i64 (zi [a, b, c, d] ja)) ∧ w'.cell? ⟨w.heap.size, 1 + jb, none⟩ = some (.int .i64 (zi [a, b, c, d] jb))) (go_keep)
  (first | (go_at_call 161; refine (put_any _ _ _ _ _ _ _ _ _ _ _ _ h0 h1 hj).mono ?_; rintro e w1 ⟨rfl, b1'⟩; have b1 : Below W.heap.size W w1 := (Below.refl W.heap.size W).drew.trans b1'; obtain ⟨hc1, hf1⟩ := bcell b1; have B1 : Hid (Below w.heap.size w w1) := BW.out.trans (b1.mono BW.out.size); clear b1 b1'))
 go_wp2
 refine bodyPost_ret (v := dV (p + 1) (set4 a b c d jr (zi [a, b, c, d] ja * zi [a, b, c, d] jb)).1 (set4 a b c d jr (zi [a, b, c, d] ja * zi [a, b, c, d] jb)).2.1 (set4 a b c d jr (zi [a, b, c, d] ja * zi [a, b, c, d] jb)).2.2.1 (set4 a b c d jr (zi [a, b, c, d] ja * zi [a, b, c, d] jb)).2.2.2 oa on oc code) (by simp [results, Tryz.results150, go_sem, hc1, l3, r0, r1, r2, r3, r4, r5, r6]) rfl ⟨rfl, ?_⟩
 have := B1.out
 have := HN.out
 go_grown
theorem canCome_any (nk np nv k q v : Int) (w : World) :
  Calls Tryz.prog 137 #[evV nk np nv, evV k q v] w fun e w' => e = .returned (.bool (canB nk np nv k q v)) ∧ Below w.heap.size w w' := by
 have he := fun wx => eql_ev k q v nk np nv wx
 by_cases c1 : nk = 3
 case neg =>
  have c1' : (nk != 3) = true := by simpa using c1
  by_cases c2 : nk = 0
  ·subst c2
   have hv : Hid (canB 0 np nv k q v = false) := by simp [Hid, canB]
   go_enter Tryz.func137, Tryz.ntmps137
   go_wp2_with (first | (go_at_call 130; refine (isNum_any _ _).mono ?_; rintro e w' ⟨rfl, rfl⟩) | (go_at_call 54; refine (isBelow_any _ _ _).mono ?_; rintro e w' ⟨rfl, rfl⟩))
   refine bodyPost_ret (v := .bool (false)) (by simp [results, Tryz.results137, go_sem]) rfl ⟨by rw [hv.out], ?_⟩
   go_grown
  ·have c2' : (nk != 0) = true := by simpa using c2
   have hv : Hid (canB nk np nv k q v = evEqB k q v nk np nv) := by simp [Hid, canB, evEqB, c1, c2']
   clear c1 c2
   go_enter Tryz.func137, Tryz.ntmps137
   go_wp2_with (first | (go_at_call 130; refine (isNum_any _ _).mono ?_; rintro e w' ⟨rfl, rfl⟩) | (go_at_call 54; refine (isBelow_any _ _ _).mono ?_; rintro e w' ⟨rfl, rfl⟩))
   refine bodyPost_ret (v := .bool (evEqB k q v nk np nv)) (by simp [results, Tryz.results137, go_sem]) rfl ⟨by rw [hv.out], ?_⟩
   go_grown
 subst c1
 by_cases c2 : k = 3
 case neg =>
  have c2' : (k != 3) = true := by simpa using c2
  have hv : Hid (canB 3 np nv k q v = false) := by simp [Hid, canB, c2]
  clear c2
  go_enter Tryz.func137, Tryz.ntmps137
  go_wp2_with (first | (go_at_call 130; refine (isNum_any _ _).mono ?_; rintro e w' ⟨rfl, rfl⟩) | (go_at_call 54; refine (isBelow_any _ _ _).mono ?_; rintro e w' ⟨rfl, rfl⟩))
  refine bodyPost_ret (v := .bool (false)) (by simp [results, Tryz.results137, go_sem]) rfl ⟨by rw [hv.out], ?_⟩
  go_grown
 subst c2
 rcases Bool.eq_false_or_eq_true (numB v) with c3 | c3
 case inr =>
  have hv : Hid (canB 3 np nv 3 q v = false) := by simp [Hid, canB, c3]
  have c3' : inB v (-1000000000) 1000000000 = false := c3
  clear c3
  go_enter Tryz.func137, Tryz.ntmps137
  go_wp2_with (first | (go_at_call 130; refine (isNum_any _ _).mono ?_; rintro e w' ⟨rfl, rfl⟩) | (go_at_call 54; refine (isBelow_any _ _ _).mono ?_; rintro e w' ⟨rfl, rfl⟩))
  refine bodyPost_ret (v := .bool (false)) (by simp [results, Tryz.results137, go_sem]) rfl ⟨by rw [hv.out], ?_⟩
  go_grown
 by_cases c4 : np = 9
 ·subst c4
  have hv : Hid (canB 3 9 nv 3 q v = belB q 4) := by simp [Hid, canB, c3]
  have c3' : inB v (-1000000000) 1000000000 = true := c3
  clear c3
  go_enter Tryz.func137, Tryz.ntmps137
  go_wp2_with (first | (go_at_call 130; refine (isNum_any _ _).mono ?_; rintro e w' ⟨rfl, rfl⟩) | (go_at_call 54; refine (isBelow_any _ _ _).mono ?_; rintro e w' ⟨rfl, rfl⟩))
  refine bodyPost_ret (v := .bool (belB q 4)) (by simp [results, Tryz.results137, go_sem]) rfl ⟨by rw [hv.out], ?_⟩
  go_grown
 ·have c4' : (np == 9) = false := by simpa using c4
  have hv : Hid (canB 3 np nv 3 q v = (q == np)) := by simp [Hid, canB, c3, c4]
  have c3' : inB v (-1000000000) 1000000000 = true := c3
  clear c3 c4
  go_enter Tryz.func137, Tryz.ntmps137
  go_wp2_with (first | (go_at_call 130; refine (isNum_any _ _).mono ?_; rintro e w' ⟨rfl, rfl⟩) | (go_at_call 54; refine (isBelow_any _ _ _).mono ?_; rintro e w' ⟨rfl, rfl⟩))
  refine bodyPost_ret (v := .bool (q == np)) (by simp [results, Tryz.results137, go_sem]) rfl ⟨by rw [hv.out], ?_⟩
  go_grown
open Go.Sort
theorem neq_regs (a b c d a' b' c' d' : Int) (w : World) : (binOp .neq 217 (regV a b c d) (regV a' b' c' d')).run Tryz.prog w = .ok (.bool (!regEqB a b c d a' b' c' d')) w := by
 have h := eql_regs a b c d a' b' c' d' w
 simp only [binOp, Sem.run_bind, Sem.run_pure] at h ⊢
 revert h
 generalize Sem.run Tryz.prog (Op.equal 217 (regV a b c d) (regV a' b' c' d')) w = r
 cases r <;> simp (config := { contextual := true }) [Result.andThen]
theorem diF_w1 {w W : World} {v0 : Int} {v1 : Int} {v2 : Int} {v3 : Int} {v4 : Int} {v5 : Option Addr} {v6 : Nat} {v7 : Nat} {v8 : Int} {v9 : Int} {v10 : Int} {v11 : Int} {v12 : Int} {v13 : Int} {v14 : Option Addr} {v15 : Nat} {v16 : Nat} {v17 : Int} (hW : (((w.alloc (oQ3 v0 v1 v2 v3 v4 v5 v6 v7 v8)).alloc (oQ3 v9 v10 v11 v12 v13 v14 v15 v16 v17)).alloc (zQ2)) = W) : W.cell? ⟨w.heap.size, 0, none⟩ = some (.int .i64 v0) ∧ W.cell? ⟨w.heap.size, 1, none⟩ = some (.int .i64 v1) ∧ W.cell? ⟨w.heap.size, 2, none⟩ = some (.int .i64 v2) ∧ W.cell? ⟨w.heap.size, 3, none⟩ = some (.int .i64 v3) ∧ W.cell? ⟨w.heap.size, 4, none⟩ = some (.int .i64 v4) ∧ W.cell? ⟨w.heap.size, 5, none⟩ = some (.slice v5 v6 v7) ∧ W.cell? ⟨w.heap.size, 6, none⟩ = some (.int .i64 v8) ∧ W.cell? ⟨w.heap.size + 1, 0, none⟩ = some (.int .i64 v9) ∧ W.cell? ⟨w.heap.size + 1, 1, none⟩ = some (.int .i64 v10) ∧ W.cell? ⟨w.heap.size + 1, 2, none⟩ = some (.int .i64 v11) ∧ W.cell? ⟨w.heap.size + 1, 3, none⟩ = some (.int .i64 v12) ∧ W.cell? ⟨w.heap.size + 1, 4, none⟩ = some (.int .i64 v13) ∧ W.cell? ⟨w.heap.size + 1, 5, none⟩ = some (.slice v14 v15 v16) ∧ W.cell? ⟨w.heap.size + 1, 6, none⟩ = some (.int .i64 v17) ∧ W.cell? ⟨w.heap.size + 1 + 1, 0, none⟩ = some (.int .i64 0) ∧ W.cell? ⟨w.heap.size + 1 + 1, 1, none⟩ = some (.int .i64 0) ∧ W.cell? ⟨w.heap.size + 1 + 1, 2, none⟩ = some (.int .i64 0) ∧ W.cell? ⟨w.heap.size + 1 + 1, 3, none⟩ = some (.int .i64 0) ∧ W.cell? ⟨w.heap.size + 1 + 1, 4, none⟩ = some (.int .i64 0) ∧ W.cell? ⟨w.heap.size + 1 + 1, 5, none⟩ = some (.slice none 0 0) ∧ W.cell? ⟨w.heap.size + 1 + 1, 6, none⟩ = some (.int .i64 0) ∧ (∀ j, W.frozen? ⟨w.heap.size, j, none⟩ = false) ∧ (∀ j, W.frozen? ⟨w.heap.size + 1, j, none⟩ = false) ∧ (∀ j, W.frozen? ⟨w.heap.size + 1 + 1, j, none⟩ = false) ∧ w.heap.size + 1 + 1 < W.heap.size ∧ Below w.heap.size w W := by
 subst hW
 exact ⟨(old_cell _ _ (by first | (simp; done) | (simp; omega))).trans ((old_cell _ _ (by simp)).trans (by simp)), (old_cell _ _ (by first | (simp; done) | (simp; omega))).trans ((old_cell _ _ (by simp)).trans (by simp)), (old_cell _ _ (by first | (simp; done) | (simp; omega))).trans ((old_cell _ _ (by simp)).trans (by simp)), (old_cell _ _ (by first | (simp; done) | (simp; omega))).trans ((old_cell _ _ (by simp)).trans (by simp)), (old_cell _ _ (by first | (simp; done) | (simp; omega))).trans ((old_cell _ _ (by simp)).trans (by simp)), (old_cell _ _ (by first | (simp; done) | (simp; omega))).trans ((old_cell _ _ (by simp)).trans (by simp)), (old_cell _ _ (by first | (simp; done) | (simp; omega))).trans ((old_cell _ _ (by simp)).trans (by simp)), (old_cell _ _ (by simp)).trans (new_cell _ _ _ 0 (by simp)), (old_cell _ _ (by simp)).trans (new_cell _ _ _ 1 (by simp)), (old_cell _ _ (by simp)).trans (new_cell _ _ _ 2 (by simp)), (old_cell _ _ (by simp)).trans (new_cell _ _ _ 3 (by simp)), (old_cell _ _ (by simp)).trans (new_cell _ _ _ 4 (by simp)), (old_cell _ _ (by simp)).trans (new_cell _ _ _ 5 (by simp)), (old_cell _ _ (by simp)).trans (new_cell _ _ _ 6 (by simp)), new_cell _ _ _ 0 (by simp), new_cell _ _ _ 1 (by simp), new_cell _ _ _ 2 (by simp), new_cell _ _ _ 3 (by simp), new_cell _ _ _ 4 (by simp), new_cell _ _ _ 5 (by simp), new_cell _ _ _ 6 (by simp), fun j => ((bcell (below_alloc _ _)).2 _ _ (by first | (simp; done) | (simp; omega))).trans (((bcell (below_alloc _ _)).2 _ _ (by simp)).trans (new_frozen _ _ _ j rfl)), fun j => ((bcell (below_alloc _ _)).2 _ _ (by simp)).trans (new_frozen _ _ _ j (by simp)), fun j => new_frozen _ _ _ j (by simp), by simp, by go_grown⟩
theorem settled_regs (p a b c d : Int) (oa : Option Addr) (on oc : Nat) (code : Int) (p' a' b' c' d' : Int) (oa' : Option Addr) (on' oc' : Nat) (code' : Int) (n : Nat) (w : World) (hr : regsB [a', b', c', d'] = false) :
  Calls Tryz.prog 142 #[dV p a b c d oa on oc code, dV p' a' b' c' d' oa' on' oc' code', .int .i64 n] w fun e w' => e = .returned (dV p a b c d oa on oc 2) ∧ Below w.heap.size w w' := by
 have he : ∀ wx, (binOp .neq 217 (regV a' b' c' d') (regV (clamp a') (clamp b') (clamp c') (clamp d'))).run Tryz.prog wx = .ok (.bool true) wx := fun wx => by rw [neq_regs, regEqB_clamp, hr]; rfl
 go_enter Tryz.func142, Tryz.ntmps142
 go_wp2_with fail
 generalize hW : (((w.alloc (oQ3 p a b c d oa on oc code)).alloc (oQ3 p' a' b' c' d' oa' on' oc' code')).alloc (zQ2)) = W at *
 obtain ⟨k0, k1, k2, k3, k4, k5, k6, x0, x1, x2, x3, x4, x5, x6, r0, r1, r2, r3, r4, r5, r6, kf, xf, rf, l2, BW'⟩ := diF_w1 hW
 have BW : Hid (Below w.heap.size w W) := BW'
 clear BW'
 clear hW
 have l0 : w.heap.size < W.heap.size := by omega
 have l1 : w.heap.size + 1 < W.heap.size := by omega
 have x0' := cell_regrown x0
 have x1' := cell_regrown x1
 have x2' := cell_regrown x2
 have x3' := cell_regrown x3
 have x4' := cell_regrown x4
 have x5' := cell_regrown x5
 have x6' := cell_regrown x6
 refine wp_region_quiet_below (by kernel_rfl) (by kernel_rfl) ?_
 repeat (quiet_step (first | (go_at_call 158; exact Calls.regrown_of (held_any _ _ _ _ _))))
 refine wpQuiet_nil ?_
 intro _ hw'
 obtain ⟨⟨dq, osq⟩, hw''⟩ := hw'
 subst hw''
 have b3 := below_regrown W dq osq
 have B3 : Hid (Below w.heap.size w (grow (redrawn W dq) osq)) := BW.out.trans (b3.mono BW.out.size)
 obtain ⟨hc3, hf3⟩ := bcell b3
 generalize grow (redrawn W dq) osq = w3 at *
 clear b3 x0' x1' x2' x3' x4' x5' x6' he BW hr
 go_wp2_with (go_at_call 54; refine (isBelow_any _ _ _).mono ?_; rintro e w' ⟨rfl, rfl⟩)
 refine bodyPost_ret (v := dV p a b c d oa on oc 2) (by simp [results, Tryz.results142, go_sem, hc3, l2, r0, r1, r2, r3, r4, r5, r6]) rfl ⟨rfl, ?_⟩
 have := B3.out
 go_grown
theorem settled_full (p a b c d : Int) (oa : Option Addr) (on oc : Nat) (code : Int) (p' a' b' c' d' : Int) (oa' : Option Addr) (on' oc' : Nat) (code' : Int) (n : Nat) (w : World) (hr : regsB [a', b', c', d'] = true) (hn : (60 : Int) < (on' : Int)) :
  Calls Tryz.prog 142 #[dV p a b c d oa on oc code, dV p' a' b' c' d' oa' on' oc' code', .int .i64 n] w fun e w' => e = .returned (dV p a b c d oa on oc 2) ∧ Below w.heap.size w w' := by
 have he : ∀ wx, (binOp .neq 217 (regV a' b' c' d') (regV (clamp a') (clamp b') (clamp c') (clamp d'))).run Tryz.prog wx = .ok (.bool false) wx := fun wx => by rw [neq_regs, regEqB_clamp, hr]; rfl
 go_enter Tryz.func142, Tryz.ntmps142
 go_wp2_with fail
 generalize hW : (((w.alloc (oQ3 p a b c d oa on oc code)).alloc (oQ3 p' a' b' c' d' oa' on' oc' code')).alloc (zQ2)) = W at *
 obtain ⟨k0, k1, k2, k3, k4, k5, k6, x0, x1, x2, x3, x4, x5, x6, r0, r1, r2, r3, r4, r5, r6, kf, xf, rf, l2, BW'⟩ := diF_w1 hW
 have BW : Hid (Below w.heap.size w W) := BW'
 clear BW'
 clear hW
 have l0 : w.heap.size < W.heap.size := by omega
 have l1 : w.heap.size + 1 < W.heap.size := by omega
 have x0' := cell_regrown x0
 have x1' := cell_regrown x1
 have x2' := cell_regrown x2
 have x3' := cell_regrown x3
 have x4' := cell_regrown x4
 have x5' := cell_regrown x5
 have x6' := cell_regrown x6
 refine wp_region_quiet_below (by kernel_rfl) (by kernel_rfl) ?_
 repeat (quiet_step (first | (go_at_call 158; exact Calls.regrown_of (held_any _ _ _ _ _))))
 refine wpQuiet_nil ?_
 intro _ hw'
 obtain ⟨⟨dq, osq⟩, hw''⟩ := hw'
 subst hw''
 have b3 := below_regrown W dq osq
 have B3 : Hid (Below w.heap.size w (grow (redrawn W dq) osq)) := BW.out.trans (b3.mono BW.out.size)
 obtain ⟨hc3, hf3⟩ := bcell b3
 generalize grow (redrawn W dq) osq = w3 at *
 clear b3 x0' x1' x2' x3' x4' x5' x6' he BW hr
 go_wp2_with (go_at_call 54; refine (isBelow_any _ _ _).mono ?_; rintro e w' ⟨rfl, rfl⟩)
 refine bodyPost_ret (v := dV p a b c d oa on oc 2) (by simp [results, Tryz.results142, go_sem, hc3, l2, r0, r1, r2, r3, r4, r5, r6]) rfl ⟨rfl, ?_⟩
 have := B3.out
 go_grown
theorem settled_out (p a b c d : Int) (oa : Option Addr) (on oc : Nat) (code : Int) (p' a' b' c' d' : Int) (oa' : Option Addr) (on' oc' : Nat) (code' : Int) (n : Nat) (w : World) (hr : regsB [a', b', c', d'] = true) (hn : ¬ (60 : Int) < (on' : Int)) (hp : belB p' n = false) :
  Calls Tryz.prog 142 #[dV p a b c d oa on oc code, dV p' a' b' c' d' oa' on' oc' code', .int .i64 n] w fun e w' => e = .returned (dV p a' b' c' d' oa' on' oc' 2) ∧ Below w.heap.size w w' := by
 have he : ∀ wx, (binOp .neq 217 (regV a' b' c' d') (regV (clamp a') (clamp b') (clamp c') (clamp d'))).run Tryz.prog wx = .ok (.bool false) wx := fun wx => by rw [neq_regs, regEqB_clamp, hr]; rfl
 go_enter Tryz.func142, Tryz.ntmps142
 go_wp2_with fail
 generalize hW : (((w.alloc (oQ3 p a b c d oa on oc code)).alloc (oQ3 p' a' b' c' d' oa' on' oc' code')).alloc (zQ2)) = W at *
 obtain ⟨k0, k1, k2, k3, k4, k5, k6, x0, x1, x2, x3, x4, x5, x6, r0, r1, r2, r3, r4, r5, r6, kf, xf, rf, l2, BW'⟩ := diF_w1 hW
 have BW : Hid (Below w.heap.size w W) := BW'
 clear BW'
 clear hW
 have l0 : w.heap.size < W.heap.size := by omega
 have l1 : w.heap.size + 1 < W.heap.size := by omega
 have x0' := cell_regrown x0
 have x1' := cell_regrown x1
 have x2' := cell_regrown x2
 have x3' := cell_regrown x3
 have x4' := cell_regrown x4
 have x5' := cell_regrown x5
 have x6' := cell_regrown x6
 refine wp_region_quiet_below (by kernel_rfl) (by kernel_rfl) ?_
 repeat (quiet_step (first | (go_at_call 158; exact Calls.regrown_of (held_any _ _ _ _ _))))
 refine wpQuiet_nil ?_
 intro _ hw'
 obtain ⟨⟨dq, osq⟩, hw''⟩ := hw'
 subst hw''
 have b3 := below_regrown W dq osq
 have B3 : Hid (Below w.heap.size w (grow (redrawn W dq) osq)) := BW.out.trans (b3.mono BW.out.size)
 obtain ⟨hc3, hf3⟩ := bcell b3
 generalize grow (redrawn W dq) osq = w3 at *
 clear b3 x0' x1' x2' x3' x4' x5' x6' he BW hr
 go_wp2_with (go_at_call 54; refine (isBelow_any _ _ _).mono ?_; rintro e w' ⟨rfl, rfl⟩)
 refine bodyPost_ret (v := dV p a' b' c' d' oa' on' oc' 2) (by simp [results, Tryz.results142, go_sem, hc3, l2, r0, r1, r2, r3, r4, r5, r6]) rfl ⟨rfl, ?_⟩
 have := B3.out
 go_grown
theorem settled_ok (p a b c d : Int) (oa : Option Addr) (on oc : Nat) (code : Int) (p' a' b' c' d' : Int) (oa' : Option Addr) (on' oc' : Nat) (code' : Int) (n : Nat) (w : World) (hr : regsB [a', b', c', d'] = true) (hn : ¬ (60 : Int) < (on' : Int)) (hp : belB p' n = true) :
  Calls Tryz.prog 142 #[dV p a b c d oa on oc code, dV p' a' b' c' d' oa' on' oc' code', .int .i64 n] w fun e w' => e = .returned (dV p' a' b' c' d' oa' on' oc' code') ∧ Below w.heap.size w w' := by
 have he : ∀ wx, (binOp .neq 217 (regV a' b' c' d') (regV (clamp a') (clamp b') (clamp c') (clamp d'))).run Tryz.prog wx = .ok (.bool false) wx := fun wx => by rw [neq_regs, regEqB_clamp, hr]; rfl
 go_enter Tryz.func142, Tryz.ntmps142
 go_wp2_with fail
 generalize hW : (((w.alloc (oQ3 p a b c d oa on oc code)).alloc (oQ3 p' a' b' c' d' oa' on' oc' code')).alloc (zQ2)) = W at *
 obtain ⟨k0, k1, k2, k3, k4, k5, k6, x0, x1, x2, x3, x4, x5, x6, r0, r1, r2, r3, r4, r5, r6, kf, xf, rf, l2, BW'⟩ := diF_w1 hW
 have BW : Hid (Below w.heap.size w W) := BW'
 clear BW'
 clear hW
 have l0 : w.heap.size < W.heap.size := by omega
 have l1 : w.heap.size + 1 < W.heap.size := by omega
 have x0' := cell_regrown x0
 have x1' := cell_regrown x1
 have x2' := cell_regrown x2
 have x3' := cell_regrown x3
 have x4' := cell_regrown x4
 have x5' := cell_regrown x5
 have x6' := cell_regrown x6
 refine wp_region_quiet_below (by kernel_rfl) (by kernel_rfl) ?_
 repeat (quiet_step (first | (go_at_call 158; exact Calls.regrown_of (held_any _ _ _ _ _))))
 refine wpQuiet_nil ?_
 intro _ hw'
 obtain ⟨⟨dq, osq⟩, hw''⟩ := hw'
 subst hw''
 have b3 := below_regrown W dq osq
 have B3 : Hid (Below w.heap.size w (grow (redrawn W dq) osq)) := BW.out.trans (b3.mono BW.out.size)
 obtain ⟨hc3, hf3⟩ := bcell b3
 generalize grow (redrawn W dq) osq = w3 at *
 clear b3 x0' x1' x2' x3' x4' x5' x6' he BW hr
 go_wp2_with (go_at_call 54; refine (isBelow_any _ _ _).mono ?_; rintro e w' ⟨rfl, rfl⟩)
 refine bodyPost_ret (v := dV p' a' b' c' d' oa' on' oc' code') (by simp [results, Tryz.results142, go_sem, hc3, l2, r0, r1, r2, r3, r4, r5, r6]) rfl ⟨rfl, ?_⟩
 have := B3.out
 go_grown
end Go.Proofs.YtjbocfjeobkclaaGreatDoor
