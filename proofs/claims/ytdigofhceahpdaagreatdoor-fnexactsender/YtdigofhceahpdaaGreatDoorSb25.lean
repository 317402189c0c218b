/- The walks of the program's steps, a theorem an op. -/
import Derived.Test.YtdigofhceahpdaaGreatDoorSb16
import Derived.Test.YtdigofhceahpdaaGreatDoorSb13
import Derived.Laws.EntriesVeiled
namespace Go.Proofs.YtdigofhceahpdaaGreatDoor
open Go.RowKit
theorem new_cellB (w : World) (cs : Array Value) (t : TypeId) (j : Nat) {N : Nat} (h : N = w.heap.size) : (w.alloc (.cells cs t)).cell? ⟨N, j, none⟩ = cs[j]? := by
 subst h
 simp
theorem new_frozenB (w : World) (cs : Array Value) (t : TypeId) (j : Nat) {N : Nat} (h : N = w.heap.size) : (w.alloc (.cells cs t)).frozen? ⟨N, j, none⟩ = false := by
 subst h
 simp
theorem set4_list (a b c d : Int) (j : Nat) (v : Int) (hj : j < 4) : [(set4 a b c d j v).1, (set4 a b c d j v).2.1, (set4 a b c d j v).2.2.1, (set4 a b c d j v).2.2.2] = [a, b, c, d].set j v := by
 match j, hj with
 | 0, _ => rfl
 | 1, _ => rfl
 | 2, _ => rfl
 | 3, _ => rfl
set_option maxRecDepth 100000 in
set_option maxHeartbeats 2000000 in
theorem step_set (p a b c d : Int) (oa : Option Addr) (on oc : Nat) (code : Int) (jr ja jb : Nat) (n o k q v : Int) (w : World) (h0 : 0 ≤ p) (h1 : p ≤ 1000000000) (hj : jr < 4) :
   Calls Tryz.prog 165 #[dV p a b c d oa on oc code, insV o jr ja jb n, evV k q v] w fun e w' => e = .returned (dV (p + 1) (set4 a b c d jr (n)).1 (set4 a b c d jr (n)).2.1 (set4 a b c d jr (n)).2.2.1 (set4 a b c d jr (n)).2.2.2 oa on oc code) ∧ Below w.heap.size w w' := by
 go_enter Tryz.func165, Tryz.ntmps165
 go_wp2_with fail
 refine (put_any _ _ _ _ _ _ _ _ _ _ _ _ h0 h1 hj).mono ?_
 rintro e w1 ⟨rfl, b1⟩
 have B1 : Hid (Below w.heap.size w w1) := below_up (by go_grown) b1 (by simp; omega)
 obtain ⟨hc1, hf1⟩ := bcell b1
 clear b1
 go_wp2
 refine bodyPost_ret (v := dV (p + 1) (set4 a b c d jr (n)).1 (set4 a b c d jr (n)).2.1 (set4 a b c d jr (n)).2.2.1 (set4 a b c d jr (n)).2.2.2 oa on oc code) (by simp [results, Tryz.results165, go_sem, hc1]) rfl ⟨rfl, ?_⟩
 have := B1.out
 go_grown
set_option maxRecDepth 100000 in
set_option maxHeartbeats 2000000 in
theorem step_take (p a b c d : Int) (oa : Option Addr) (on oc : Nat) (code : Int) (jr ja jb : Nat) (n o k q v : Int) (w : World) (h0 : 0 ≤ p) (h1 : p ≤ 1000000000) (hj : jr < 4) :
   Calls Tryz.prog 171 #[dV p a b c d oa on oc code, insV o jr ja jb n, evV k q v] w fun e w' => e = .returned (dV (p + 1) (set4 a b c d jr (v)).1 (set4 a b c d jr (v)).2.1 (set4 a b c d jr (v)).2.2.1 (set4 a b c d jr (v)).2.2.2 oa on oc code) ∧ Below w.heap.size w w' := by
 go_enter Tryz.func171, Tryz.ntmps171
 go_wp2_with fail
 refine (put_any _ _ _ _ _ _ _ _ _ _ _ _ h0 h1 hj).mono ?_
 rintro e w1 ⟨rfl, b1⟩
 have B1 : Hid (Below w.heap.size w w1) := below_up (by go_grown) b1 (by simp; omega)
 obtain ⟨hc1, hf1⟩ := bcell b1
 clear b1
 go_wp2
 refine bodyPost_ret (v := dV (p + 1) (set4 a b c d jr (v)).1 (set4 a b c d jr (v)).2.1 (set4 a b c d jr (v)).2.2.1 (set4 a b c d jr (v)).2.2.2 oa on oc code) (by simp [results, Tryz.results171, go_sem, hc1]) rfl ⟨rfl, ?_⟩
 have := B1.out
 go_grown
set_option maxRecDepth 100000 in
set_option maxHeartbeats 2000000 in
theorem step_send (p a b c d : Int) (oa : Option Addr) (on oc : Nat) (code : Int) (jr ja jb : Nat) (n o k q v : Int) (w : World) (h0 : 0 ≤ p) (h1 : p ≤ 1000000000) :
   Calls Tryz.prog 170 #[dV p a b c d oa on oc code, insV o jr ja jb n, evV k q v] w fun e w' => e = .returned (dV (p + 1) a b c d oa on oc code) ∧ Below w.heap.size w w' := by
 go_enter Tryz.func170, Tryz.ntmps170
 go_wp2_with fail
 refine (onward_any _ _ _ _ _ _ _ _ _ _ h0 h1).mono ?_
 rintro e w1 ⟨rfl, b1⟩
 have B1 : Hid (Below w.heap.size w w1) := below_up (by go_grown) b1 (by simp; omega)
 obtain ⟨hc1, hf1⟩ := bcell b1
 clear b1
 go_wp2
 refine bodyPost_ret (v := dV (p + 1) a b c d oa on oc code) (by simp [results, Tryz.results170, go_sem, hc1]) rfl ⟨rfl, ?_⟩
 have := B1.out
 go_grown
set_option maxRecDepth 100000 in
set_option maxHeartbeats 2000000 in
theorem step_jump (p a b c d : Int) (oa : Option Addr) (on oc : Nat) (code : Int) (jr ja jb : Nat) (n o k q v : Int) (w : World) (_h0 : 0 ≤ p) (_h1 : p ≤ 1000000000) :
   Calls Tryz.prog 173 #[dV p a b c d oa on oc code, insV o jr ja jb n, evV k q v] w fun e w' => e = .returned (dV n a b c d oa on oc code) ∧ Below w.heap.size w w' := by
 go_enter Tryz.func173, Tryz.ntmps173
 go_wp2
 refine bodyPost_ret (v := dV n a b c d oa on oc code) (by simp [results, Tryz.results173, go_sem]) rfl ⟨rfl, ?_⟩
 go_grown
set_option maxRecDepth 100000 in
set_option maxHeartbeats 2000000 in
theorem step_end (p a b c d : Int) (oa : Option Addr) (on oc : Nat) (code : Int) (jr ja jb : Nat) (n o k q v : Int) (w : World) (_h0 : 0 ≤ p) (_h1 : p ≤ 1000000000) :
   Calls Tryz.prog 175 #[dV p a b c d oa on oc code, insV o jr ja jb n, evV k q v] w fun e w' => e = .returned (dV p a b c d oa on oc 1) ∧ Below w.heap.size w w' := by
 go_enter Tryz.func175, Tryz.ntmps175
 go_wp2
 refine bodyPost_ret (v := dV p a b c d oa on oc 1) (by simp [results, Tryz.results175, go_sem]) rfl ⟨rfl, ?_⟩
 go_grown
set_option maxRecDepth 100000 in
set_option maxHeartbeats 2000000 in
theorem step_add (p a b c d : Int) (oa : Option Addr) (on oc : Nat) (code : Int) (jr ja jb : Nat) (n o k q v : Int) (w : World) (h0 : 0 ≤ p) (h1 : p ≤ 1000000000) (hj : jr < 4) (ha : ja < 4) (hb : jb < 4) (na1 : -1000000000 ≤ zi [a, b, c, d] ja) (na2 : zi [a, b, c, d] ja ≤ 1000000000) (nb1 : -1000000000 ≤ zi [a, b, c, d] jb) (nb2 : zi [a, b, c, d] jb ≤ 1000000000) (mb1 : -1000000000000000000 ≤ zi [a, b, c, d] ja * zi [a, b, c, d] jb) (mb2 : zi [a, b, c, d] ja * zi [a, b, c, d] jb ≤ 1000000000000000000) :
   Calls Tryz.prog 166 #[dV p a b c d oa on oc code, insV o jr ja jb n, evV k q v] w fun e w' => e = .returned (dV (p + 1) (set4 a b c d jr (zi [a, b, c, d] ja + zi [a, b, c, d] jb)).1 (set4 a b c d jr (zi [a, b, c, d] ja + zi [a, b, c, d] jb)).2.1 (set4 a b c d jr (zi [a, b, c, d] ja + zi [a, b, c, d] jb)).2.2.1 (set4 a b c d jr (zi [a, b, c, d] ja + zi [a, b, c, d] jb)).2.2.2 oa on oc code) ∧ Below w.heap.size w w' := by
 go_enter Tryz.func166, Tryz.ntmps166
 go_wp2_with fail
 generalize hW : ((((w.alloc (.cells #[.int .i64 p, .int .i64 a, .int .i64 b, .int .i64 c, .int .i64 d, .slice oa on oc, .int .i64 code] 176)).alloc (.cells #[.int .i64 o, .int .i64 jr, .int .i64 ja, .int .i64 jb, .int .i64 n] 60)).alloc (.cells #[.int .i64 k, .int .i64 q, .int .i64 v] 77)).alloc (.cells #[.int .i64 0, .int .i64 0, .int .i64 0, .int .i64 0, .int .i64 0, .slice none 0 0, .int .i64 0] 176)) = W at *
 have k0 : W.cell? ⟨w.heap.size, 0, none⟩ = some (.int .i64 p) := by subst hW; exact (old_cell _ _ (by first | (simp; done) | (simp; omega))).trans ((old_cell _ _ (by first | (simp; done) | (simp; omega))).trans ((old_cell _ _ (by simp)).trans (by simp)))
 have k1 : W.cell? ⟨w.heap.size, 1, none⟩ = some (.int .i64 a) := by subst hW; exact (old_cell _ _ (by first | (simp; done) | (simp; omega))).trans ((old_cell _ _ (by first | (simp; done) | (simp; omega))).trans ((old_cell _ _ (by simp)).trans (by simp)))
 have k2 : W.cell? ⟨w.heap.size, 2, none⟩ = some (.int .i64 b) := by subst hW; exact (old_cell _ _ (by first | (simp; done) | (simp; omega))).trans ((old_cell _ _ (by first | (simp; done) | (simp; omega))).trans ((old_cell _ _ (by simp)).trans (by simp)))
 have k3 : W.cell? ⟨w.heap.size, 3, none⟩ = some (.int .i64 c) := by subst hW; exact (old_cell _ _ (by first | (simp; done) | (simp; omega))).trans ((old_cell _ _ (by first | (simp; done) | (simp; omega))).trans ((old_cell _ _ (by simp)).trans (by simp)))
 have k4 : W.cell? ⟨w.heap.size, 4, none⟩ = some (.int .i64 d) := by subst hW; exact (old_cell _ _ (by first | (simp; done) | (simp; omega))).trans ((old_cell _ _ (by first | (simp; done) | (simp; omega))).trans ((old_cell _ _ (by simp)).trans (by simp)))
 have k5 : W.cell? ⟨w.heap.size, 5, none⟩ = some (.slice oa on oc) := by subst hW; exact (old_cell _ _ (by first | (simp; done) | (simp; omega))).trans ((old_cell _ _ (by first | (simp; done) | (simp; omega))).trans ((old_cell _ _ (by simp)).trans (by simp)))
 have k6 : W.cell? ⟨w.heap.size, 6, none⟩ = some (.int .i64 code) := by subst hW; exact (old_cell _ _ (by first | (simp; done) | (simp; omega))).trans ((old_cell _ _ (by first | (simp; done) | (simp; omega))).trans ((old_cell _ _ (by simp)).trans (by simp)))
 have x0 : W.cell? ⟨w.heap.size + 1, 0, none⟩ = some (.int .i64 o) := by subst hW; exact (old_cell _ _ (by first | (simp; done) | (simp; omega))).trans ((old_cell _ _ (by simp)).trans (by simp))
 have x1 : W.cell? ⟨w.heap.size + 1, 1, none⟩ = some (.int .i64 jr) := by subst hW; exact (old_cell _ _ (by first | (simp; done) | (simp; omega))).trans ((old_cell _ _ (by simp)).trans (by simp))
 have x2 : W.cell? ⟨w.heap.size + 1, 2, none⟩ = some (.int .i64 ja) := by subst hW; exact (old_cell _ _ (by first | (simp; done) | (simp; omega))).trans ((old_cell _ _ (by simp)).trans (by simp))
 have x3 : W.cell? ⟨w.heap.size + 1, 3, none⟩ = some (.int .i64 jb) := by subst hW; exact (old_cell _ _ (by first | (simp; done) | (simp; omega))).trans ((old_cell _ _ (by simp)).trans (by simp))
 have x4 : W.cell? ⟨w.heap.size + 1, 4, none⟩ = some (.int .i64 n) := by subst hW; exact (old_cell _ _ (by first | (simp; done) | (simp; omega))).trans ((old_cell _ _ (by simp)).trans (by simp))
 have y0 : W.cell? ⟨w.heap.size + 1 + 1, 0, none⟩ = some (.int .i64 k) := by subst hW; exact (old_cell _ _ (by simp)).trans (new_cellB _ _ _ 0 (by simp))
 have y1 : W.cell? ⟨w.heap.size + 1 + 1, 1, none⟩ = some (.int .i64 q) := by subst hW; exact (old_cell _ _ (by simp)).trans (new_cellB _ _ _ 1 (by simp))
 have y2 : W.cell? ⟨w.heap.size + 1 + 1, 2, none⟩ = some (.int .i64 v) := by subst hW; exact (old_cell _ _ (by simp)).trans (new_cellB _ _ _ 2 (by simp))
 have r0 : W.cell? ⟨w.heap.size + 1 + 1 + 1, 0, none⟩ = some (.int .i64 0) := by subst hW; exact new_cellB _ _ _ 0 (by simp)
 have r1 : W.cell? ⟨w.heap.size + 1 + 1 + 1, 1, none⟩ = some (.int .i64 0) := by subst hW; exact new_cellB _ _ _ 1 (by simp)
 have r2 : W.cell? ⟨w.heap.size + 1 + 1 + 1, 2, none⟩ = some (.int .i64 0) := by subst hW; exact new_cellB _ _ _ 2 (by simp)
 have r3 : W.cell? ⟨w.heap.size + 1 + 1 + 1, 3, none⟩ = some (.int .i64 0) := by subst hW; exact new_cellB _ _ _ 3 (by simp)
 have r4 : W.cell? ⟨w.heap.size + 1 + 1 + 1, 4, none⟩ = some (.int .i64 0) := by subst hW; exact new_cellB _ _ _ 4 (by simp)
 have r5 : W.cell? ⟨w.heap.size + 1 + 1 + 1, 5, none⟩ = some (.slice none 0 0) := by subst hW; exact new_cellB _ _ _ 5 (by simp)
 have r6 : W.cell? ⟨w.heap.size + 1 + 1 + 1, 6, none⟩ = some (.int .i64 0) := by subst hW; exact new_cellB _ _ _ 6 (by simp)
 have rf : ∀ j, W.frozen? ⟨w.heap.size + 1 + 1 + 1, j, none⟩ = false := by subst hW; exact fun j => new_frozenB _ _ _ j (by simp)
 have l3 : w.heap.size + 1 + 1 + 1 < W.heap.size := by subst hW; simp
 have BW : Hid (Below w.heap.size w W) := by
   subst hW
   show Below _ _ _
   go_grown
 clear hW
 have l0 : w.heap.size < W.heap.size := by omega
 have l1 : w.heap.size + 1 < W.heap.size := by omega
 have l2 : w.heap.size + 1 + 1 < W.heap.size := by omega
 have ja' : (ja : Int) < 4 := by omega
 have ca : W.cell? ⟨w.heap.size, 1 + ja, none⟩ = some (.int .i64 (zi [a, b, c, d] ja)) := by
   match ja, ha with
   | 0, _ => exact k1
   | 1, _ => exact k2
   | 2, _ => exact k3
   | 3, _ => exact k4
 have cb : W.cell? ⟨w.heap.size, 1 + jb, none⟩ = some (.int .i64 (zi [a, b, c, d] jb)) := by
   match jb, hb with
   | 0, _ => exact k1
   | 1, _ => exact k2
   | 2, _ => exact k3
   | 3, _ => exact k4
 have jb' : (jb : Int) < 4 := by omega
 have hw : IntKind.i64.wrap (zi [a, b, c, d] ja + zi [a, b, c, d] jb) = zi [a, b, c, d] ja + zi [a, b, c, d] jb := by rw [IntKind.wrap_i64]; omega
 generalize hN3 : w.heap.size + 1 + 1 + 1 = N3 at *
 generalize hN2 : w.heap.size + 1 + 1 = N2 at *
 generalize hN1 : w.heap.size + 1 = N1 at *
 have ne1 : w.heap.size ≠ N3 := by omega
 have ne2 : N1 ≠ N3 := by omega
 have ne3 : N3 ≠ w.heap.size := by omega
 have ne4 : N3 ≠ N1 := by omega
 have HN : Hid (w.heap.size < N3) := by show w.heap.size < N3; omega
 clear hN1 hN2 hN3
 go_region_held3 (fun w' => w'.cell? ⟨w.heap.size, 0, none⟩ = some (.int .i64 p) ∧ w'.cell? ⟨w.heap.size, 1, none⟩ = some (.int .i64 a) ∧ w'.cell? ⟨w.heap.size, 2, none⟩ = some (.int .i64 b) ∧ w'.cell? ⟨w.heap.size, 3, none⟩ = some (.int .i64 c) ∧ w'.cell? ⟨w.heap.size, 4, none⟩ = some (.int .i64 d) ∧ w'.cell? ⟨w.heap.size, 5, none⟩ = some (.slice oa on oc) ∧ w'.cell? ⟨w.heap.size, 6, none⟩ = some (.int .i64 code) ∧ w'.cell? ⟨N1, 1, none⟩ = some (.int .i64 jr) ∧ w'.cell? ⟨N1, 2, none⟩ = some (.int .i64 ja) ∧ w'.cell? ⟨N1, 3, none⟩ = some (.int .i64 jb) ∧ w'.cell? ⟨w.heap.size, 1 + ja, none⟩ = some (.int .i64 (zi [a, b, c, d] ja)) ∧ w'.cell? ⟨w.heap.size, 1 + jb, none⟩ = some (.int .i64 (zi [a, b, c, d] jb))) (go_keep)
   (first | (go_at_call 184; refine (put_any _ _ _ _ _ _ _ _ _ _ _ _ h0 h1 hj).mono ?_; rintro e w1 ⟨rfl, b1'⟩; have b1 : Below W.heap.size W w1 := (Below.refl W.heap.size W).drew.trans b1'; obtain ⟨hc1, hf1⟩ := bcell b1; have B1 : Hid (Below w.heap.size w w1) := BW.out.trans (b1.mono BW.out.size); clear b1 b1'))
 go_wp2
 refine bodyPost_ret (v := dV (p + 1) (set4 a b c d jr (zi [a, b, c, d] ja + zi [a, b, c, d] jb)).1 (set4 a b c d jr (zi [a, b, c, d] ja + zi [a, b, c, d] jb)).2.1 (set4 a b c d jr (zi [a, b, c, d] ja + zi [a, b, c, d] jb)).2.2.1 (set4 a b c d jr (zi [a, b, c, d] ja + zi [a, b, c, d] jb)).2.2.2 oa on oc code) (by simp [results, Tryz.results166, go_sem, hc1, l3, r0, r1, r2, r3, r4, r5, r6]) rfl ⟨rfl, ?_⟩
 have := B1.out
 have := HN.out
 go_grown
set_option maxRecDepth 100000 in
set_option maxHeartbeats 2000000 in
theorem step_sub (p a b c d : Int) (oa : Option Addr) (on oc : Nat) (code : Int) (jr ja jb : Nat) (n o k q v : Int) (w : World) (h0 : 0 ≤ p) (h1 : p ≤ 1000000000) (hj : jr < 4) (ha : ja < 4) (hb : jb < 4) (na1 : -1000000000 ≤ zi [a, b, c, d] ja) (na2 : zi [a, b, c, d] ja ≤ 1000000000) (nb1 : -1000000000 ≤ zi [a, b, c, d] jb) (nb2 : zi [a, b, c, d] jb ≤ 1000000000) (mb1 : -1000000000000000000 ≤ zi [a, b, c, d] ja * zi [a, b, c, d] jb) (mb2 : zi [a, b, c, d] ja * zi [a, b, c, d] jb ≤ 1000000000000000000) :
   Calls Tryz.prog 167 #[dV p a b c d oa on oc code, insV o jr ja jb n, evV k q v] w fun e w' => e = .returned (dV (p + 1) (set4 a b c d jr (zi [a, b, c, d] ja - zi [a, b, c, d] jb)).1 (set4 a b c d jr (zi [a, b, c, d] ja - zi [a, b, c, d] jb)).2.1 (set4 a b c d jr (zi [a, b, c, d] ja - zi [a, b, c, d] jb)).2.2.1 (set4 a b c d jr (zi [a, b, c, d] ja - zi [a, b, c, d] jb)).2.2.2 oa on oc code) ∧ Below w.heap.size w w' := by
 go_enter Tryz.func167, Tryz.ntmps167
 go_wp2_with fail
 generalize hW : ((((w.alloc (.cells #[.int .i64 p, .int .i64 a, .int .i64 b, .int .i64 c, .int .i64 d, .slice oa on oc, .int .i64 code] 176)).alloc (.cells #[.int .i64 o, .int .i64 jr, .int .i64 ja, .int .i64 jb, .int .i64 n] 60)).alloc (.cells #[.int .i64 k, .int .i64 q, .int .i64 v] 77)).alloc (.cells #[.int .i64 0, .int .i64 0, .int .i64 0, .int .i64 0, .int .i64 0, .slice none 0 0, .int .i64 0] 176)) = W at *
 have k0 : W.cell? ⟨w.heap.size, 0, none⟩ = some (.int .i64 p) := by subst hW; exact (old_cell _ _ (by first | (simp; done) | (simp; omega))).trans ((old_cell _ _ (by first | (simp; done) | (simp; omega))).trans ((old_cell _ _ (by simp)).trans (by simp)))
 have k1 : W.cell? ⟨w.heap.size, 1, none⟩ = some (.int .i64 a) := by subst hW; exact (old_cell _ _ (by first | (simp; done) | (simp; omega))).trans ((old_cell _ _ (by first | (simp; done) | (simp; omega))).trans ((old_cell _ _ (by simp)).trans (by simp)))
 have k2 : W.cell? ⟨w.heap.size, 2, none⟩ = some (.int .i64 b) := by subst hW; exact (old_cell _ _ (by first | (simp; done) | (simp; omega))).trans ((old_cell _ _ (by first | (simp; done) | (simp; omega))).trans ((old_cell _ _ (by simp)).trans (by simp)))
 have k3 : W.cell? ⟨w.heap.size, 3, none⟩ = some (.int .i64 c) := by subst hW; exact (old_cell _ _ (by first | (simp; done) | (simp; omega))).trans ((old_cell _ _ (by first | (simp; done) | (simp; omega))).trans ((old_cell _ _ (by simp)).trans (by simp)))
 have k4 : W.cell? ⟨w.heap.size, 4, none⟩ = some (.int .i64 d) := by subst hW; exact (old_cell _ _ (by first | (simp; done) | (simp; omega))).trans ((old_cell _ _ (by first | (simp; done) | (simp; omega))).trans ((old_cell _ _ (by simp)).trans (by simp)))
 have k5 : W.cell? ⟨w.heap.size, 5, none⟩ = some (.slice oa on oc) := by subst hW; exact (old_cell _ _ (by first | (simp; done) | (simp; omega))).trans ((old_cell _ _ (by first | (simp; done) | (simp; omega))).trans ((old_cell _ _ (by simp)).trans (by simp)))
 have k6 : W.cell? ⟨w.heap.size, 6, none⟩ = some (.int .i64 code) := by subst hW; exact (old_cell _ _ (by first | (simp; done) | (simp; omega))).trans ((old_cell _ _ (by first | (simp; done) | (simp; omega))).trans ((old_cell _ _ (by simp)).trans (by simp)))
 have x0 : W.cell? ⟨w.heap.size + 1, 0, none⟩ = some (.int .i64 o) := by subst hW; exact (old_cell _ _ (by first | (simp; done) | (simp; omega))).trans ((old_cell _ _ (by simp)).trans (by simp))
 have x1 : W.cell? ⟨w.heap.size + 1, 1, none⟩ = some (.int .i64 jr) := by subst hW; exact (old_cell _ _ (by first | (simp; done) | (simp; omega))).trans ((old_cell _ _ (by simp)).trans (by simp))
 have x2 : W.cell? ⟨w.heap.size + 1, 2, none⟩ = some (.int .i64 ja) := by subst hW; exact (old_cell _ _ (by first | (simp; done) | (simp; omega))).trans ((old_cell _ _ (by simp)).trans (by simp))
 have x3 : W.cell? ⟨w.heap.size + 1, 3, none⟩ = some (.int .i64 jb) := by subst hW; exact (old_cell _ _ (by first | (simp; done) | (simp; omega))).trans ((old_cell _ _ (by simp)).trans (by simp))
 have x4 : W.cell? ⟨w.heap.size + 1, 4, none⟩ = some (.int .i64 n) := by subst hW; exact (old_cell _ _ (by first | (simp; done) | (simp; omega))).trans ((old_cell _ _ (by simp)).trans (by simp))
 have y0 : W.cell? ⟨w.heap.size + 1 + 1, 0, none⟩ = some (.int .i64 k) := by subst hW; exact (old_cell _ _ (by simp)).trans (new_cellB _ _ _ 0 (by simp))
 have y1 : W.cell? ⟨w.heap.size + 1 + 1, 1, none⟩ = some (.int .i64 q) := by subst hW; exact (old_cell _ _ (by simp)).trans (new_cellB _ _ _ 1 (by simp))
 have y2 : W.cell? ⟨w.heap.size + 1 + 1, 2, none⟩ = some (.int .i64 v) := by subst hW; exact (old_cell _ _ (by simp)).trans (new_cellB _ _ _ 2 (by simp))
 have r0 : W.cell? ⟨w.heap.size + 1 + 1 + 1, 0, none⟩ = some (.int .i64 0) := by subst hW; exact new_cellB _ _ _ 0 (by simp)
 have r1 : W.cell? ⟨w.heap.size + 1 + 1 + 1, 1, none⟩ = some (.int .i64 0) := by subst hW; exact new_cellB _ _ _ 1 (by simp)
 have r2 : W.cell? ⟨w.heap.size + 1 + 1 + 1, 2, none⟩ = some (.int .i64 0) := by subst hW; exact new_cellB _ _ _ 2 (by simp)
 have r3 : W.cell? ⟨w.heap.size + 1 + 1 + 1, 3, none⟩ = some (.int .i64 0) := by subst hW; exact new_cellB _ _ _ 3 (by simp)
 have r4 : W.cell? ⟨w.heap.size + 1 + 1 + 1, 4, none⟩ = some (.int .i64 0) := by subst hW; exact new_cellB _ _ _ 4 (by simp)
 have r5 : W.cell? ⟨w.heap.size + 1 + 1 + 1, 5, none⟩ = some (.slice none 0 0) := by subst hW; exact new_cellB _ _ _ 5 (by simp)
 have r6 : W.cell? ⟨w.heap.size + 1 + 1 + 1, 6, none⟩ = some (.int .i64 0) := by subst hW; exact new_cellB _ _ _ 6 (by simp)
 have rf : ∀ j, W.frozen? ⟨w.heap.size + 1 + 1 + 1, j, none⟩ = false := by subst hW; exact fun j => new_frozenB _ _ _ j (by simp)
 have l3 : w.heap.size + 1 + 1 + 1 < W.heap.size := by subst hW; simp
 have BW : Hid (Below w.heap.size w W) := by
   subst hW
   show Below _ _ _
   go_grown
 clear hW
 have l0 : w.heap.size < W.heap.size := by omega
 have l1 : w.heap.size + 1 < W.heap.size := by omega
 have l2 : w.heap.size + 1 + 1 < W.heap.size := by omega
 have ja' : (ja : Int) < 4 := by omega
 have ca : W.cell? ⟨w.heap.size, 1 + ja, none⟩ = some (.int .i64 (zi [a, b, c, d] ja)) := by
   match ja, ha with
   | 0, _ => exact k1
   | 1, _ => exact k2
   | 2, _ => exact k3
   | 3, _ => exact k4
 have cb : W.cell? ⟨w.heap.size, 1 + jb, none⟩ = some (.int .i64 (zi [a, b, c, d] jb)) := by
   match jb, hb with
   | 0, _ => exact k1
   | 1, _ => exact k2
   | 2, _ => exact k3
   | 3, _ => exact k4
 have jb' : (jb : Int) < 4 := by omega
 have hw : IntKind.i64.wrap (zi [a, b, c, d] ja - zi [a, b, c, d] jb) = zi [a, b, c, d] ja - zi [a, b, c, d] jb := by rw [IntKind.wrap_i64]; omega
 generalize hN3 : w.heap.size + 1 + 1 + 1 = N3 at *
 generalize hN2 : w.heap.size + 1 + 1 = N2 at *
 generalize hN1 : w.heap.size + 1 = N1 at *
 have ne1 : w.heap.size ≠ N3 := by omega
 have ne2 : N1 ≠ N3 := by omega
 have ne3 : N3 ≠ w.heap.size := by omega
 have ne4 : N3 ≠ N1 := by omega
 have HN : Hid (w.heap.size < N3) := by show w.heap.size < N3; omega
 clear hN1 hN2 hN3
 go_region_held3 (fun w' => w'.cell? ⟨w.heap.size, 0, none⟩ = some (.int .i64 p) ∧ w'.cell? ⟨w.heap.size, 1, none⟩ = some (.int .i64 a) ∧ w'.cell? ⟨w.heap.size, 2, none⟩ = some (.int .i64 b) ∧ w'.cell? ⟨w.heap.size, 3, none⟩ = some (.int .i64 c) ∧ w'.cell? ⟨w.heap.size, 4, none⟩ = some (.int .i64 d) ∧ w'.cell? ⟨w.heap.size, 5, none⟩ = some (.slice oa on oc) ∧ w'.cell? ⟨w.heap.size, 6, none⟩ = some (.int .i64 code) ∧ w'.cell? ⟨N1, 1, none⟩ = some (.int .i64 jr) ∧ w'.cell? ⟨N1, 2, none⟩ = some (.int .i64 ja) ∧ w'.cell? ⟨N1, 3, none⟩ = some (.int .i64 jb) ∧ w'.cell? ⟨w.heap.size, 1 + ja, none⟩ = some (.int .i64 (zi [a, b, c, d] ja)) ∧ w'.cell? ⟨w.heap.size, 1 + jb, none⟩ = some (.int .i64 (zi [a, b, c, d] jb))) (go_keep)
   (first | (go_at_call 184; refine (put_any _ _ _ _ _ _ _ _ _ _ _ _ h0 h1 hj).mono ?_; rintro e w1 ⟨rfl, b1'⟩; have b1 : Below W.heap.size W w1 := (Below.refl W.heap.size W).drew.trans b1'; obtain ⟨hc1, hf1⟩ := bcell b1; have B1 : Hid (Below w.heap.size w w1) := BW.out.trans (b1.mono BW.out.size); clear b1 b1'))
 go_wp2
 refine bodyPost_ret (v := dV (p + 1) (set4 a b c d jr (zi [a, b, c, d] ja - zi [a, b, c, d] jb)).1 (set4 a b c d jr (zi [a, b, c, d] ja - zi [a, b, c, d] jb)).2.1 (set4 a b c d jr (zi [a, b, c, d] ja - zi [a, b, c, d] jb)).2.2.1 (set4 a b c d jr (zi [a, b, c, d] ja - zi [a, b, c, d] jb)).2.2.2 oa on oc code) (by simp [results, Tryz.results167, go_sem, hc1, l3, r0, r1, r2, r3, r4, r5, r6]) rfl ⟨rfl, ?_⟩
 have := B1.out
 have := HN.out
 go_grown
set_option maxRecDepth 100000 in
set_option maxHeartbeats 2000000 in
theorem step_mul (p a b c d : Int) (oa : Option Addr) (on oc : Nat) (code : Int) (jr ja jb : Nat) (n o k q v : Int) (w : World) (h0 : 0 ≤ p) (h1 : p ≤ 1000000000) (hj : jr < 4) (ha : ja < 4) (hb : jb < 4) (na1 : -1000000000 ≤ zi [a, b, c, d] ja) (na2 : zi [a, b, c, d] ja ≤ 1000000000) (nb1 : -1000000000 ≤ zi [a, b, c, d] jb) (nb2 : zi [a, b, c, d] jb ≤ 1000000000) (mb1 : -1000000000000000000 ≤ zi [a, b, c, d] ja * zi [a, b, c, d] jb) (mb2 : zi [a, b, c, d] ja * zi [a, b, c, d] jb ≤ 1000000000000000000) :
   Calls Tryz.prog 168 #[dV p a b c d oa on oc code, insV o jr ja jb n, evV k q v] w fun e w' => e = .returned (dV (p + 1) (set4 a b c d jr (zi [a, b, c, d] ja * zi [a, b, c, d] jb)).1 (set4 a b c d jr (zi [a, b, c, d] ja * zi [a, b, c, d] jb)).2.1 (set4 a b c d jr (zi [a, b, c, d] ja * zi [a, b, c, d] jb)).2.2.1 (set4 a b c d jr (zi [a, b, c, d] ja * zi [a, b, c, d] jb)).2.2.2 oa on oc code) ∧ Below w.heap.size w w' := by
 go_enter Tryz.func168, Tryz.ntmps168
 go_wp2_with fail
 generalize hW : ((((w.alloc (.cells #[.int .i64 p, .int .i64 a, .int .i64 b, .int .i64 c, .int .i64 d, .slice oa on oc, .int .i64 code] 176)).alloc (.cells #[.int .i64 o, .int .i64 jr, .int .i64 ja, .int .i64 jb, .int .i64 n] 60)).alloc (.cells #[.int .i64 k, .int .i64 q, .int .i64 v] 77)).alloc (.cells #[.int .i64 0, .int .i64 0, .int .i64 0, .int .i64 0, .int .i64 0, .slice none 0 0, .int .i64 0] 176)) = W at *
 have k0 : W.cell? ⟨w.heap.size, 0, none⟩ = some (.int .i64 p) := by subst hW; exact (old_cell _ _ (by first | (simp; done) | (simp; omega))).trans ((old_cell _ _ (by first | (simp; done) | (simp; omega))).trans ((old_cell _ _ (by simp)).trans (by simp)))
 have k1 : W.cell? ⟨w.heap.size, 1, none⟩ = some (.int .i64 a) := by subst hW; exact (old_cell _ _ (by first | (simp; done) | (simp; omega))).trans ((old_cell _ _ (by first | (simp; done) | (simp; omega))).trans ((old_cell _ _ (by simp)).trans (by simp)))
 have k2 : W.cell? ⟨w.heap.size, 2, none⟩ = some (.int .i64 b) := by subst hW; exact (old_cell _ _ (by first | (simp; done) | (simp; omega))).trans ((old_cell _ _ (by first | (simp; done) | (simp; omega))).trans ((old_cell _ _ (by simp)).trans (by simp)))
 have k3 : W.cell? ⟨w.heap.size, 3, none⟩ = some (.int .i64 c) := by subst hW; exact (old_cell _ _ (by first | (simp; done) | (simp; omega))).trans ((old_cell _ _ (by first | (simp; done) | (simp; omega))).trans ((old_cell _ _ (by simp)).trans (by simp)))
 have k4 : W.cell? ⟨w.heap.size, 4, none⟩ = some (.int .i64 d) := by subst hW; exact (old_cell _ _ (by first | (simp; done) | (simp; omega))).trans ((old_cell _ _ (by first | (simp; done) | (simp; omega))).trans ((old_cell _ _ (by simp)).trans (by simp)))
 have k5 : W.cell? ⟨w.heap.size, 5, none⟩ = some (.slice oa on oc) := by subst hW; exact (old_cell _ _ (by first | (simp; done) | (simp; omega))).trans ((old_cell _ _ (by first | (simp; done) | (simp; omega))).trans ((old_cell _ _ (by simp)).trans (by simp)))
 have k6 : W.cell? ⟨w.heap.size, 6, none⟩ = some (.int .i64 code) := by subst hW; exact (old_cell _ _ (by first | (simp; done) | (simp; omega))).trans ((old_cell _ _ (by first | (simp; done) | (simp; omega))).trans ((old_cell _ _ (by simp)).trans (by simp)))
 have x0 : W.cell? ⟨w.heap.size + 1, 0, none⟩ = some (.int .i64 o) := by subst hW; exact (old_cell _ _ (by first | (simp; done) | (simp; omega))).trans ((old_cell _ _ (by simp)).trans (by simp))
 have x1 : W.cell? ⟨w.heap.size + 1, 1, none⟩ = some (.int .i64 jr) := by subst hW; exact (old_cell _ _ (by first | (simp; done) | (simp; omega))).trans ((old_cell _ _ (by simp)).trans (by simp))
 have x2 : W.cell? ⟨w.heap.size + 1, 2, none⟩ = some (.int .i64 ja) := by subst hW; exact (old_cell _ _ (by first | (simp; done) | (simp; omega))).trans ((old_cell _ _ (by simp)).trans (by simp))
 have x3 : W.cell? ⟨w.heap.size + 1, 3, none⟩ = some (.int .i64 jb) := by subst hW; exact (old_cell _ _ (by first | (simp; done) | (simp; omega))).trans ((old_cell _ _ (by simp)).trans (by simp))
 have x4 : W.cell? ⟨w.heap.size + 1, 4, none⟩ = some (.int .i64 n) := by subst hW; exact (old_cell _ _ (by first | (simp; done) | (simp; omega))).trans ((old_cell _ _ (by simp)).trans (by simp))
 have y0 : W.cell? ⟨w.heap.size + 1 + 1, 0, none⟩ = some (.int .i64 k) := by subst hW; exact (old_cell _ _ (by simp)).trans (new_cellB _ _ _ 0 (by simp))
 have y1 : W.cell? ⟨w.heap.size + 1 + 1, 1, none⟩ = some (.int .i64 q) := by subst hW; exact (old_cell _ _ (by simp)).trans (new_cellB _ _ _ 1 (by simp))
 have y2 : W.cell? ⟨w.heap.size + 1 + 1, 2, none⟩ = some (.int .i64 v) := by subst hW; exact (old_cell _ _ (by simp)).trans (new_cellB _ _ _ 2 (by simp))
 have r0 : W.cell? ⟨w.heap.size + 1 + 1 + 1, 0, none⟩ = some (.int .i64 0) := by subst hW; exact new_cellB _ _ _ 0 (by simp)
 have r1 : W.cell? ⟨w.heap.size + 1 + 1 + 1, 1, none⟩ = some (.int .i64 0) := by subst hW; exact new_cellB _ _ _ 1 (by simp)
 have r2 : W.cell? ⟨w.heap.size + 1 + 1 + 1, 2, none⟩ = some (.int .i64 0) := by subst hW; exact new_cellB _ _ _ 2 (by simp)
 have r3 : W.cell? ⟨w.heap.size + 1 + 1 + 1, 3, none⟩ = some (.int .i64 0) := by subst hW; exact new_cellB _ _ _ 3 (by simp)
 have r4 : W.cell? ⟨w.heap.size + 1 + 1 + 1, 4, none⟩ = some (.int .i64 0) := by subst hW; exact new_cellB _ _ _ 4 (by simp)
 have r5 : W.cell? ⟨w.heap.size + 1 + 1 + 1, 5, none⟩ = some (.slice none 0 0) := by subst hW; exact new_cellB _ _ _ 5 (by simp)
 have r6 : W.cell? ⟨w.heap.size + 1 + 1 + 1, 6, none⟩ = some (.int .i64 0) := by subst hW; exact new_cellB _ _ _ 6 (by simp)
 have rf : ∀ j, W.frozen? ⟨w.heap.size + 1 + 1 + 1, j, none⟩ = false := by subst hW; exact fun j => new_frozenB _ _ _ j (by simp)
 have l3 : w.heap.size + 1 + 1 + 1 < W.heap.size := by subst hW; simp
 have BW : Hid (Below w.heap.size w W) := by
   subst hW
   show Below _ _ _
   go_grown
 clear hW
 have l0 : w.heap.size < W.heap.size := by omega
 have l1 : w.heap.size + 1 < W.heap.size := by omega
 have l2 : w.heap.size + 1 + 1 < W.heap.size := by omega
 have ja' : (ja : Int) < 4 := by omega
 have ca : W.cell? ⟨w.heap.size, 1 + ja, none⟩ = some (.int .i64 (zi [a, b, c, d] ja)) := by
   match ja, ha with
   | 0, _ => exact k1
   | 1, _ => exact k2
   | 2, _ => exact k3
   | 3, _ => exact k4
 have cb : W.cell? ⟨w.heap.size, 1 + jb, none⟩ = some (.int .i64 (zi [a, b, c, d] jb)) := by
   match jb, hb with
   | 0, _ => exact k1
   | 1, _ => exact k2
   | 2, _ => exact k3
   | 3, _ => exact k4
 have jb' : (jb : Int) < 4 := by omega
 have hw : IntKind.i64.wrap (zi [a, b, c, d] ja * zi [a, b, c, d] jb) = zi [a, b, c, d] ja * zi [a, b, c, d] jb := by rw [IntKind.wrap_i64]; omega
 generalize hN3 : w.heap.size + 1 + 1 + 1 = N3 at *
 generalize hN2 : w.heap.size + 1 + 1 = N2 at *
 generalize hN1 : w.heap.size + 1 = N1 at *
 have ne1 : w.heap.size ≠ N3 := by omega
 have ne2 : N1 ≠ N3 := by omega
 have ne3 : N3 ≠ w.heap.size := by omega
 have ne4 : N3 ≠ N1 := by omega
 have HN : Hid (w.heap.size < N3) := by show w.heap.size < N3; omega
 clear hN1 hN2 hN3
 go_region_held3 (fun w' => w'.cell? ⟨w.heap.size, 0, none⟩ = some (.int .i64 p) ∧ w'.cell? ⟨w.heap.size, 1, none⟩ = some (.int .i64 a) ∧ w'.cell? ⟨w.heap.size, 2, none⟩ = some (.int .i64 b) ∧ w'.cell? ⟨w.heap.size, 3, none⟩ = some (.int .i64 c) ∧ w'.cell? ⟨w.heap.size, 4, none⟩ = some (.int .i64 d) ∧ w'.cell? ⟨w.heap.size, 5, none⟩ = some (.slice oa on oc) ∧ w'.cell? ⟨w.heap.size, 6, none⟩ = some (.int .i64 code) ∧ w'.cell? ⟨N1, 1, none⟩ = some (.int .i64 jr) ∧ w'.cell? ⟨N1, 2, none⟩ = some (.int .i64 ja) ∧ w'.cell? ⟨N1, 3, none⟩ = some (.int .i64 jb) ∧ w'.cell? ⟨w.heap.size, 1 + ja, none⟩ = some (.int .i64 (zi [a, b, c, d] ja)) ∧ w'.cell? ⟨w.heap.size, 1 + jb, none⟩ = some (.int .i64 (zi [a, b, c, d] jb))) (go_keep)
   (first | (go_at_call 184; refine (put_any _ _ _ _ _ _ _ _ _ _ _ _ h0 h1 hj).mono ?_; rintro e w1 ⟨rfl, b1'⟩; have b1 : Below W.heap.size W w1 := (Below.refl W.heap.size W).drew.trans b1'; obtain ⟨hc1, hf1⟩ := bcell b1; have B1 : Hid (Below w.heap.size w w1) := BW.out.trans (b1.mono BW.out.size); clear b1 b1'))
 go_wp2
 refine bodyPost_ret (v := dV (p + 1) (set4 a b c d jr (zi [a, b, c, d] ja * zi [a, b, c, d] jb)).1 (set4 a b c d jr (zi [a, b, c, d] ja * zi [a, b, c, d] jb)).2.1 (set4 a b c d jr (zi [a, b, c, d] ja * zi [a, b, c, d] jb)).2.2.1 (set4 a b c d jr (zi [a, b, c, d] ja * zi [a, b, c, d] jb)).2.2.2 oa on oc code) (by simp [results, Tryz.results168, go_sem, hc1, l3, r0, r1, r2, r3, r4, r5, r6]) rfl ⟨rfl, ?_⟩
 have := B1.out
 have := HN.out
 go_grown
end Go.Proofs.YtdigofhceahpdaaGreatDoor
