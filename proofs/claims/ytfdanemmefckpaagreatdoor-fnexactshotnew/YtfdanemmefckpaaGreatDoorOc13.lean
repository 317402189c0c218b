/- The walks of the program's steps zero, less and print. -/
import Derived.Test.YtfdanemmefckpaaGreatDoorOc0
import Derived.Test.YtfdanemmefckpaaGreatDoorOc9
import Derived.Test.YtfdanemmefckpaaGreatDoorOc6
import Derived.Laws.EntriesVeiled
namespace Go.Proofs.YtfdanemmefckpaaGreatDoor
set_option maxRecDepth 100000
set_option maxHeartbeats 2000000
open Go.RowKit
theorem new_cellB (w : World) (cs : Array Value) (t : TypeId) (j : Nat) {N : Nat} (h : N = w.heap.size) : (w.alloc (.cells cs t)).cell? ⟨N, j, none⟩ = cs[j]? := by
 subst h
 simp
theorem new_frozenB (w : World) (cs : Array Value) (t : TypeId) (j : Nat) {N : Nat} (h : N = w.heap.size) : (w.alloc (.cells cs t)).frozen? ⟨N, j, none⟩ = false := by
 subst h
 simp
theorem set4_list (a b c d : Int) (j : Nat) (v : Int) (hj : j < 4) : [(set4 a b c d j v).1, (set4 a b c d j v).2.1, (set4 a b c d j v).2.2.1, (set4 a b c d j v).2.2.2] = [a, b, c, d].set j v := by
 match j, hj with
 | 0, _ => rfl
 | 1, _ => rfl
 | 2, _ => rfl
 | 3, _ => rfl
theorem step_set (p a b c d : Int) (oa : Option Addr) (on oc : Nat) (code : Int) (jr ja jb : Nat) (n o k q v : Int) (w : World) (h0 : 0 ≤ p) (h1 : p ≤ 1000000000) (hj : jr < 4) :
  Calls Tryz.prog 226 #[dV p a b c d oa on oc code, insV o jr ja jb n, evV k q v] w fun e w' => e = .returned (dV (p + 1) (set4 a b c d jr (n)).1 (set4 a b c d jr (n)).2.1 (set4 a b c d jr (n)).2.2.1 (set4 a b c d jr (n)).2.2.2 oa on oc code) ∧ Below w.heap.size w w' := by
 go_enter Tryz.func226, Tryz.ntmps226
 go_wp2_with fail
 refine (put_any _ _ _ _ _ _ _ _ _ _ _ _ h0 h1 hj).mono ?_
 rintro e w1 ⟨rfl, b1⟩
 have B1 : Hid (Below w.heap.size w w1) := below_up (by go_grown) b1 (by simp; omega)
 obtain ⟨hc1, hf1⟩ := bcell b1
 clear b1
 go_wp2
 refine bodyPost_ret (v := dV (p + 1) (set4 a b c d jr (n)).1 (set4 a b c d jr (n)).2.1 (set4 a b c d jr (n)).2.2.1 (set4 a b c d jr (n)).2.2.2 oa on oc code) (by simp [results, Tryz.results226, go_sem, hc1]) rfl ⟨rfl, ?_⟩
 have := B1.out
 go_grown
theorem step_take (p a b c d : Int) (oa : Option Addr) (on oc : Nat) (code : Int) (jr ja jb : Nat) (n o k q v : Int) (w : World) (h0 : 0 ≤ p) (h1 : p ≤ 1000000000) (hj : jr < 4) :
  Calls Tryz.prog 232 #[dV p a b c d oa on oc code, insV o jr ja jb n, evV k q v] w fun e w' => e = .returned (dV (p + 1) (set4 a b c d jr (v)).1 (set4 a b c d jr (v)).2.1 (set4 a b c d jr (v)).2.2.1 (set4 a b c d jr (v)).2.2.2 oa on oc code) ∧ Below w.heap.size w w' := by
 go_enter Tryz.func232, Tryz.ntmps232
 go_wp2_with fail
 refine (put_any _ _ _ _ _ _ _ _ _ _ _ _ h0 h1 hj).mono ?_
 rintro e w1 ⟨rfl, b1⟩
 have B1 : Hid (Below w.heap.size w w1) := below_up (by go_grown) b1 (by simp; omega)
 obtain ⟨hc1, hf1⟩ := bcell b1
 clear b1
 go_wp2
 refine bodyPost_ret (v := dV (p + 1) (set4 a b c d jr (v)).1 (set4 a b c d jr (v)).2.1 (set4 a b c d jr (v)).2.2.1 (set4 a b c d jr (v)).2.2.2 oa on oc code) (by simp [results, Tryz.results232, go_sem, hc1]) rfl ⟨rfl, ?_⟩
 have := B1.out
 go_grown
theorem step_send (p a b c d : Int) (oa : Option Addr) (on oc : Nat) (code : Int) (jr ja jb : Nat) (n o k q v : Int) (w : World) (h0 : 0 ≤ p) (h1 : p ≤ 1000000000) :
  Calls Tryz.prog 231 #[dV p a b c d oa on oc code, insV o jr ja jb n, evV k q v] w fun e w' => e = .returned (dV (p + 1) a b c d oa on oc code) ∧ Below w.heap.size w w' := by
 go_enter Tryz.func231, Tryz.ntmps231
 go_wp2_with fail
 refine (onward_any _ _ _ _ _ _ _ _ _ _ h0 h1).mono ?_
 rintro e w1 ⟨rfl, b1⟩
 have B1 : Hid (Below w.heap.size w w1) := below_up (by go_grown) b1 (by simp; omega)
 obtain ⟨hc1, hf1⟩ := bcell b1
 clear b1
 go_wp2
 refine bodyPost_ret (v := dV (p + 1) a b c d oa on oc code) (by simp [results, Tryz.results231, go_sem, hc1]) rfl ⟨rfl, ?_⟩
 have := B1.out
 go_grown
theorem step_jump (p a b c d : Int) (oa : Option Addr) (on oc : Nat) (code : Int) (jr ja jb : Nat) (n o k q v : Int) (w : World) (_h0 : 0 ≤ p) (_h1 : p ≤ 1000000000) :
  Calls Tryz.prog 234 #[dV p a b c d oa on oc code, insV o jr ja jb n, evV k q v] w fun e w' => e = .returned (dV n a b c d oa on oc code) ∧ Below w.heap.size w w' := by
 go_enter Tryz.func234, Tryz.ntmps234
 go_wp2
 refine bodyPost_ret (v := dV n a b c d oa on oc code) (by simp [results, Tryz.results234, go_sem]) rfl ⟨rfl, ?_⟩
 go_grown
theorem step_end (p a b c d : Int) (oa : Option Addr) (on oc : Nat) (code : Int) (jr ja jb : Nat) (n o k q v : Int) (w : World) (_h0 : 0 ≤ p) (_h1 : p ≤ 1000000000) :
  Calls Tryz.prog 236 #[dV p a b c d oa on oc code, insV o jr ja jb n, evV k q v] w fun e w' => e = .returned (dV p a b c d oa on oc 1) ∧ Below w.heap.size w w' := by
 go_enter Tryz.func236, Tryz.ntmps236
 go_wp2
 refine bodyPost_ret (v := dV p a b c d oa on oc 1) (by simp [results, Tryz.results236, go_sem]) rfl ⟨rfl, ?_⟩
 go_grown
theorem diB_w1 {w W : World} {v0 : Int} {v1 : Int} {v2 : Int} {v3 : Int} {v4 : Int} {v5 : Option Addr} {v6 : Nat} {v7 : Nat} {v8 : Int} {v9 : Int} {v10 : Int} {v11 : Int} {v12 : Int} {v13 : Int} {v14 : Int} {v15 : Int} {v16 : Int} (hW : ((((w.alloc (oQ3 v0 v1 v2 v3 v4 v5 v6 v7 v8)).alloc (oQ2 v9 v10 v11 v12 v13)).alloc (oQ0 v14 v15 v16)).alloc (zQ1)) = W) : W.cell? ⟨w.heap.size, 0, none⟩ = some (.int .i64 v0) ∧ W.cell? ⟨w.heap.size, 1, none⟩ = some (.int .i64 v1) ∧ W.cell? ⟨w.heap.size, 2, none⟩ = some (.int .i64 v2) ∧ W.cell? ⟨w.heap.size, 3, none⟩ = some (.int .i64 v3) ∧ W.cell? ⟨w.heap.size, 4, none⟩ = some (.int .i64 v4) ∧ W.cell? ⟨w.heap.size, 5, none⟩ = some (.slice v5 v6 v7) ∧ W.cell? ⟨w.heap.size, 6, none⟩ = some (.int .i64 v8) ∧ W.cell? ⟨w.heap.size + 1, 0, none⟩ = some (.int .i64 v9) ∧ W.cell? ⟨w.heap.size + 1, 1, none⟩ = some (.int .i64 v10) ∧ W.cell? ⟨w.heap.size + 1, 2, none⟩ = some (.int .i64 v11) ∧ W.cell? ⟨w.heap.size + 1, 3, none⟩ = some (.int .i64 v12) ∧ W.cell? ⟨w.heap.size + 1, 4, none⟩ = some (.int .i64 v13) ∧ W.cell? ⟨w.heap.size + 1 + 1, 0, none⟩ = some (.int .i64 v14) ∧ W.cell? ⟨w.heap.size + 1 + 1, 1, none⟩ = some (.int .i64 v15) ∧ W.cell? ⟨w.heap.size + 1 + 1, 2, none⟩ = some (.int .i64 v16) ∧ W.cell? ⟨w.heap.size + 1 + 1 + 1, 0, none⟩ = some (.int .i64 0) ∧ W.cell? ⟨w.heap.size + 1 + 1 + 1, 1, none⟩ = some (.int .i64 0) ∧ W.cell? ⟨w.heap.size + 1 + 1 + 1, 2, none⟩ = some (.int .i64 0) ∧ W.cell? ⟨w.heap.size + 1 + 1 + 1, 3, none⟩ = some (.int .i64 0) ∧ W.cell? ⟨w.heap.size + 1 + 1 + 1, 4, none⟩ = some (.int .i64 0) ∧ W.cell? ⟨w.heap.size + 1 + 1 + 1, 5, none⟩ = some (.slice none 0 0) ∧ W.cell? ⟨w.heap.size + 1 + 1 + 1, 6, none⟩ = some (.int .i64 0) ∧ (∀ j, W.frozen? ⟨w.heap.size + 1 + 1 + 1, j, none⟩ = false) ∧ w.heap.size + 1 + 1 + 1 < W.heap.size ∧ Below w.heap.size w W := by
 subst hW
 exact ⟨(old_cell _ _ (by first | (simp; done) | (simp; omega))).trans ((old_cell _ _ (by first | (simp; done) | (simp; omega))).trans ((old_cell _ _ (by simp)).trans (by simp))), (old_cell _ _ (by first | (simp; done) | (simp; omega))).trans ((old_cell _ _ (by first | (simp; done) | (simp; omega))).trans ((old_cell _ _ (by simp)).trans (by simp))), (old_cell _ _ (by first | (simp; done) | (simp; omega))).trans ((old_cell _ _ (by first | (simp; done) | (simp; omega))).trans ((old_cell _ _ (by simp)).trans (by simp))), (old_cell _ _ (by first | (simp; done) | (simp; omega))).trans ((old_cell _ _ (by first | (simp; done) | (simp; omega))).trans ((old_cell _ _ (by simp)).trans (by simp))), (old_cell _ _ (by first | (simp; done) | (simp; omega))).trans ((old_cell _ _ (by first | (simp; done) | (simp; omega))).trans ((old_cell _ _ (by simp)).trans (by simp))), (old_cell _ _ (by first | (simp; done) | (simp; omega))).trans ((old_cell _ _ (by first | (simp; done) | (simp; omega))).trans ((old_cell _ _ (by simp)).trans (by simp))), (old_cell _ _ (by first | (simp; done) | (simp; omega))).trans ((old_cell _ _ (by first | (simp; done) | (simp; omega))).trans ((old_cell _ _ (by simp)).trans (by simp))), (old_cell _ _ (by first | (simp; done) | (simp; omega))).trans ((old_cell _ _ (by simp)).trans (by simp)), (old_cell _ _ (by first | (simp; done) | (simp; omega))).trans ((old_cell _ _ (by simp)).trans (by simp)), (old_cell _ _ (by first | (simp; done) | (simp; omega))).trans ((old_cell _ _ (by simp)).trans (by simp)), (old_cell _ _ (by first | (simp; done) | (simp; omega))).trans ((old_cell _ _ (by simp)).trans (by simp)), (old_cell _ _ (by first | (simp; done) | (simp; omega))).trans ((old_cell _ _ (by simp)).trans (by simp)), (old_cell _ _ (by simp)).trans (new_cellB _ _ _ 0 (by simp)), (old_cell _ _ (by simp)).trans (new_cellB _ _ _ 1 (by simp)), (old_cell _ _ (by simp)).trans (new_cellB _ _ _ 2 (by simp)), new_cellB _ _ _ 0 (by simp), new_cellB _ _ _ 1 (by simp), new_cellB _ _ _ 2 (by simp), new_cellB _ _ _ 3 (by simp), new_cellB _ _ _ 4 (by simp), new_cellB _ _ _ 5 (by simp), new_cellB _ _ _ 6 (by simp), fun j => new_frozenB _ _ _ j (by simp), by simp, by go_grown⟩
theorem step_add (p a b c d : Int) (oa : Option Addr) (on oc : Nat) (code : Int) (jr ja jb : Nat) (n o k q v : Int) (w : World) (h0 : 0 ≤ p) (h1 : p ≤ 1000000000) (hj : jr < 4) (ha : ja < 4) (hb : jb < 4) (na1 : -1000000000 ≤ zi [a, b, c, d] ja) (na2 : zi [a, b, c, d] ja ≤ 1000000000) (nb1 : -1000000000 ≤ zi [a, b, c, d] jb) (nb2 : zi [a, b, c, d] jb ≤ 1000000000) (mb1 : -1000000000000000000 ≤ zi [a, b, c, d] ja * zi [a, b, c, d] jb) (mb2 : zi [a, b, c, d] ja * zi [a, b, c, d] jb ≤ 1000000000000000000) :
  Calls Tryz.prog 227 #[dV p a b c d oa on oc code, insV o jr ja jb n, evV k q v] w fun e w' => e = .returned (dV (p + 1) (set4 a b c d jr (zi [a, b, c, d] ja + zi [a, b, c, d] jb)).1 (set4 a b c d jr (zi [a, b, c, d] ja + zi [a, b, c, d] jb)).2.1 (set4 a b c d jr (zi [a, b, c, d] ja + zi [a, b, c, d] jb)).2.2.1 (set4 a b c d jr (zi [a, b, c, d] ja + zi [a, b, c, d] jb)).2.2.2 oa on oc code) ∧ Below w.heap.size w w' := by
 go_enter Tryz.func227, Tryz.ntmps227
 go_wp2_with fail
 generalize hW : ((((w.alloc (oQ3 p a b c d oa on oc code)).alloc (oQ2 o jr ja jb n)).alloc (oQ0 k q v)).alloc (zQ1)) = W at *
 obtain ⟨k0, k1, k2, k3, k4, k5, k6, x0, x1, x2, x3, x4, y0, y1, y2, r0, r1, r2, r3, r4, r5, r6, rf, l3, BW'⟩ := diB_w1 hW
 have BW : Hid (Below w.heap.size w W) := BW'
 clear BW'
 clear hW
 have l0 : w.heap.size < W.heap.size := by omega
 have l1 : w.heap.size + 1 < W.heap.size := by omega
 have l2 : w.heap.size + 1 + 1 < W.heap.size := by omega
 have ja' : (ja : Int) < 4 := by omega
 have ca : W.cell? ⟨w.heap.size, 1 + ja, none⟩ = some (.int .i64 (zi [a, b, c, d] ja)) := by
  match ja, ha with
  | 0, _ => exact k1
  | 1, _ => exact k2
  | 2, _ => exact k3
  | 3, _ => exact k4
 have cb : W.cell? ⟨w.heap.size, 1 + jb, none⟩ = some (.int .i64 (zi [a, b, c, d] jb)) := by
  match jb, hb with
  | 0, _ => exact k1
  | 1, _ => exact k2
  | 2, _ => exact k3
  | 3, _ => exact k4
 have jb' : (jb : Int) < 4 := by omega
 have hw : IntKind.i64.wrap (zi [a, b, c, d] ja + zi [a, b, c, d] jb) = zi [a, b, c, d] ja + zi [a, b, c, d] jb := by rw [IntKind.wrap_i64]; omega
 generalize hN3 : w.heap.size + 1 + 1 + 1 = N3 at *
 generalize hN2 : w.heap.size + 1 + 1 = N2 at *
 generalize hN1 : w.heap.size + 1 = N1 at *
 have ne1 : w.heap.size ≠ N3 := by omega
 have ne2 : N1 ≠ N3 := by omega
 have ne3 : N3 ≠ w.heap.size := by omega
 have ne4 : N3 ≠ N1 := by omega
 have HN : Hid (w.heap.size < N3) := by show w.heap.size < N3; omega
 clear hN1 hN2 hN3
 go_region_held3 (fun w' => w'.cell? ⟨w.heap.size, 0, none⟩ = some (.int .i64 p) ∧ w'.cell? ⟨w.heap.size, 1, none⟩ = some (.int .i64 a) ∧ w'.cell? ⟨w.heap.size, 2, none⟩ = some (.int .i64 b) ∧ w'.cell? ⟨w.heap.size, 3, none⟩ = some (.int .i64 c) ∧ w'.cell? ⟨w.heap.size, 4, none⟩ = some (.int .i64 d) ∧ w'.cell? ⟨w.heap.size, 5, none⟩ = some (.slice oa on oc) ∧ w'.cell? ⟨w.heap.size, 6, none⟩ = some (.int .i64 code) ∧ w'.cell? ⟨N1, 1, none⟩ = some (.int .i64 jr) ∧ w'.cell? ⟨N1, 2, none⟩ = some (.int .i64 ja) ∧ w'.cell? ⟨N1, 3, none⟩ = some (.int .i64 jb) ∧ w'.cell? ⟨w.heap.size, 1 + ja, none⟩ = some (.int .i64 (zi [a, b, c, d] ja)) ∧ w'.cell? ⟨w.heap.size, 1 + jb, none⟩ = some (.int .i64 (zi [a, b, c, d] jb))) (go_keep)
  (first | (go_at_call 253; refine (put_any _ _ _ _ _ _ _ _ _ _ _ _ h0 h1 hj).mono ?_; rintro e w1 ⟨rfl, b1'⟩; have b1 : Below W.heap.size W w1 := (Below.refl W.heap.size W).drew.trans b1'; obtain ⟨hc1, hf1⟩ := bcell b1; have B1 : Hid (Below w.heap.size w w1) := BW.out.trans (b1.mono BW.out.size); clear b1 b1'))
 go_wp2
 refine bodyPost_ret (v := dV (p + 1) (set4 a b c d jr (zi [a, b, c, d] ja + zi [a, b, c, d] jb)).1 (set4 a b c d jr (zi [a, b, c, d] ja + zi [a, b, c, d] jb)).2.1 (set4 a b c d jr (zi [a, b, c, d] ja + zi [a, b, c, d] jb)).2.2.1 (set4 a b c d jr (zi [a, b, c, d] ja + zi [a, b, c, d] jb)).2.2.2 oa on oc code) (by simp [results, Tryz.results227, go_sem, hc1, l3, r0, r1, r2, r3, r4, r5, r6]) rfl ⟨rfl, ?_⟩
 have := B1.out
 have := HN.out
 go_grown
theorem step_sub (p a b c d : Int) (oa : Option Addr) (on oc : Nat) (code : Int) (jr ja jb : Nat) (n o k q v : Int) (w : World) (h0 : 0 ≤ p) (h1 : p ≤ 1000000000) (hj : jr < 4) (ha : ja < 4) (hb : jb < 4) (na1 : -1000000000 ≤ zi [a, b, c, d] ja) (na2 : zi [a, b, c, d] ja ≤ 1000000000) (nb1 : -1000000000 ≤ zi [a, b, c, d] jb) (nb2 : zi [a, b, c, d] jb ≤ 1000000000) (mb1 : -1000000000000000000 ≤ zi [a, b, c, d] ja * zi [a, b, c, d] jb) (mb2 : zi [a, b, c, d] ja * zi [a, b, c, d] jb ≤ 1000000000000000000) :
  Calls Tryz.prog 228 #[dV p a b c d oa on oc code, insV o jr ja jb n, evV k q v] w fun e w' => e = .returned (dV (p + 1) (set4 a b c d jr (zi [a, b, c, d] ja - zi [a, b, c, d] jb)).1 (set4 a b c d jr (zi [a, b, c, d] ja - zi [a, b, c, d] jb)).2.1 (set4 a b c d jr (zi [a, b, c, d] ja - zi [a, b, c, d] jb)).2.2.1 (set4 a b c d jr (zi [a, b, c, d] ja - zi [a, b, c, d] jb)).2.2.2 oa on oc code) ∧ Below w.heap.size w w' := by
 go_enter Tryz.func228, Tryz.ntmps228
 go_wp2_with fail
 generalize hW : ((((w.alloc (oQ3 p a b c d oa on oc code)).alloc (oQ2 o jr ja jb n)).alloc (oQ0 k q v)).alloc (zQ1)) = W at *
 obtain ⟨k0, k1, k2, k3, k4, k5, k6, x0, x1, x2, x3, x4, y0, y1, y2, r0, r1, r2, r3, r4, r5, r6, rf, l3, BW'⟩ := diB_w1 hW
 have BW : Hid (Below w.heap.size w W) := BW'
 clear BW'
 clear hW
 have l0 : w.heap.size < W.heap.size := by omega
 have l1 : w.heap.size + 1 < W.heap.size := by omega
 have l2 : w.heap.size + 1 + 1 < W.heap.size := by omega
 have ja' : (ja : Int) < 4 := by omega
 have ca : W.cell? ⟨w.heap.size, 1 + ja, none⟩ = some (.int .i64 (zi [a, b, c, d] ja)) := by
  match ja, ha with
  | 0, _ => exact k1
  | 1, _ => exact k2
  | 2, _ => exact k3
  | 3, _ => exact k4
 have cb : W.cell? ⟨w.heap.size, 1 + jb, none⟩ = some (.int .i64 (zi [a, b, c, d] jb)) := by
  match jb, hb with
  | 0, _ => exact k1
  | 1, _ => exact k2
  | 2, _ => exact k3
  | 3, _ => exact k4
 have jb' : (jb : Int) < 4 := by omega
 have hw : IntKind.i64.wrap (zi [a, b, c, d] ja - zi [a, b, c, d] jb) = zi [a, b, c, d] ja - zi [a, b, c, d] jb := by rw [IntKind.wrap_i64]; omega
 generalize hN3 : w.heap.size + 1 + 1 + 1 = N3 at *
 generalize hN2 : w.heap.size + 1 + 1 = N2 at *
 generalize hN1 : w.heap.size + 1 = N1 at *
 have ne1 : w.heap.size ≠ N3 := by omega
 have ne2 : N1 ≠ N3 := by omega
 have ne3 : N3 ≠ w.heap.size := by omega
 have ne4 : N3 ≠ N1 := by omega
 have HN : Hid (w.heap.size < N3) := by show w.heap.size < N3; omega
 clear hN1 hN2 hN3
 go_region_held3 (fun w' => w'.cell? ⟨w.heap.size, 0, none⟩ = some (.int .i64 p) ∧ w'.cell? ⟨w.heap.size, 1, none⟩ = some (.int .i64 a) ∧ w'.cell? ⟨w.heap.size, 2, none⟩ = some (.int .i64 b) ∧ w'.cell? ⟨w.heap.size, 3, none⟩ = some (.int .i64 c) ∧ w'.cell? ⟨w.heap.size, 4, none⟩ = some (.int .i64 d) ∧ w'.cell? ⟨w.heap.size, 5, none⟩ = some (.slice oa on oc) ∧ w'.cell? ⟨w.heap.size, 6, none⟩ = some (.int .i64 code) ∧ w'.cell? ⟨N1, 1, none⟩ = some (.int .i64 jr) ∧ w'.cell? ⟨N1, 2, none⟩ = some (.int .i64 ja) ∧ w'.cell? ⟨N1, 3, none⟩ = some (.int .i64 jb) ∧ w'.cell? ⟨w.heap.size, 1 + ja, none⟩ = some (.int .i64 (zi [a, b, c, d] ja)) ∧ w'.cell? ⟨w.heap.size, 1 + jb, none⟩ = some (.int .i64 (zi [a, b, c, d] jb))) (go_keep)
  (first | (go_at_call 253; refine (put_any _ _ _ _ _ _ _ _ _ _ _ _ h0 h1 hj).mono ?_; rintro e w1 ⟨rfl, b1'⟩; have b1 : Below W.heap.size W w1 := (Below.refl W.heap.size W).drew.trans b1'; obtain ⟨hc1, hf1⟩ := bcell b1; have B1 : Hid (Below w.heap.size w w1) := BW.out.trans (b1.mono BW.out.size); clear b1 b1'))
 go_wp2
 refine bodyPost_ret (v := dV (p + 1) (set4 a b c d jr (zi [a, b, c, d] ja - zi [a, b, c, d] jb)).1 (set4 a b c d jr (zi [a, b, c, d] ja - zi [a, b, c, d] jb)).2.1 (set4 a b c d jr (zi [a, b, c, d] ja - zi [a, b, c, d] jb)).2.2.1 (set4 a b c d jr (zi [a, b, c, d] ja - zi [a, b, c, d] jb)).2.2.2 oa on oc code) (by simp [results, Tryz.results228, go_sem, hc1, l3, r0, r1, r2, r3, r4, r5, r6]) rfl ⟨rfl, ?_⟩
 have := B1.out
 have := HN.out
 go_grown
theorem step_mul (p a b c d : Int) (oa : Option Addr) (on oc : Nat) (code : Int) (jr ja jb : Nat) (n o k q v : Int) (w : World) (h0 : 0 ≤ p) (h1 : p ≤ 1000000000) (hj : jr < 4) (ha : ja < 4) (hb : jb < 4) (na1 : -1000000000 ≤ zi [a, b, c, d] ja) (na2 : zi [a, b, c, d] ja ≤ 1000000000) (nb1 : -1000000000 ≤ zi [a, b, c, d] jb) (nb2 : zi [a, b, c, d] jb ≤ 1000000000) (mb1 : -1000000000000000000 ≤ zi [a, b, c, d] ja * zi [a, b, c, d] jb) (mb2 : zi [a, b, c, d] ja * zi [a, b, c, d] jb ≤ 1000000000000000000) :
  Calls Tryz.prog 229 #[dV p a b c d oa on oc code, insV o jr ja jb n, evV k q v] w fun e w' => e = .returned (dV (p + 1) (set4 a b c d jr (zi [a, b, c, d] ja * zi [a, b, c, d] jb)).1 (set4 a b c d jr (zi [a, b, c, d] ja * zi [a, b, c, d] jb)).2.1 (set4 a b c d jr (zi [a, b, c, d] ja * zi [a, b, c, d] jb)).2.2.1 (set4 a b c d jr (zi [a, b, c, d] ja * zi [a, b, c, d] jb)).2.2.2 oa on oc code) ∧ Below w.heap.size w w' := by
 go_enter Tryz.func229, Tryz.ntmps229
 go_wp2_with fail
 generalize hW : ((((w.alloc (oQ3 p a b c d oa on oc code)).alloc (oQ2 o jr ja jb n)).alloc (oQ0 k q v)).alloc (zQ1)) = W at *
 obtain ⟨k0, k1, k2, k3, k4, k5, k6, x0, x1, x2, x3, x4, y0, y1, y2, r0, r1, r2, r3, r4, r5, r6, rf, l3, BW'⟩ := diB_w1 hW
 have BW : Hid (Below w.heap.size w W) := BW'
 clear BW'
 clear hW
 have l0 : w.heap.size < W.heap.size := by omega
 have l1 : w.heap.size + 1 < W.heap.size := by omega
 have l2 : w.heap.size + 1 + 1 < W.heap.size := by omega
 have ja' : (ja : Int) < 4 := by omega
 have ca : W.cell? ⟨w.heap.size, 1 + ja, none⟩ = some (.int .i64 (zi [a, b, c, d] ja)) := by
  match ja, ha with
  | 0, _ => exact k1
  | 1, _ => exact k2
  | 2, _ => exact k3
  | 3, _ => exact k4
 have cb : W.cell? ⟨w.heap.size, 1 + jb, none⟩ = some (.int .i64 (zi [a, b, c, d] jb)) := by
  match jb, hb with
  | 0, _ => exact k1
  | 1, _ => exact k2
  | 2, _ => exact k3
  | 3, _ => exact k4
 have jb' : (jb : Int) < 4 := by omega
 have hw : IntKind.i64.wrap (zi [a, b, c, d] ja * zi [a, b, c, d] jb) = zi [a, b, c, d] ja * zi [a, b, c, d] jb := by rw [IntKind.wrap_i64]; omega
 generalize hN3 : w.heap.size + 1 + 1 + 1 = N3 at *
 generalize hN2 : w.heap.size + 1 + 1 = N2 at *
 generalize hN1 : w.heap.size + 1 = N1 at *
 have ne1 : w.heap.size ≠ N3 := by omega
 have ne2 : N1 ≠ N3 := by omega
 have ne3 : N3 ≠ w.heap.size := by omega
 have ne4 : N3 ≠ N1 := by omega
 have HN : Hid (w.heap.size < N3) := by show w.heap.size < N3; omega
 clear hN1 hN2 hN3
 go_region_held3 (fun w' => w'.cell? ⟨w.heap.size, 0, none⟩ = some (.int .i64 p) ∧ w'.cell? ⟨w.heap.size, 1, none⟩ = some (.int .i64 a) ∧ w'.cell? ⟨w.heap.size, 2, none⟩ = some (.int .i64 b) ∧ w'.cell? ⟨w.heap.size, 3, none⟩ = some (.int .i64 c) ∧ w'.cell? ⟨w.heap.size, 4, none⟩ = some (.int .i64 d) ∧ w'.cell? ⟨w.heap.size, 5, none⟩ = some (.slice oa on oc) ∧ w'.cell? ⟨w.heap.size, 6, none⟩ = some (.int .i64 code) ∧ w'.cell? ⟨N1, 1, none⟩ = some (.int .i64 jr) ∧ w'.cell? ⟨N1, 2, none⟩ = some (.int .i64 ja) ∧ w'.cell? ⟨N1, 3, none⟩ = some (.int .i64 jb) ∧ w'.cell? ⟨w.heap.size, 1 + ja, none⟩ = some (.int .i64 (zi [a, b, c, d] ja)) ∧ w'.cell? ⟨w.heap.size, 1 + jb, none⟩ = some (.int .i64 (zi [a, b, c, d] jb))) (go_keep)
  (first | (go_at_call 253; refine (put_any _ _ _ _ _ _ _ _ _ _ _ _ h0 h1 hj).mono ?_; rintro e w1 ⟨rfl, b1'⟩; have b1 : Below W.heap.size W w1 := (Below.refl W.heap.size W).drew.trans b1'; obtain ⟨hc1, hf1⟩ := bcell b1; have B1 : Hid (Below w.heap.size w w1) := BW.out.trans (b1.mono BW.out.size); clear b1 b1'))
 go_wp2
 refine bodyPost_ret (v := dV (p + 1) (set4 a b c d jr (zi [a, b, c, d] ja * zi [a, b, c, d] jb)).1 (set4 a b c d jr (zi [a, b, c, d] ja * zi [a, b, c, d] jb)).2.1 (set4 a b c d jr (zi [a, b, c, d] ja * zi [a, b, c, d] jb)).2.2.1 (set4 a b c d jr (zi [a, b, c, d] ja * zi [a, b, c, d] jb)).2.2.2 oa on oc code) (by simp [results, Tryz.results229, go_sem, hc1, l3, r0, r1, r2, r3, r4, r5, r6]) rfl ⟨rfl, ?_⟩
 have := B1.out
 have := HN.out
 go_grown
theorem nextslicecap_ok (n cap : Nat) (h : n ≤ 2000000) (hc : cap < n) : Builtin.nextslicecap n cap * 8 ≤ 281474976710656 := growslice_fits hc (by omega)
theorem run_append_keep (w : World) (ty : TypeId) (B c : Nat) (v : Value) (ad : Addr) (xs : List Int) (y : Int) (h : OwnI w B v xs) (hy : w.cell? ad = some (.int .i64 y)) (hn : xs.length ≤ 1048576) (hB : B ≤ w.heap.size) :
  ∃ v' w', (Builtin.append_ #[35, 35] ty #[v, .slice (some ad) 1 c]).run Tryz.prog w = .ok v' w' ∧ OwnI w' B v' (xs ++ [y]) ∧ OwnI w' B v xs ∧ w.grownBy w' v.ownBlock ∧ (v'.ownBlock = v.ownBlock ∨ v'.ownBlock = some w.heap.size) := by
 obtain ⟨i, hi, hz, hs, hb⟩ := info_int
 have hnews : ∀ j u, ([y].map (Value.int .i64))[j]? = some u → w.cell? (ad.add j) = some u := by
  intro j u hj
  match j, hj with
  | 0, hj =>
   simp at hj
   subst hj
   simpa [Addr.add] using hy
 obtain ⟨v', w', h1, h2, h3, _, h5⟩ := run_append_own_at (P := Tryz.prog) w B 35 ty 3 i (.int .i64 0) 1 8 Tryz.underlying35 hi hz hs hb rfl (by decide) v xs.length (xs.map (Value.int .i64)) h ad 1 c ([y].map (Value.int .i64)) (by simp) hnews (one_ints [y]) (by unfold maxLen; omega) (by omega) hB
 refine ⟨v', w', h1, ?_, ?_, h3, h5⟩
 ·unfold OwnI
  rw [List.length_append, List.map_append]
  exact h2
 ·rcases h.2 with ⟨rfl, h0⟩ | ⟨g, cap, cur, rfl, hbg, hg, hnc, hcm, hcs, htake⟩
  ·exact ⟨h.1, .inl ⟨rfl, h0⟩⟩
  ·by_cases hroom : xs.length + 1 ≤ cap
   ·have hr := run_append_room (P := Tryz.prog) w 35 ty 3 i Tryz.underlying35 hi g xs.length cap cur hg ad 1 c ([y].map (Value.int .i64)) (by rw [hs]; rfl) hnews (one_ints [y]) hroom (by rw [hs]; simp; omega)
    rw [hr] at h1
    simp only [Result.ok.injEq] at h1
    obtain ⟨-, rfl⟩ := h1
    refine ⟨h.1, .inr ⟨g, cap, _, rfl, hbg, setRow_heap w g cur _ 3 _ hg, hnc, hcm, ?_, ?_⟩⟩
    ·rw [hs]
     simp only [List.size_toArray, List.length_append, List.length_take, List.length_drop, Array.length_toList, List.length_map, List.length_cons, List.length_nil]
     omega
    ·rw [hs]
     simp only [Nat.mul_one] at htake ⊢
     rw [htake]
     simp only [List.append_assoc]
     rw [List.take_append_of_le_length (by simp), List.take_of_length_le (by simp)]
   ·have holds : ∀ j u, (xs.map (Value.int .i64))[j]? = some u → w.cell? ((⟨g, 0, none⟩ : Addr).add j) = some u := World.ownsRow.cells h (g := g) rfl
    have hr := run_append_grow (P := Tryz.prog) w 35 ty 3 i (.int .i64 0) Tryz.underlying35 hi hz ⟨g, 0, none⟩ xs.length cap (xs.map (Value.int .i64)) (by rw [hs]; simp) holds ad 1 c ([y].map (Value.int .i64)) (by rw [hs]; rfl) hnews (by omega) (by omega) (by rw [hb]; exact nextslicecap_ok _ _ (by omega) (by omega))
    rw [hr] at h1
    simp only [Result.ok.injEq] at h1
    obtain ⟨-, rfl⟩ := h1
    exact h.below ((Below.refl w.heap.size w).drew.alloc (by simp) _)
theorem wpList_append_keep {ops : Array Oper} {rest : List Oper} {op : Oper} {act : Act} {Q : Exit → Act → World → Prop} (w : World) (hgd : op.guard = none) (s x : Operand)
  (ho : op.op = .call { callee := .builtin .append, args := #[s, x], argTypes := #[35, 35] })
  (B c : Nat) (v : Value) (ad : Addr) (xs : List Int) (y : Int) (hs : act.eval s = v) (hx : act.eval x = .slice (some ad) 1 c) (hv : OwnI w B v xs) (hy : w.cell? ad = some (.int .i64 y)) (hn : xs.length ≤ 1048576) (hB : B ≤ w.heap.size)
  (h : ∀ v' w', OwnI w' B v' (xs ++ [y]) → OwnI w' B v xs → w.grownBy w' v.ownBlock → (v'.ownBlock = v.ownBlock ∨ v'.ownBlock = some w.heap.size) → wpList Tryz.prog ops Q rest (act.put op.dst v') w') :
  wpList Tryz.prog ops Q (op :: rest) act w := by
 obtain ⟨v', w', h1, h2, h3, h4, h5⟩ := run_append_keep w op.type B c v ad xs y hv hy hn hB
 refine wpList_plain hgd fun K hK => ?_
 unfold Oper.wp execOp
 simp only [ho, resolve, invoke, builtin, Sem.run_bind, Sem.run_pure, Result.andThen_ok, List.map_toArray, List.map_cons, List.map_nil, hs, hx, h1]
 exact hK _ _ (h v' w' h2 h3 h4 h5)
theorem step_zero_yes (p a b c d : Int) (oa : Option Addr) (on oc : Nat) (code : Int) (jr ja jb : Nat) (n o k q v : Int) (w : World) (_h0 : 0 ≤ p) (_h1 : p ≤ 1000000000) (ha : ja < 4) (hz : (zi [a, b, c, d] ja == 0) = true) :
  Calls Tryz.prog 235 #[dV p a b c d oa on oc code, insV o jr ja jb n, evV k q v] w fun e w' => e = .returned (dV n a b c d oa on oc code) ∧ Below w.heap.size w w' := by
 have ca : ((((w.alloc (oQ3 p a b c d oa on oc code)).alloc (oQ2 o jr ja jb n)).alloc (oQ0 k q v)).alloc (zQ1)).cell? ⟨w.heap.size, 1 + ja, none⟩ = some (.int .i64 (zi [a, b, c, d] ja)) := by
  refine (old_cell _ _ (by first | (simp; done) | (simp; omega))).trans ((old_cell _ _ (by first | (simp; done) | (simp; omega))).trans ((old_cell _ _ (by simp)).trans ?_))
  match ja, ha with
  | 0, _ => simp [zi]
  | 1, _ => simp [zi]
  | 2, _ => simp [zi]
  | 3, _ => simp [zi]
 have ja' : (ja : Int) < 4 := by omega
 go_enter Tryz.func235, Tryz.ntmps235
 go_wp2_with fail
 refine (step_jump _ _ _ _ _ _ _ _ _ _ _ _ _ _ _ _ _ _ _h0 _h1).mono ?_
 rintro e w1 ⟨rfl, b1⟩
 have B1 : Hid (Below w.heap.size w w1) := below_up (by go_grown) b1 (by simp; omega)
 obtain ⟨hc1, hf1⟩ := bcell b1
 clear b1
 go_wp2
 refine bodyPost_ret (v := dV n a b c d oa on oc code) (by simp [results, Tryz.results235, go_sem, hc1]) rfl ⟨rfl, ?_⟩
 have := B1.out
 go_grown
theorem step_zero_no (p a b c d : Int) (oa : Option Addr) (on oc : Nat) (code : Int) (jr ja jb : Nat) (n o k q v : Int) (w : World) (h0 : 0 ≤ p) (h1 : p ≤ 1000000000) (ha : ja < 4) (hz : (zi [a, b, c, d] ja == 0) = false) :
  Calls Tryz.prog 235 #[dV p a b c d oa on oc code, insV o jr ja jb n, evV k q v] w fun e w' => e = .returned (dV (p + 1) a b c d oa on oc code) ∧ Below w.heap.size w w' := by
 have ca : ((((w.alloc (oQ3 p a b c d oa on oc code)).alloc (oQ2 o jr ja jb n)).alloc (oQ0 k q v)).alloc (zQ1)).cell? ⟨w.heap.size, 1 + ja, none⟩ = some (.int .i64 (zi [a, b, c, d] ja)) := by
  refine (old_cell _ _ (by first | (simp; done) | (simp; omega))).trans ((old_cell _ _ (by first | (simp; done) | (simp; omega))).trans ((old_cell _ _ (by simp)).trans ?_))
  match ja, ha with
  | 0, _ => simp [zi]
  | 1, _ => simp [zi]
  | 2, _ => simp [zi]
  | 3, _ => simp [zi]
 have ja' : (ja : Int) < 4 := by omega
 go_enter Tryz.func235, Tryz.ntmps235
 go_wp2_with fail
 refine (onward_any _ _ _ _ _ _ _ _ _ _ h0 h1).mono ?_
 rintro e w1 ⟨rfl, b1⟩
 have B1 : Hid (Below w.heap.size w w1) := below_up (by go_grown) b1 (by simp; omega)
 obtain ⟨hc1, hf1⟩ := bcell b1
 clear b1
 go_wp2
 refine bodyPost_ret (v := dV (p + 1) a b c d oa on oc code) (by simp [results, Tryz.results235, go_sem, hc1]) rfl ⟨rfl, ?_⟩
 have := B1.out
 go_grown
theorem diC_w1 {w W : World} {v0 : Int} {v1 : Int} {v2 : Int} {v3 : Int} {v4 : Int} {v5 : Option Addr} {v6 : Nat} {v7 : Nat} {v8 : Int} {v9 : Int} {v10 : Int} {v11 : Int} {v12 : Int} {v13 : Int} {v14 : Int} {v15 : Int} {v16 : Int} (hW : ((((w.alloc (oQ3 v0 v1 v2 v3 v4 v5 v6 v7 v8)).alloc (oQ2 v9 v10 v11 v12 v13)).alloc (oQ0 v14 v15 v16)).alloc (zQ1)) = W) : W.cell? ⟨w.heap.size, 0, none⟩ = some (.int .i64 v0) ∧ W.cell? ⟨w.heap.size, 1, none⟩ = some (.int .i64 v1) ∧ W.cell? ⟨w.heap.size, 2, none⟩ = some (.int .i64 v2) ∧ W.cell? ⟨w.heap.size, 3, none⟩ = some (.int .i64 v3) ∧ W.cell? ⟨w.heap.size, 4, none⟩ = some (.int .i64 v4) ∧ W.cell? ⟨w.heap.size, 5, none⟩ = some (.slice v5 v6 v7) ∧ W.cell? ⟨w.heap.size, 6, none⟩ = some (.int .i64 v8) ∧ W.cell? ⟨w.heap.size + 1, 0, none⟩ = some (.int .i64 v9) ∧ W.cell? ⟨w.heap.size + 1, 1, none⟩ = some (.int .i64 v10) ∧ W.cell? ⟨w.heap.size + 1, 2, none⟩ = some (.int .i64 v11) ∧ W.cell? ⟨w.heap.size + 1, 3, none⟩ = some (.int .i64 v12) ∧ W.cell? ⟨w.heap.size + 1, 4, none⟩ = some (.int .i64 v13) ∧ W.cell? ⟨w.heap.size + 1 + 1, 0, none⟩ = some (.int .i64 v14) ∧ W.cell? ⟨w.heap.size + 1 + 1, 1, none⟩ = some (.int .i64 v15) ∧ W.cell? ⟨w.heap.size + 1 + 1, 2, none⟩ = some (.int .i64 v16) ∧ W.cell? ⟨w.heap.size + 1 + 1 + 1, 0, none⟩ = some (.int .i64 0) ∧ W.cell? ⟨w.heap.size + 1 + 1 + 1, 1, none⟩ = some (.int .i64 0) ∧ W.cell? ⟨w.heap.size + 1 + 1 + 1, 2, none⟩ = some (.int .i64 0) ∧ W.cell? ⟨w.heap.size + 1 + 1 + 1, 3, none⟩ = some (.int .i64 0) ∧ W.cell? ⟨w.heap.size + 1 + 1 + 1, 4, none⟩ = some (.int .i64 0) ∧ W.cell? ⟨w.heap.size + 1 + 1 + 1, 5, none⟩ = some (.slice none 0 0) ∧ W.cell? ⟨w.heap.size + 1 + 1 + 1, 6, none⟩ = some (.int .i64 0) ∧ (∀ j, W.frozen? ⟨w.heap.size + 1 + 1 + 1, j, none⟩ = false) ∧ w.heap.size + 1 + 1 + 1 < W.heap.size ∧ Below w.heap.size w W := by
 subst hW
 exact ⟨(old_cell _ _ (by first | (simp; done) | (simp; omega))).trans ((old_cell _ _ (by first | (simp; done) | (simp; omega))).trans ((old_cell _ _ (by simp)).trans (by simp))), (old_cell _ _ (by first | (simp; done) | (simp; omega))).trans ((old_cell _ _ (by first | (simp; done) | (simp; omega))).trans ((old_cell _ _ (by simp)).trans (by simp))), (old_cell _ _ (by first | (simp; done) | (simp; omega))).trans ((old_cell _ _ (by first | (simp; done) | (simp; omega))).trans ((old_cell _ _ (by simp)).trans (by simp))), (old_cell _ _ (by first | (simp; done) | (simp; omega))).trans ((old_cell _ _ (by first | (simp; done) | (simp; omega))).trans ((old_cell _ _ (by simp)).trans (by simp))), (old_cell _ _ (by first | (simp; done) | (simp; omega))).trans ((old_cell _ _ (by first | (simp; done) | (simp; omega))).trans ((old_cell _ _ (by simp)).trans (by simp))), (old_cell _ _ (by first | (simp; done) | (simp; omega))).trans ((old_cell _ _ (by first | (simp; done) | (simp; omega))).trans ((old_cell _ _ (by simp)).trans (by simp))), (old_cell _ _ (by first | (simp; done) | (simp; omega))).trans ((old_cell _ _ (by first | (simp; done) | (simp; omega))).trans ((old_cell _ _ (by simp)).trans (by simp))), (old_cell _ _ (by first | (simp; done) | (simp; omega))).trans ((old_cell _ _ (by simp)).trans (by simp)), (old_cell _ _ (by first | (simp; done) | (simp; omega))).trans ((old_cell _ _ (by simp)).trans (by simp)), (old_cell _ _ (by first | (simp; done) | (simp; omega))).trans ((old_cell _ _ (by simp)).trans (by simp)), (old_cell _ _ (by first | (simp; done) | (simp; omega))).trans ((old_cell _ _ (by simp)).trans (by simp)), (old_cell _ _ (by first | (simp; done) | (simp; omega))).trans ((old_cell _ _ (by simp)).trans (by simp)), (old_cell _ _ (by simp)).trans (new_cellB _ _ _ 0 (by simp)), (old_cell _ _ (by simp)).trans (new_cellB _ _ _ 1 (by simp)), (old_cell _ _ (by simp)).trans (new_cellB _ _ _ 2 (by simp)), new_cellB _ _ _ 0 (by simp), new_cellB _ _ _ 1 (by simp), new_cellB _ _ _ 2 (by simp), new_cellB _ _ _ 3 (by simp), new_cellB _ _ _ 4 (by simp), new_cellB _ _ _ 5 (by simp), new_cellB _ _ _ 6 (by simp), fun j => new_frozenB _ _ _ j (by simp), by simp, by go_grown⟩
theorem step_less_yes (p a b c d : Int) (oa : Option Addr) (on oc : Nat) (code : Int) (jr ja jb : Nat) (n o k q v : Int) (w : World) (h0 : 0 ≤ p) (h1 : p ≤ 1000000000) (hj : jr < 4) (ha : ja < 4) (hb : jb < 4) (hlt : zi [a, b, c, d] ja < zi [a, b, c, d] jb) :
  Calls Tryz.prog 230 #[dV p a b c d oa on oc code, insV o jr ja jb n, evV k q v] w fun e w' => e = .returned (dV (p + 1) (set4 a b c d jr (1)).1 (set4 a b c d jr (1)).2.1 (set4 a b c d jr (1)).2.2.1 (set4 a b c d jr (1)).2.2.2 oa on oc code) ∧ Below w.heap.size w w' := by
 go_enter Tryz.func230, Tryz.ntmps230
 go_wp2_with fail
 generalize hW : ((((w.alloc (oQ3 p a b c d oa on oc code)).alloc (oQ2 o jr ja jb n)).alloc (oQ0 k q v)).alloc (zQ1)) = W at *
 obtain ⟨k0, k1, k2, k3, k4, k5, k6, x0, x1, x2, x3, x4, y0, y1, y2, r0, r1, r2, r3, r4, r5, r6, rf, l3, BW'⟩ := diC_w1 hW
 have BW : Hid (Below w.heap.size w W) := BW'
 clear BW'
 clear hW
 have l0 : w.heap.size < W.heap.size := by omega
 have l1 : w.heap.size + 1 < W.heap.size := by omega
 have l2 : w.heap.size + 1 + 1 < W.heap.size := by omega
 have ja' : (ja : Int) < 4 := by omega
 have ca : W.cell? ⟨w.heap.size, 1 + ja, none⟩ = some (.int .i64 (zi [a, b, c, d] ja)) := by
  match ja, ha with
  | 0, _ => exact k1
  | 1, _ => exact k2
  | 2, _ => exact k3
  | 3, _ => exact k4
 have cb : W.cell? ⟨w.heap.size, 1 + jb, none⟩ = some (.int .i64 (zi [a, b, c, d] jb)) := by
  match jb, hb with
  | 0, _ => exact k1
  | 1, _ => exact k2
  | 2, _ => exact k3
  | 3, _ => exact k4
 have jb' : (jb : Int) < 4 := by omega
 go_quiet (fail)
 go_wp2_with fail
 refine (put_any _ _ _ _ _ _ _ _ _ _ _ _ h0 h1 hj).mono ?_
 rintro e w1 ⟨rfl, b1'⟩
 have b1 : Below W.heap.size W w1 := (below_drewN (Below.refl W.heap.size W) nq).trans b1'
 obtain ⟨hc1, hf1⟩ := bcell b1
 have B1 : Hid (Below w.heap.size w w1) := BW.out.trans (b1.mono BW.out.size)
 clear b1 b1'
 go_wp2
 refine bodyPost_ret (v := dV (p + 1) (set4 a b c d jr (1)).1 (set4 a b c d jr (1)).2.1 (set4 a b c d jr (1)).2.2.1 (set4 a b c d jr (1)).2.2.2 oa on oc code) (by simp [results, Tryz.results230, go_sem, hc1, l3, r0, r1, r2, r3, r4, r5, r6]) rfl ⟨rfl, ?_⟩
 have := B1.out
 go_grown
theorem step_less_no (p a b c d : Int) (oa : Option Addr) (on oc : Nat) (code : Int) (jr ja jb : Nat) (n o k q v : Int) (w : World) (h0 : 0 ≤ p) (h1 : p ≤ 1000000000) (hj : jr < 4) (ha : ja < 4) (hb : jb < 4) (hlt : ¬ zi [a, b, c, d] ja < zi [a, b, c, d] jb) :
  Calls Tryz.prog 230 #[dV p a b c d oa on oc code, insV o jr ja jb n, evV k q v] w fun e w' => e = .returned (dV (p + 1) (set4 a b c d jr (0)).1 (set4 a b c d jr (0)).2.1 (set4 a b c d jr (0)).2.2.1 (set4 a b c d jr (0)).2.2.2 oa on oc code) ∧ Below w.heap.size w w' := by
 go_enter Tryz.func230, Tryz.ntmps230
 go_wp2_with fail
 generalize hW : ((((w.alloc (oQ3 p a b c d oa on oc code)).alloc (oQ2 o jr ja jb n)).alloc (oQ0 k q v)).alloc (zQ1)) = W at *
 obtain ⟨k0, k1, k2, k3, k4, k5, k6, x0, x1, x2, x3, x4, y0, y1, y2, r0, r1, r2, r3, r4, r5, r6, rf, l3, BW'⟩ := diC_w1 hW
 have BW : Hid (Below w.heap.size w W) := BW'
 clear BW'
 clear hW
 have l0 : w.heap.size < W.heap.size := by omega
 have l1 : w.heap.size + 1 < W.heap.size := by omega
 have l2 : w.heap.size + 1 + 1 < W.heap.size := by omega
 have ja' : (ja : Int) < 4 := by omega
 have ca : W.cell? ⟨w.heap.size, 1 + ja, none⟩ = some (.int .i64 (zi [a, b, c, d] ja)) := by
  match ja, ha with
  | 0, _ => exact k1
  | 1, _ => exact k2
  | 2, _ => exact k3
  | 3, _ => exact k4
 have cb : W.cell? ⟨w.heap.size, 1 + jb, none⟩ = some (.int .i64 (zi [a, b, c, d] jb)) := by
  match jb, hb with
  | 0, _ => exact k1
  | 1, _ => exact k2
  | 2, _ => exact k3
  | 3, _ => exact k4
 have jb' : (jb : Int) < 4 := by omega
 go_quiet (fail)
 go_wp2_with fail
 refine (put_any _ _ _ _ _ _ _ _ _ _ _ _ h0 h1 hj).mono ?_
 rintro e w1 ⟨rfl, b1'⟩
 have b1 : Below W.heap.size W w1 := (below_drewN (Below.refl W.heap.size W) nq).trans b1'
 obtain ⟨hc1, hf1⟩ := bcell b1
 have B1 : Hid (Below w.heap.size w w1) := BW.out.trans (b1.mono BW.out.size)
 clear b1 b1'
 go_wp2
 refine bodyPost_ret (v := dV (p + 1) (set4 a b c d jr (0)).1 (set4 a b c d jr (0)).2.1 (set4 a b c d jr (0)).2.2.1 (set4 a b c d jr (0)).2.2.2 oa on oc code) (by simp [results, Tryz.results230, go_sem, hc1, l3, r0, r1, r2, r3, r4, r5, r6]) rfl ⟨rfl, ?_⟩
 have := B1.out
 go_grown
theorem diC_w2 {w W : World} {v0 : Int} {v1 : Int} {v2 : Int} {v3 : Int} {v4 : Int} {v5 : Option Addr} {v6 : Nat} {v7 : Nat} {v8 : Int} {v9 : Int} {v10 : Int} {v11 : Int} {v12 : Int} {v13 : Int} {v14 : Int} {v15 : Int} {v16 : Int} (hW : ((((w.alloc (oQ3 v0 v1 v2 v3 v4 v5 v6 v7 v8)).alloc (oQ2 v9 v10 v11 v12 v13)).alloc (oQ0 v14 v15 v16)).alloc (zQ1)) = W) : W.cell? ⟨w.heap.size, 0, none⟩ = some (.int .i64 v0) ∧ W.cell? ⟨w.heap.size, 1, none⟩ = some (.int .i64 v1) ∧ W.cell? ⟨w.heap.size, 2, none⟩ = some (.int .i64 v2) ∧ W.cell? ⟨w.heap.size, 3, none⟩ = some (.int .i64 v3) ∧ W.cell? ⟨w.heap.size, 4, none⟩ = some (.int .i64 v4) ∧ W.cell? ⟨w.heap.size, 5, none⟩ = some (.slice v5 v6 v7) ∧ W.cell? ⟨w.heap.size, 6, none⟩ = some (.int .i64 v8) ∧ W.cell? ⟨w.heap.size + 1, 0, none⟩ = some (.int .i64 v9) ∧ W.cell? ⟨w.heap.size + 1, 1, none⟩ = some (.int .i64 v10) ∧ W.cell? ⟨w.heap.size + 1, 2, none⟩ = some (.int .i64 v11) ∧ W.cell? ⟨w.heap.size + 1, 3, none⟩ = some (.int .i64 v12) ∧ W.cell? ⟨w.heap.size + 1, 4, none⟩ = some (.int .i64 v13) ∧ W.cell? ⟨w.heap.size + 1 + 1, 0, none⟩ = some (.int .i64 v14) ∧ W.cell? ⟨w.heap.size + 1 + 1, 1, none⟩ = some (.int .i64 v15) ∧ W.cell? ⟨w.heap.size + 1 + 1, 2, none⟩ = some (.int .i64 v16) ∧ W.cell? ⟨w.heap.size + 1 + 1 + 1, 0, none⟩ = some (.int .i64 0) ∧ W.cell? ⟨w.heap.size + 1 + 1 + 1, 1, none⟩ = some (.int .i64 0) ∧ W.cell? ⟨w.heap.size + 1 + 1 + 1, 2, none⟩ = some (.int .i64 0) ∧ W.cell? ⟨w.heap.size + 1 + 1 + 1, 3, none⟩ = some (.int .i64 0) ∧ W.cell? ⟨w.heap.size + 1 + 1 + 1, 4, none⟩ = some (.int .i64 0) ∧ W.cell? ⟨w.heap.size + 1 + 1 + 1, 5, none⟩ = some (.slice none 0 0) ∧ W.cell? ⟨w.heap.size + 1 + 1 + 1, 6, none⟩ = some (.int .i64 0) ∧ (∀ j, W.frozen? ⟨w.heap.size + 1 + 1 + 1, j, none⟩ = false) ∧ w.heap.size + 1 + 1 + 1 < W.heap.size ∧ Below w.heap.size w W ∧ (∀ j, W.frozen? ⟨w.heap.size, j, none⟩ = false) := by
 subst hW
 exact ⟨(old_cell _ _ (by first | (simp; done) | (simp; omega))).trans ((old_cell _ _ (by first | (simp; done) | (simp; omega))).trans ((old_cell _ _ (by simp)).trans (by simp))), (old_cell _ _ (by first | (simp; done) | (simp; omega))).trans ((old_cell _ _ (by first | (simp; done) | (simp; omega))).trans ((old_cell _ _ (by simp)).trans (by simp))), (old_cell _ _ (by first | (simp; done) | (simp; omega))).trans ((old_cell _ _ (by first | (simp; done) | (simp; omega))).trans ((old_cell _ _ (by simp)).trans (by simp))), (old_cell _ _ (by first | (simp; done) | (simp; omega))).trans ((old_cell _ _ (by first | (simp; done) | (simp; omega))).trans ((old_cell _ _ (by simp)).trans (by simp))), (old_cell _ _ (by first | (simp; done) | (simp; omega))).trans ((old_cell _ _ (by first | (simp; done) | (simp; omega))).trans ((old_cell _ _ (by simp)).trans (by simp))), (old_cell _ _ (by first | (simp; done) | (simp; omega))).trans ((old_cell _ _ (by first | (simp; done) | (simp; omega))).trans ((old_cell _ _ (by simp)).trans (by simp))), (old_cell _ _ (by first | (simp; done) | (simp; omega))).trans ((old_cell _ _ (by first | (simp; done) | (simp; omega))).trans ((old_cell _ _ (by simp)).trans (by simp))), (old_cell _ _ (by first | (simp; done) | (simp; omega))).trans ((old_cell _ _ (by simp)).trans (by simp)), (old_cell _ _ (by first | (simp; done) | (simp; omega))).trans ((old_cell _ _ (by simp)).trans (by simp)), (old_cell _ _ (by first | (simp; done) | (simp; omega))).trans ((old_cell _ _ (by simp)).trans (by simp)), (old_cell _ _ (by first | (simp; done) | (simp; omega))).trans ((old_cell _ _ (by simp)).trans (by simp)), (old_cell _ _ (by first | (simp; done) | (simp; omega))).trans ((old_cell _ _ (by simp)).trans (by simp)), (old_cell _ _ (by simp)).trans (new_cellB _ _ _ 0 (by simp)), (old_cell _ _ (by simp)).trans (new_cellB _ _ _ 1 (by simp)), (old_cell _ _ (by simp)).trans (new_cellB _ _ _ 2 (by simp)), new_cellB _ _ _ 0 (by simp), new_cellB _ _ _ 1 (by simp), new_cellB _ _ _ 2 (by simp), new_cellB _ _ _ 3 (by simp), new_cellB _ _ _ 4 (by simp), new_cellB _ _ _ 5 (by simp), new_cellB _ _ _ 6 (by simp), fun j => new_frozenB _ _ _ j (by simp), by simp, by go_grown, fun j => ((bcell (below_alloc _ _)).2 _ _ (by first | (simp; done) | (simp; omega))).trans (((bcell (below_alloc _ _)).2 _ _ (by first | (simp; done) | (simp; omega))).trans (((bcell (below_alloc _ _)).2 _ _ (by simp)).trans (new_frozenB _ _ _ j rfl)))⟩
theorem step_print (p a b c d : Int) (oa : Option Addr) (oc : Nat) (os : List Int) (code : Int) (jr ja jb : Nat) (n o k q v : Int) (B : Nat) (w : World) (h0 : 0 ≤ p) (h1 : p ≤ 1000000000) (hn : os.length ≤ 1048576) (hB : B ≤ w.heap.size) (hO : OwnI w B (.slice oa os.length oc) os) :
  Calls Tryz.prog 233 #[dV p a b c d oa os.length oc code, insV o jr ja jb n, evV k q v] w fun e w' => ∃ oa' oc', e = .returned (dV (p + 1) a b c d oa' (os.length + 1) oc' code) ∧ OwnI w' B (.slice oa' (os.length + 1) oc') (os ++ [v]) ∧ OwnI w' B (.slice oa os.length oc) os ∧ w.grownBy w' (Value.slice oa os.length oc).ownBlock ∧ ∀ j, (Value.slice oa' (os.length + 1) oc').ownBlock = some j → (Value.slice oa os.length oc).ownBlock = some j ∨ w.heap.size ≤ j := by
 have HO : Hid (OwnI w B (.slice oa os.length oc) os) := hO
 have LO : Hid (∀ j, (Value.slice oa os.length oc).ownBlock = some j → j < w.heap.size) := fun j hj => (hO.lt j hj).2
 clear hO
 go_enter Tryz.func233, Tryz.ntmps233
 go_wp2_with (at_builtin; refine append_stop rfl ?_)
 unfold STOP
 generalize hW : ((((w.alloc (oQ3 p a b c d oa os.length oc code)).alloc (oQ2 o jr ja jb n)).alloc (oQ0 k q v)).alloc (zQ1)) = W at *
 obtain ⟨k0, k1, k2, k3, k4, k5, k6, x0, x1, x2, x3, x4, y0, y1, y2, r0, r1, r2, r3, r4, r5, r6, rf, l3, BW', kf⟩ := diC_w2 hW
 have BW : Hid (Below w.heap.size w W) := BW'
 clear BW'
 have HZ : Hid (w.heap.size + 1 + 1 + 1 + 1 = W.heap.size) := by
  subst hW
  show _ = _
  simp
 clear hW
 have hy : (W.alloc (.cells #[.int .i64 v] 3)).cell? ⟨w.heap.size + 1 + 1 + 1 + 1, 0, none⟩ = some (.int .i64 v) := new_cellB _ _ _ 0 (by rw [HZ.out])
 have bA := below_alloc W (.cells #[.int .i64 v] 3)
 refine wpList_append_keep _ rfl _ _ rfl B 1 (.slice oa os.length oc) ⟨w.heap.size + 1 + 1 + 1 + 1, 0, none⟩ os v rfl rfl ((HO.out.below BW.out).below bA) hy hn (by have := BW.out.size; simp; omega) ?_
 intro v1 w1 o1 p1 g1 at1
 obtain ⟨G, cap, hv1⟩ : ∃ G cap, v1 = .slice (some ⟨G, 0, none⟩) (os.length + 1) cap := by
  rcases o1.2 with ⟨rfl, e0⟩ | ⟨G, cap, cur, rfl, _⟩
  ·simp at e0
  ·exact ⟨G, cap, by simp⟩
 subst hv1
 have zA : (W.alloc (.cells #[.int .i64 v] 3)).heap.size = W.heap.size + 1 := by simp
 have hz := HZ.out
 have nR : ∀ j, w.heap.size ≤ j → some j ≠ (Value.slice oa os.length oc).ownBlock := fun j hj h => by
  have := LO.out j h.symm
  omega
 have e0 := gcell g1 (b := w.heap.size) (by omega) (nR _ (by omega))
 have e3 := gcell g1 (b := w.heap.size + 1 + 1 + 1) (by omega) (nR _ (by omega))
 have q0 := (e0.1 0).trans ((old_cell _ _ (by omega)).trans k0)
 have q1 := (e0.1 1).trans ((old_cell _ _ (by omega)).trans k1)
 have q2 := (e0.1 2).trans ((old_cell _ _ (by omega)).trans k2)
 have q3 := (e0.1 3).trans ((old_cell _ _ (by omega)).trans k3)
 have q4 := (e0.1 4).trans ((old_cell _ _ (by omega)).trans k4)
 have q5 := (e0.1 5).trans ((old_cell _ _ (by omega)).trans k5)
 have q6 := (e0.1 6).trans ((old_cell _ _ (by omega)).trans k6)
 have qf := (e0.2 5).trans (((bcell bA).2 _ _ (by omega)).trans (kf 5))
 have s0 := (e3.1 0).trans ((old_cell _ _ l3).trans r0)
 have s1 := (e3.1 1).trans ((old_cell _ _ l3).trans r1)
 have s2 := (e3.1 2).trans ((old_cell _ _ l3).trans r2)
 have s3 := (e3.1 3).trans ((old_cell _ _ l3).trans r3)
 have s4 := (e3.1 4).trans ((old_cell _ _ l3).trans r4)
 have s5 := (e3.1 5).trans ((old_cell _ _ l3).trans r5)
 have s6 := (e3.1 6).trans ((old_cell _ _ l3).trans r6)
 have sf := fun j => (e3.2 j).trans (((bcell bA).2 _ _ l3).trans (rf j))
 have z1 : w.heap.size + 1 + 1 + 1 + 1 < w1.heap.size := by have := g1.size; omega
 have GW : Hid (w.grownBy w1 (Value.slice oa os.length oc).ownBlock) := (grown_any (grown_of_below (BW.out.trans (bA.mono BW.out.size))) _).trans g1
 have A2 : Hid (∀ j, (Value.slice (some ⟨G, 0, none⟩) (os.length + 1) cap).ownBlock = some j → (Value.slice oa os.length oc).ownBlock = some j ∨ w.heap.size ≤ j) := by
  intro j h5
  rcases at1 with h8 | h8
  ·exact .inl (h8.symm.trans h5)
  ·rw [h5] at h8
   simp only [Option.some.injEq] at h8
   exact .inr (by omega)
 have AT : Hid (∀ j, w.heap.size ≤ j → j < w.heap.size + 1 + 1 + 1 + 1 → (Value.slice (some ⟨G, 0, none⟩) (os.length + 1) cap).ownBlock ≠ some j) := by
  intro j h5 h6 h7
  rcases at1 with h8 | h8
  ·exact nR j h5 (h7.symm.trans h8)
  ·rw [h7] at h8
   simp only [Option.some.injEq] at h8
   omega
 clear hz HZ zA bA g1 e0 e3 k0 k1 k2 k3 k4 k5 k6 kf r0 r1 r2 r3 r4 r5 r6 rf l3 x0 x1 x2 x3 x4 y0 y1 y2 BW hy
 have O1 : Hid (OwnI w1 B _ _) := o1
 have P1 : Hid (OwnI w1 B _ _) := p1
 clear o1 p1 at1
 go_wp2_with fail
 refine (onward_any _ _ _ _ _ _ _ _ _ _ h0 h1).mono ?_
 rintro e w2 ⟨rfl, b2⟩
 obtain ⟨hc2, hf2⟩ := bcell b2
 have zz : (w1.setCell ⟨w.heap.size, 5, none⟩ (.slice (some ⟨G, 0, none⟩) (os.length + 1) cap)).heap.size = w1.heap.size := by simp
 have l3 : w.heap.size + 1 + 1 + 1 < (w1.setCell ⟨w.heap.size, 5, none⟩ (.slice (some ⟨G, 0, none⟩) (os.length + 1) cap)).heap.size := by omega
 have gS := grown_setCell (p := ⟨w.heap.size, 5, none⟩) (World.grownBy.refl w1 (some w.heap.size)) (.inl rfl) (.slice (some ⟨G, 0, none⟩) (os.length + 1) cap)
 have e3 := gcell gS (b := w.heap.size + 1 + 1 + 1) (by omega) (by simp; omega)
 have t0 := (hc2 _ 0 l3).trans ((e3.1 0).trans s0)
 have t1 := (hc2 _ 1 l3).trans ((e3.1 1).trans s1)
 have t2 := (hc2 _ 2 l3).trans ((e3.1 2).trans s2)
 have t3 := (hc2 _ 3 l3).trans ((e3.1 3).trans s3)
 have t4 := (hc2 _ 4 l3).trans ((e3.1 4).trans s4)
 have t5 := (hc2 _ 5 l3).trans ((e3.1 5).trans s5)
 have t6 := (hc2 _ 6 l3).trans ((e3.1 6).trans s6)
 have tf := fun j => (hf2 _ j l3).trans ((e3.2 j).trans (sf j))
 have O2 : Hid (OwnI w2 B _ _) := (O1.out.setOther (p := ⟨w.heap.size, 5, none⟩) (AT.out _ (by simp) (by simp; omega)) _).below b2
 have P2 : Hid (OwnI w2 B _ _) := (P1.out.setOther (p := ⟨w.heap.size, 5, none⟩) (fun h => nR _ (by simp) h.symm) _).below b2
 have G2 : Hid (w.grownBy w2 (Value.slice oa os.length oc).ownBlock) := (grown_setCell (p := ⟨w.heap.size, 5, none⟩) GW.out (.inr (by simp)) _).trans (grown_any (grown_of_below b2) _)
 have A3 : Hid ((Value.slice (some ⟨G, 0, none⟩) (os.length + 1) cap).ownBlock ≠ some (w.heap.size + 1 + 1 + 1)) := AT.out _ (by omega) (by omega)
 have N3 : Hid ((Value.slice oa os.length oc).ownBlock ≠ some (w.heap.size + 1 + 1 + 1)) := fun h => nR _ (by omega) h.symm
 clear b2 hc2 hf2 zz l3 gS e3 s0 s1 s2 s3 s4 s5 s6 sf q0 q1 q2 q3 q4 q5 q6 qf O1 P1 GW AT nR
 go_wp2_with fail
 refine bodyPost_ret (v := dV (p + 1) a b c d (some ⟨G, 0, none⟩) (os.length + 1) cap code) (by simp [results, Tryz.results233, go_sem, t0, t1, t2, t3, t4, t5, t6]) rfl ⟨_, _, rfl, ?_, ?_, ?_, A2.out⟩
 ·repeat (refine OwnI.setOther ?_ A3.out _)
  exact O2.out
 ·repeat (refine OwnI.setOther ?_ N3.out _)
  exact P2.out
 ·repeat (refine grown_setCell ?_ (.inr (by simp; omega)) _)
  exact G2.out
end Go.Proofs.YtfdanemmefckpaaGreatDoor
