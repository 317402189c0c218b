/- The walks of the program's steps, a theorem an op. -/
import Derived.Test.YtdfhpimdgfemjaaGreatDoorLa15
import Derived.Laws.EntriesVeiled
import Derived.Test.YtdfhpimdgfemjaaGreatDoorLa10
namespace Go.Proofs.YtdfhpimdgfemjaaGreatDoor
open Go.RowKit

set_option maxHeartbeats 1000000 in
theorem stepOf_1 (w : World) :
    Calls Tryz.prog 208 #[.int .i64 1] w fun e w' => e = .returned (.func (.func 233) #[] #[]) ∧ Below w.heap.size w w' := by
  go_enter Tryz.func208, Tryz.ntmps208
  go_wp2_with fail
  refine bodyPost_ret (v := .func (.func 233) #[] #[]) (by simp [results, Tryz.results208, go_sem]) rfl ⟨rfl, ?_⟩
  go_grown

set_option maxHeartbeats 1000000 in
theorem stepOf_2 (w : World) :
    Calls Tryz.prog 208 #[.int .i64 2] w fun e w' => e = .returned (.func (.func 234) #[] #[]) ∧ Below w.heap.size w w' := by
  go_enter Tryz.func208, Tryz.ntmps208
  go_wp2_with fail
  refine bodyPost_ret (v := .func (.func 234) #[] #[]) (by simp [results, Tryz.results208, go_sem]) rfl ⟨rfl, ?_⟩
  go_grown

set_option maxHeartbeats 1000000 in
theorem stepOf_3 (w : World) :
    Calls Tryz.prog 208 #[.int .i64 3] w fun e w' => e = .returned (.func (.func 235) #[] #[]) ∧ Below w.heap.size w w' := by
  go_enter Tryz.func208, Tryz.ntmps208
  go_wp2_with fail
  refine bodyPost_ret (v := .func (.func 235) #[] #[]) (by simp [results, Tryz.results208, go_sem]) rfl ⟨rfl, ?_⟩
  go_grown

set_option maxHeartbeats 1000000 in
theorem stepOf_4 (w : World) :
    Calls Tryz.prog 208 #[.int .i64 4] w fun e w' => e = .returned (.func (.func 236) #[] #[]) ∧ Below w.heap.size w w' := by
  go_enter Tryz.func208, Tryz.ntmps208
  go_wp2_with fail
  refine bodyPost_ret (v := .func (.func 236) #[] #[]) (by simp [results, Tryz.results208, go_sem]) rfl ⟨rfl, ?_⟩
  go_grown

set_option maxHeartbeats 1000000 in
theorem stepOf_5 (w : World) :
    Calls Tryz.prog 208 #[.int .i64 5] w fun e w' => e = .returned (.func (.func 237) #[] #[]) ∧ Below w.heap.size w w' := by
  go_enter Tryz.func208, Tryz.ntmps208
  go_wp2_with fail
  refine bodyPost_ret (v := .func (.func 237) #[] #[]) (by simp [results, Tryz.results208, go_sem]) rfl ⟨rfl, ?_⟩
  go_grown

set_option maxHeartbeats 1000000 in
theorem stepOf_6 (w : World) :
    Calls Tryz.prog 208 #[.int .i64 6] w fun e w' => e = .returned (.func (.func 238) #[] #[]) ∧ Below w.heap.size w w' := by
  go_enter Tryz.func208, Tryz.ntmps208
  go_wp2_with fail
  refine bodyPost_ret (v := .func (.func 238) #[] #[]) (by simp [results, Tryz.results208, go_sem]) rfl ⟨rfl, ?_⟩
  go_grown

set_option maxHeartbeats 1000000 in
theorem stepOf_7 (w : World) :
    Calls Tryz.prog 208 #[.int .i64 7] w fun e w' => e = .returned (.func (.func 239) #[] #[]) ∧ Below w.heap.size w w' := by
  go_enter Tryz.func208, Tryz.ntmps208
  go_wp2_with fail
  refine bodyPost_ret (v := .func (.func 239) #[] #[]) (by simp [results, Tryz.results208, go_sem]) rfl ⟨rfl, ?_⟩
  go_grown

set_option maxHeartbeats 1000000 in
theorem stepOf_8 (w : World) :
    Calls Tryz.prog 208 #[.int .i64 8] w fun e w' => e = .returned (.func (.func 240) #[] #[]) ∧ Below w.heap.size w w' := by
  go_enter Tryz.func208, Tryz.ntmps208
  go_wp2_with fail
  refine bodyPost_ret (v := .func (.func 240) #[] #[]) (by simp [results, Tryz.results208, go_sem]) rfl ⟨rfl, ?_⟩
  go_grown

set_option maxHeartbeats 1000000 in
theorem stepOf_9 (w : World) :
    Calls Tryz.prog 208 #[.int .i64 9] w fun e w' => e = .returned (.func (.func 241) #[] #[]) ∧ Below w.heap.size w w' := by
  go_enter Tryz.func208, Tryz.ntmps208
  go_wp2_with fail
  refine bodyPost_ret (v := .func (.func 241) #[] #[]) (by simp [results, Tryz.results208, go_sem]) rfl ⟨rfl, ?_⟩
  go_grown

set_option maxHeartbeats 1000000 in
theorem stepOf_10 (w : World) :
    Calls Tryz.prog 208 #[.int .i64 10] w fun e w' => e = .returned (.func (.func 242) #[] #[]) ∧ Below w.heap.size w w' := by
  go_enter Tryz.func208, Tryz.ntmps208
  go_wp2_with fail
  refine bodyPost_ret (v := .func (.func 242) #[] #[]) (by simp [results, Tryz.results208, go_sem]) rfl ⟨rfl, ?_⟩
  go_grown

set_option maxHeartbeats 1000000 in
theorem stepOf_11 (w : World) :
    Calls Tryz.prog 208 #[.int .i64 11] w fun e w' => e = .returned (.func (.func 243) #[] #[]) ∧ Below w.heap.size w w' := by
  go_enter Tryz.func208, Tryz.ntmps208
  go_wp2_with fail
  refine bodyPost_ret (v := .func (.func 243) #[] #[]) (by simp [results, Tryz.results208, go_sem]) rfl ⟨rfl, ?_⟩
  go_grown

end Go.Proofs.YtdfhpimdgfemjaaGreatDoor

namespace Go.Proofs.YtdfhpimdgfemjaaGreatDoor
open Go.RowKit

theorem new_cellB (w : World) (cs : Array Value) (t : TypeId) (j : Nat) {N : Nat} (h : N = w.heap.size) : (w.alloc (.cells cs t)).cell? ⟨N, j, none⟩ = cs[j]? := by
  subst h
  simp
theorem new_frozenB (w : World) (cs : Array Value) (t : TypeId) (j : Nat) {N : Nat} (h : N = w.heap.size) : (w.alloc (.cells cs t)).frozen? ⟨N, j, none⟩ = false := by
  subst h
  simp

theorem set4_list (a b c d : Int) (j : Nat) (v : Int) (hj : j < 4) : [(set4 a b c d j v).1, (set4 a b c d j v).2.1, (set4 a b c d j v).2.2.1, (set4 a b c d j v).2.2.2] = [a, b, c, d].set j v := by
  match j, hj with
  | 0, _ => rfl
  | 1, _ => rfl
  | 2, _ => rfl
  | 3, _ => rfl

set_option maxRecDepth 100000 in
set_option maxHeartbeats 2000000 in
theorem step_set (p a b c d : Int) (oa : Option Addr) (on oc : Nat) (code : Int) (jr ja jb : Nat) (n o k q v : Int) (w : World) (h0 : 0 ≤ p) (h1 : p ≤ 1000000000) (hj : jr < 4) :
    Calls Tryz.prog 233 #[dV p a b c d oa on oc code, insV o jr ja jb n, evV k q v] w fun e w' => e = .returned (dV (p + 1) (set4 a b c d jr (n)).1 (set4 a b c d jr (n)).2.1 (set4 a b c d jr (n)).2.2.1 (set4 a b c d jr (n)).2.2.2 oa on oc code) ∧ Below w.heap.size w w' := by
  go_enter Tryz.func233, Tryz.ntmps233
  go_wp2_with fail
  refine (put_any _ _ _ _ _ _ _ _ _ _ _ _ h0 h1 hj).mono ?_
  rintro e w1 ⟨rfl, b1⟩
  have B1 : Hid (Below w.heap.size w w1) := below_up (by go_grown) b1 (by simp; omega)
  obtain ⟨hc1, hf1⟩ := bcell b1
  clear b1
  go_wp2
  refine bodyPost_ret (v := dV (p + 1) (set4 a b c d jr (n)).1 (set4 a b c d jr (n)).2.1 (set4 a b c d jr (n)).2.2.1 (set4 a b c d jr (n)).2.2.2 oa on oc code) (by simp [results, Tryz.results233, go_sem, hc1]) rfl ⟨rfl, ?_⟩
  have := B1.out
  go_grown

set_option maxRecDepth 100000 in
set_option maxHeartbeats 2000000 in
theorem step_take (p a b c d : Int) (oa : Option Addr) (on oc : Nat) (code : Int) (jr ja jb : Nat) (n o k q v : Int) (w : World) (h0 : 0 ≤ p) (h1 : p ≤ 1000000000) (hj : jr < 4) :
    Calls Tryz.prog 239 #[dV p a b c d oa on oc code, insV o jr ja jb n, evV k q v] w fun e w' => e = .returned (dV (p + 1) (set4 a b c d jr (v)).1 (set4 a b c d jr (v)).2.1 (set4 a b c d jr (v)).2.2.1 (set4 a b c d jr (v)).2.2.2 oa on oc code) ∧ Below w.heap.size w w' := by
  go_enter Tryz.func239, Tryz.ntmps239
  go_wp2_with fail
  refine (put_any _ _ _ _ _ _ _ _ _ _ _ _ h0 h1 hj).mono ?_
  rintro e w1 ⟨rfl, b1⟩
  have B1 : Hid (Below w.heap.size w w1) := below_up (by go_grown) b1 (by simp; omega)
  obtain ⟨hc1, hf1⟩ := bcell b1
  clear b1
  go_wp2
  refine bodyPost_ret (v := dV (p + 1) (set4 a b c d jr (v)).1 (set4 a b c d jr (v)).2.1 (set4 a b c d jr (v)).2.2.1 (set4 a b c d jr (v)).2.2.2 oa on oc code) (by simp [results, Tryz.results239, go_sem, hc1]) rfl ⟨rfl, ?_⟩
  have := B1.out
  go_grown

set_option maxRecDepth 100000 in
set_option maxHeartbeats 2000000 in
theorem step_send (p a b c d : Int) (oa : Option Addr) (on oc : Nat) (code : Int) (jr ja jb : Nat) (n o k q v : Int) (w : World) (h0 : 0 ≤ p) (h1 : p ≤ 1000000000) :
    Calls Tryz.prog 238 #[dV p a b c d oa on oc code, insV o jr ja jb n, evV k q v] w fun e w' => e = .returned (dV (p + 1) a b c d oa on oc code) ∧ Below w.heap.size w w' := by
  go_enter Tryz.func238, Tryz.ntmps238
  go_wp2_with fail
  refine (onward_any _ _ _ _ _ _ _ _ _ _ h0 h1).mono ?_
  rintro e w1 ⟨rfl, b1⟩
  have B1 : Hid (Below w.heap.size w w1) := below_up (by go_grown) b1 (by simp; omega)
  obtain ⟨hc1, hf1⟩ := bcell b1
  clear b1
  go_wp2
  refine bodyPost_ret (v := dV (p + 1) a b c d oa on oc code) (by simp [results, Tryz.results238, go_sem, hc1]) rfl ⟨rfl, ?_⟩
  have := B1.out
  go_grown

set_option maxRecDepth 100000 in
set_option maxHeartbeats 2000000 in
theorem step_jump (p a b c d : Int) (oa : Option Addr) (on oc : Nat) (code : Int) (jr ja jb : Nat) (n o k q v : Int) (w : World) (_h0 : 0 ≤ p) (_h1 : p ≤ 1000000000) :
    Calls Tryz.prog 241 #[dV p a b c d oa on oc code, insV o jr ja jb n, evV k q v] w fun e w' => e = .returned (dV n a b c d oa on oc code) ∧ Below w.heap.size w w' := by
  go_enter Tryz.func241, Tryz.ntmps241
  go_wp2
  refine bodyPost_ret (v := dV n a b c d oa on oc code) (by simp [results, Tryz.results241, go_sem]) rfl ⟨rfl, ?_⟩
  go_grown

set_option maxRecDepth 100000 in
set_option maxHeartbeats 2000000 in
theorem step_end (p a b c d : Int) (oa : Option Addr) (on oc : Nat) (code : Int) (jr ja jb : Nat) (n o k q v : Int) (w : World) (_h0 : 0 ≤ p) (_h1 : p ≤ 1000000000) :
    Calls Tryz.prog 243 #[dV p a b c d oa on oc code, insV o jr ja jb n, evV k q v] w fun e w' => e = .returned (dV p a b c d oa on oc 1) ∧ Below w.heap.size w w' := by
  go_enter Tryz.func243, Tryz.ntmps243
  go_wp2
  refine bodyPost_ret (v := dV p a b c d oa on oc 1) (by simp [results, Tryz.results243, go_sem]) rfl ⟨rfl, ?_⟩
  go_grown

theorem diB_w1 {w W : World} {v0 : Int} {v1 : Int} {v2 : Int} {v3 : Int} {v4 : Int} {v5 : Option Addr} {v6 : Nat} {v7 : Nat} {v8 : Int} {v9 : Int} {v10 : Int} {v11 : Int} {v12 : Int} {v13 : Int} {v14 : Int} {v15 : Int} {v16 : Int} (hW : ((((w.alloc (.cells #[.int .i64 v0, .int .i64 v1, .int .i64 v2, .int .i64 v3, .int .i64 v4, .slice v5 v6 v7, .int .i64 v8] 245)).alloc (.cells #[.int .i64 v9, .int .i64 v10, .int .i64 v11, .int .i64 v12, .int .i64 v13] 153)).alloc (.cells #[.int .i64 v14, .int .i64 v15, .int .i64 v16] 112)).alloc (.cells #[.int .i64 0, .int .i64 0, .int .i64 0, .int .i64 0, .int .i64 0, .slice none 0 0, .int .i64 0] 245)) = W) : W.cell? ⟨w.heap.size, 0, none⟩ = some (.int .i64 v0) ∧ W.cell? ⟨w.heap.size, 1, none⟩ = some (.int .i64 v1) ∧ W.cell? ⟨w.heap.size, 2, none⟩ = some (.int .i64 v2) ∧ W.cell? ⟨w.heap.size, 3, none⟩ = some (.int .i64 v3) ∧ W.cell? ⟨w.heap.size, 4, none⟩ = some (.int .i64 v4) ∧ W.cell? ⟨w.heap.size, 5, none⟩ = some (.slice v5 v6 v7) ∧ W.cell? ⟨w.heap.size, 6, none⟩ = some (.int .i64 v8) ∧ W.cell? ⟨w.heap.size + 1, 0, none⟩ = some (.int .i64 v9) ∧ W.cell? ⟨w.heap.size + 1, 1, none⟩ = some (.int .i64 v10) ∧ W.cell? ⟨w.heap.size + 1, 2, none⟩ = some (.int .i64 v11) ∧ W.cell? ⟨w.heap.size + 1, 3, none⟩ = some (.int .i64 v12) ∧ W.cell? ⟨w.heap.size + 1, 4, none⟩ = some (.int .i64 v13) ∧ W.cell? ⟨w.heap.size + 1 + 1, 0, none⟩ = some (.int .i64 v14) ∧ W.cell? ⟨w.heap.size + 1 + 1, 1, none⟩ = some (.int .i64 v15) ∧ W.cell? ⟨w.heap.size + 1 + 1, 2, none⟩ = some (.int .i64 v16) ∧ W.cell? ⟨w.heap.size + 1 + 1 + 1, 0, none⟩ = some (.int .i64 0) ∧ W.cell? ⟨w.heap.size + 1 + 1 + 1, 1, none⟩ = some (.int .i64 0) ∧ W.cell? ⟨w.heap.size + 1 + 1 + 1, 2, none⟩ = some (.int .i64 0) ∧ W.cell? ⟨w.heap.size + 1 + 1 + 1, 3, none⟩ = some (.int .i64 0) ∧ W.cell? ⟨w.heap.size + 1 + 1 + 1, 4, none⟩ = some (.int .i64 0) ∧ W.cell? ⟨w.heap.size + 1 + 1 + 1, 5, none⟩ = some (.slice none 0 0) ∧ W.cell? ⟨w.heap.size + 1 + 1 + 1, 6, none⟩ = some (.int .i64 0) ∧ (∀ j, W.frozen? ⟨w.heap.size + 1 + 1 + 1, j, none⟩ = false) ∧ w.heap.size + 1 + 1 + 1 < W.heap.size ∧ Below w.heap.size w W := by
  subst hW
  exact ⟨(old_cell _ _ (by first | (simp; done) | (simp; omega))).trans ((old_cell _ _ (by first | (simp; done) | (simp; omega))).trans ((old_cell _ _ (by simp)).trans (by simp))), (old_cell _ _ (by first | (simp; done) | (simp; omega))).trans ((old_cell _ _ (by first | (simp; done) | (simp; omega))).trans ((old_cell _ _ (by simp)).trans (by simp))), (old_cell _ _ (by first | (simp; done) | (simp; omega))).trans ((old_cell _ _ (by first | (simp; done) | (simp; omega))).trans ((old_cell _ _ (by simp)).trans (by simp))), (old_cell _ _ (by first | (simp; done) | (simp; omega))).trans ((old_cell _ _ (by first | (simp; done) | (simp; omega))).trans ((old_cell _ _ (by simp)).trans (by simp))), (old_cell _ _ (by first | (simp; done) | (simp; omega))).trans ((old_cell _ _ (by first | (simp; done) | (simp; omega))).trans ((old_cell _ _ (by simp)).trans (by simp))), (old_cell _ _ (by first | (simp; done) | (simp; omega))).trans ((old_cell _ _ (by first | (simp; done) | (simp; omega))).trans ((old_cell _ _ (by simp)).trans (by simp))), (old_cell _ _ (by first | (simp; done) | (simp; omega))).trans ((old_cell _ _ (by first | (simp; done) | (simp; omega))).trans ((old_cell _ _ (by simp)).trans (by simp))), (old_cell _ _ (by first | (simp; done) | (simp; omega))).trans ((old_cell _ _ (by simp)).trans (by simp)), (old_cell _ _ (by first | (simp; done) | (simp; omega))).trans ((old_cell _ _ (by simp)).trans (by simp)), (old_cell _ _ (by first | (simp; done) | (simp; omega))).trans ((old_cell _ _ (by simp)).trans (by simp)), (old_cell _ _ (by first | (simp; done) | (simp; omega))).trans ((old_cell _ _ (by simp)).trans (by simp)), (old_cell _ _ (by first | (simp; done) | (simp; omega))).trans ((old_cell _ _ (by simp)).trans (by simp)), (old_cell _ _ (by simp)).trans (new_cellB _ _ _ 0 (by simp)), (old_cell _ _ (by simp)).trans (new_cellB _ _ _ 1 (by simp)), (old_cell _ _ (by simp)).trans (new_cellB _ _ _ 2 (by simp)), new_cellB _ _ _ 0 (by simp), new_cellB _ _ _ 1 (by simp), new_cellB _ _ _ 2 (by simp), new_cellB _ _ _ 3 (by simp), new_cellB _ _ _ 4 (by simp), new_cellB _ _ _ 5 (by simp), new_cellB _ _ _ 6 (by simp), fun j => new_frozenB _ _ _ j (by simp), by simp, by go_grown⟩

set_option maxRecDepth 100000 in
set_option maxHeartbeats 2000000 in
theorem step_add (p a b c d : Int) (oa : Option Addr) (on oc : Nat) (code : Int) (jr ja jb : Nat) (n o k q v : Int) (w : World) (h0 : 0 ≤ p) (h1 : p ≤ 1000000000) (hj : jr < 4) (ha : ja < 4) (hb : jb < 4) (na1 : -1000000000 ≤ zi [a, b, c, d] ja) (na2 : zi [a, b, c, d] ja ≤ 1000000000) (nb1 : -1000000000 ≤ zi [a, b, c, d] jb) (nb2 : zi [a, b, c, d] jb ≤ 1000000000) (mb1 : -1000000000000000000 ≤ zi [a, b, c, d] ja * zi [a, b, c, d] jb) (mb2 : zi [a, b, c, d] ja * zi [a, b, c, d] jb ≤ 1000000000000000000) :
    Calls Tryz.prog 234 #[dV p a b c d oa on oc code, insV o jr ja jb n, evV k q v] w fun e w' => e = .returned (dV (p + 1) (set4 a b c d jr (zi [a, b, c, d] ja + zi [a, b, c, d] jb)).1 (set4 a b c d jr (zi [a, b, c, d] ja + zi [a, b, c, d] jb)).2.1 (set4 a b c d jr (zi [a, b, c, d] ja + zi [a, b, c, d] jb)).2.2.1 (set4 a b c d jr (zi [a, b, c, d] ja + zi [a, b, c, d] jb)).2.2.2 oa on oc code) ∧ Below w.heap.size w w' := by
  go_enter Tryz.func234, Tryz.ntmps234
  go_wp2_with fail
  generalize hW : ((((w.alloc (.cells #[.int .i64 p, .int .i64 a, .int .i64 b, .int .i64 c, .int .i64 d, .slice oa on oc, .int .i64 code] 245)).alloc (.cells #[.int .i64 o, .int .i64 jr, .int .i64 ja, .int .i64 jb, .int .i64 n] 153)).alloc (.cells #[.int .i64 k, .int .i64 q, .int .i64 v] 112)).alloc (.cells #[.int .i64 0, .int .i64 0, .int .i64 0, .int .i64 0, .int .i64 0, .slice none 0 0, .int .i64 0] 245)) = W at *
  obtain ⟨k0, k1, k2, k3, k4, k5, k6, x0, x1, x2, x3, x4, y0, y1, y2, r0, r1, r2, r3, r4, r5, r6, rf, l3, BW'⟩ := diB_w1 hW
  have BW : Hid (Below w.heap.size w W) := BW'
  clear BW'
  clear hW
  have l0 : w.heap.size < W.heap.size := by omega
  have l1 : w.heap.size + 1 < W.heap.size := by omega
  have l2 : w.heap.size + 1 + 1 < W.heap.size := by omega
  have ja' : (ja : Int) < 4 := by omega
  have ca : W.cell? ⟨w.heap.size, 1 + ja, none⟩ = some (.int .i64 (zi [a, b, c, d] ja)) := by
    match ja, ha with
    | 0, _ => exact k1
    | 1, _ => exact k2
    | 2, _ => exact k3
    | 3, _ => exact k4
  have cb : W.cell? ⟨w.heap.size, 1 + jb, none⟩ = some (.int .i64 (zi [a, b, c, d] jb)) := by
    match jb, hb with
    | 0, _ => exact k1
    | 1, _ => exact k2
    | 2, _ => exact k3
    | 3, _ => exact k4
  have jb' : (jb : Int) < 4 := by omega
  have hw : IntKind.i64.wrap (zi [a, b, c, d] ja + zi [a, b, c, d] jb) = zi [a, b, c, d] ja + zi [a, b, c, d] jb := by rw [IntKind.wrap_i64]; omega
  generalize hN3 : w.heap.size + 1 + 1 + 1 = N3 at *
  generalize hN2 : w.heap.size + 1 + 1 = N2 at *
  generalize hN1 : w.heap.size + 1 = N1 at *
  have ne1 : w.heap.size ≠ N3 := by omega
  have ne2 : N1 ≠ N3 := by omega
  have ne3 : N3 ≠ w.heap.size := by omega
  have ne4 : N3 ≠ N1 := by omega
  have HN : Hid (w.heap.size < N3) := by show w.heap.size < N3; omega
  clear hN1 hN2 hN3
  go_region_held3 (fun w' => w'.cell? ⟨w.heap.size, 0, none⟩ = some (.int .i64 p) ∧ w'.cell? ⟨w.heap.size, 1, none⟩ = some (.int .i64 a) ∧ w'.cell? ⟨w.heap.size, 2, none⟩ = some (.int .i64 b) ∧ w'.cell? ⟨w.heap.size, 3, none⟩ = some (.int .i64 c) ∧ w'.cell? ⟨w.heap.size, 4, none⟩ = some (.int .i64 d) ∧ w'.cell? ⟨w.heap.size, 5, none⟩ = some (.slice oa on oc) ∧ w'.cell? ⟨w.heap.size, 6, none⟩ = some (.int .i64 code) ∧ w'.cell? ⟨N1, 1, none⟩ = some (.int .i64 jr) ∧ w'.cell? ⟨N1, 2, none⟩ = some (.int .i64 ja) ∧ w'.cell? ⟨N1, 3, none⟩ = some (.int .i64 jb) ∧ w'.cell? ⟨w.heap.size, 1 + ja, none⟩ = some (.int .i64 (zi [a, b, c, d] ja)) ∧ w'.cell? ⟨w.heap.size, 1 + jb, none⟩ = some (.int .i64 (zi [a, b, c, d] jb))) (go_keep)
    (first | (go_at_call 260; refine (put_any _ _ _ _ _ _ _ _ _ _ _ _ h0 h1 hj).mono ?_; rintro e w1 ⟨rfl, b1'⟩; have b1 : Below W.heap.size W w1 := (Below.refl W.heap.size W).drew.trans b1'; obtain ⟨hc1, hf1⟩ := bcell b1; have B1 : Hid (Below w.heap.size w w1) := BW.out.trans (b1.mono BW.out.size); clear b1 b1'))
  go_wp2
  refine bodyPost_ret (v := dV (p + 1) (set4 a b c d jr (zi [a, b, c, d] ja + zi [a, b, c, d] jb)).1 (set4 a b c d jr (zi [a, b, c, d] ja + zi [a, b, c, d] jb)).2.1 (set4 a b c d jr (zi [a, b, c, d] ja + zi [a, b, c, d] jb)).2.2.1 (set4 a b c d jr (zi [a, b, c, d] ja + zi [a, b, c, d] jb)).2.2.2 oa on oc code) (by simp [results, Tryz.results234, go_sem, hc1, l3, r0, r1, r2, r3, r4, r5, r6]) rfl ⟨rfl, ?_⟩
  have := B1.out
  have := HN.out
  go_grown

set_option maxRecDepth 100000 in
set_option maxHeartbeats 2000000 in
theorem step_sub (p a b c d : Int) (oa : Option Addr) (on oc : Nat) (code : Int) (jr ja jb : Nat) (n o k q v : Int) (w : World) (h0 : 0 ≤ p) (h1 : p ≤ 1000000000) (hj : jr < 4) (ha : ja < 4) (hb : jb < 4) (na1 : -1000000000 ≤ zi [a, b, c, d] ja) (na2 : zi [a, b, c, d] ja ≤ 1000000000) (nb1 : -1000000000 ≤ zi [a, b, c, d] jb) (nb2 : zi [a, b, c, d] jb ≤ 1000000000) (mb1 : -1000000000000000000 ≤ zi [a, b, c, d] ja * zi [a, b, c, d] jb) (mb2 : zi [a, b, c, d] ja * zi [a, b, c, d] jb ≤ 1000000000000000000) :
    Calls Tryz.prog 235 #[dV p a b c d oa on oc code, insV o jr ja jb n, evV k q v] w fun e w' => e = .returned (dV (p + 1) (set4 a b c d jr (zi [a, b, c, d] ja - zi [a, b, c, d] jb)).1 (set4 a b c d jr (zi [a, b, c, d] ja - zi [a, b, c, d] jb)).2.1 (set4 a b c d jr (zi [a, b, c, d] ja - zi [a, b, c, d] jb)).2.2.1 (set4 a b c d jr (zi [a, b, c, d] ja - zi [a, b, c, d] jb)).2.2.2 oa on oc code) ∧ Below w.heap.size w w' := by
  go_enter Tryz.func235, Tryz.ntmps235
  go_wp2_with fail
  generalize hW : ((((w.alloc (.cells #[.int .i64 p, .int .i64 a, .int .i64 b, .int .i64 c, .int .i64 d, .slice oa on oc, .int .i64 code] 245)).alloc (.cells #[.int .i64 o, .int .i64 jr, .int .i64 ja, .int .i64 jb, .int .i64 n] 153)).alloc (.cells #[.int .i64 k, .int .i64 q, .int .i64 v] 112)).alloc (.cells #[.int .i64 0, .int .i64 0, .int .i64 0, .int .i64 0, .int .i64 0, .slice none 0 0, .int .i64 0] 245)) = W at *
  obtain ⟨k0, k1, k2, k3, k4, k5, k6, x0, x1, x2, x3, x4, y0, y1, y2, r0, r1, r2, r3, r4, r5, r6, rf, l3, BW'⟩ := diB_w1 hW
  have BW : Hid (Below w.heap.size w W) := BW'
  clear BW'
  clear hW
  have l0 : w.heap.size < W.heap.size := by omega
  have l1 : w.heap.size + 1 < W.heap.size := by omega
  have l2 : w.heap.size + 1 + 1 < W.heap.size := by omega
  have ja' : (ja : Int) < 4 := by omega
  have ca : W.cell? ⟨w.heap.size, 1 + ja, none⟩ = some (.int .i64 (zi [a, b, c, d] ja)) := by
    match ja, ha with
    | 0, _ => exact k1
    | 1, _ => exact k2
    | 2, _ => exact k3
    | 3, _ => exact k4
  have cb : W.cell? ⟨w.heap.size, 1 + jb, none⟩ = some (.int .i64 (zi [a, b, c, d] jb)) := by
    match jb, hb with
    | 0, _ => exact k1
    | 1, _ => exact k2
    | 2, _ => exact k3
    | 3, _ => exact k4
  have jb' : (jb : Int) < 4 := by omega
  have hw : IntKind.i64.wrap (zi [a, b, c, d] ja - zi [a, b, c, d] jb) = zi [a, b, c, d] ja - zi [a, b, c, d] jb := by rw [IntKind.wrap_i64]; omega
  generalize hN3 : w.heap.size + 1 + 1 + 1 = N3 at *
  generalize hN2 : w.heap.size + 1 + 1 = N2 at *
  generalize hN1 : w.heap.size + 1 = N1 at *
  have ne1 : w.heap.size ≠ N3 := by omega
  have ne2 : N1 ≠ N3 := by omega
  have ne3 : N3 ≠ w.heap.size := by omega
  have ne4 : N3 ≠ N1 := by omega
  have HN : Hid (w.heap.size < N3) := by show w.heap.size < N3; omega
  clear hN1 hN2 hN3
  go_region_held3 (fun w' => w'.cell? ⟨w.heap.size, 0, none⟩ = some (.int .i64 p) ∧ w'.cell? ⟨w.heap.size, 1, none⟩ = some (.int .i64 a) ∧ w'.cell? ⟨w.heap.size, 2, none⟩ = some (.int .i64 b) ∧ w'.cell? ⟨w.heap.size, 3, none⟩ = some (.int .i64 c) ∧ w'.cell? ⟨w.heap.size, 4, none⟩ = some (.int .i64 d) ∧ w'.cell? ⟨w.heap.size, 5, none⟩ = some (.slice oa on oc) ∧ w'.cell? ⟨w.heap.size, 6, none⟩ = some (.int .i64 code) ∧ w'.cell? ⟨N1, 1, none⟩ = some (.int .i64 jr) ∧ w'.cell? ⟨N1, 2, none⟩ = some (.int .i64 ja) ∧ w'.cell? ⟨N1, 3, none⟩ = some (.int .i64 jb) ∧ w'.cell? ⟨w.heap.size, 1 + ja, none⟩ = some (.int .i64 (zi [a, b, c, d] ja)) ∧ w'.cell? ⟨w.heap.size, 1 + jb, none⟩ = some (.int .i64 (zi [a, b, c, d] jb))) (go_keep)
    (first | (go_at_call 260; refine (put_any _ _ _ _ _ _ _ _ _ _ _ _ h0 h1 hj).mono ?_; rintro e w1 ⟨rfl, b1'⟩; have b1 : Below W.heap.size W w1 := (Below.refl W.heap.size W).drew.trans b1'; obtain ⟨hc1, hf1⟩ := bcell b1; have B1 : Hid (Below w.heap.size w w1) := BW.out.trans (b1.mono BW.out.size); clear b1 b1'))
  go_wp2
  refine bodyPost_ret (v := dV (p + 1) (set4 a b c d jr (zi [a, b, c, d] ja - zi [a, b, c, d] jb)).1 (set4 a b c d jr (zi [a, b, c, d] ja - zi [a, b, c, d] jb)).2.1 (set4 a b c d jr (zi [a, b, c, d] ja - zi [a, b, c, d] jb)).2.2.1 (set4 a b c d jr (zi [a, b, c, d] ja - zi [a, b, c, d] jb)).2.2.2 oa on oc code) (by simp [results, Tryz.results235, go_sem, hc1, l3, r0, r1, r2, r3, r4, r5, r6]) rfl ⟨rfl, ?_⟩
  have := B1.out
  have := HN.out
  go_grown

set_option maxRecDepth 100000 in
set_option maxHeartbeats 2000000 in
theorem step_mul (p a b c d : Int) (oa : Option Addr) (on oc : Nat) (code : Int) (jr ja jb : Nat) (n o k q v : Int) (w : World) (h0 : 0 ≤ p) (h1 : p ≤ 1000000000) (hj : jr < 4) (ha : ja < 4) (hb : jb < 4) (na1 : -1000000000 ≤ zi [a, b, c, d] ja) (na2 : zi [a, b, c, d] ja ≤ 1000000000) (nb1 : -1000000000 ≤ zi [a, b, c, d] jb) (nb2 : zi [a, b, c, d] jb ≤ 1000000000) (mb1 : -1000000000000000000 ≤ zi [a, b, c, d] ja * zi [a, b, c, d] jb) (mb2 : zi [a, b, c, d] ja * zi [a, b, c, d] jb ≤ 1000000000000000000) :
    Calls Tryz.prog 236 #[dV p a b c d oa on oc code, insV o jr ja jb n, evV k q v] w fun e w' => e = .returned (dV (p + 1) (set4 a b c d jr (zi [a, b, c, d] ja * zi [a, b, c, d] jb)).1 (set4 a b c d jr (zi [a, b, c, d] ja * zi [a, b, c, d] jb)).2.1 (set4 a b c d jr (zi [a, b, c, d] ja * zi [a, b, c, d] jb)).2.2.1 (set4 a b c d jr (zi [a, b, c, d] ja * zi [a, b, c, d] jb)).2.2.2 oa on oc code) ∧ Below w.heap.size w w' := by
  go_enter Tryz.func236, Tryz.ntmps236
  go_wp2_with fail
  generalize hW : ((((w.alloc (.cells #[.int .i64 p, .int .i64 a, .int .i64 b, .int .i64 c, .int .i64 d, .slice oa on oc, .int .i64 code] 245)).alloc (.cells #[.int .i64 o, .int .i64 jr, .int .i64 ja, .int .i64 jb, .int .i64 n] 153)).alloc (.cells #[.int .i64 k, .int .i64 q, .int .i64 v] 112)).alloc (.cells #[.int .i64 0, .int .i64 0, .int .i64 0, .int .i64 0, .int .i64 0, .slice none 0 0, .int .i64 0] 245)) = W at *
  obtain ⟨k0, k1, k2, k3, k4, k5, k6, x0, x1, x2, x3, x4, y0, y1, y2, r0, r1, r2, r3, r4, r5, r6, rf, l3, BW'⟩ := diB_w1 hW
  have BW : Hid (Below w.heap.size w W) := BW'
  clear BW'
  clear hW
  have l0 : w.heap.size < W.heap.size := by omega
  have l1 : w.heap.size + 1 < W.heap.size := by omega
  have l2 : w.heap.size + 1 + 1 < W.heap.size := by omega
  have ja' : (ja : Int) < 4 := by omega
  have ca : W.cell? ⟨w.heap.size, 1 + ja, none⟩ = some (.int .i64 (zi [a, b, c, d] ja)) := by
    match ja, ha with
    | 0, _ => exact k1
    | 1, _ => exact k2
    | 2, _ => exact k3
    | 3, _ => exact k4
  have cb : W.cell? ⟨w.heap.size, 1 + jb, none⟩ = some (.int .i64 (zi [a, b, c, d] jb)) := by
    match jb, hb with
    | 0, _ => exact k1
    | 1, _ => exact k2
    | 2, _ => exact k3
    | 3, _ => exact k4
  have jb' : (jb : Int) < 4 := by omega
  have hw : IntKind.i64.wrap (zi [a, b, c, d] ja * zi [a, b, c, d] jb) = zi [a, b, c, d] ja * zi [a, b, c, d] jb := by rw [IntKind.wrap_i64]; omega
  generalize hN3 : w.heap.size + 1 + 1 + 1 = N3 at *
  generalize hN2 : w.heap.size + 1 + 1 = N2 at *
  generalize hN1 : w.heap.size + 1 = N1 at *
  have ne1 : w.heap.size ≠ N3 := by omega
  have ne2 : N1 ≠ N3 := by omega
  have ne3 : N3 ≠ w.heap.size := by omega
  have ne4 : N3 ≠ N1 := by omega
  have HN : Hid (w.heap.size < N3) := by show w.heap.size < N3; omega
  clear hN1 hN2 hN3
  go_region_held3 (fun w' => w'.cell? ⟨w.heap.size, 0, none⟩ = some (.int .i64 p) ∧ w'.cell? ⟨w.heap.size, 1, none⟩ = some (.int .i64 a) ∧ w'.cell? ⟨w.heap.size, 2, none⟩ = some (.int .i64 b) ∧ w'.cell? ⟨w.heap.size, 3, none⟩ = some (.int .i64 c) ∧ w'.cell? ⟨w.heap.size, 4, none⟩ = some (.int .i64 d) ∧ w'.cell? ⟨w.heap.size, 5, none⟩ = some (.slice oa on oc) ∧ w'.cell? ⟨w.heap.size, 6, none⟩ = some (.int .i64 code) ∧ w'.cell? ⟨N1, 1, none⟩ = some (.int .i64 jr) ∧ w'.cell? ⟨N1, 2, none⟩ = some (.int .i64 ja) ∧ w'.cell? ⟨N1, 3, none⟩ = some (.int .i64 jb) ∧ w'.cell? ⟨w.heap.size, 1 + ja, none⟩ = some (.int .i64 (zi [a, b, c, d] ja)) ∧ w'.cell? ⟨w.heap.size, 1 + jb, none⟩ = some (.int .i64 (zi [a, b, c, d] jb))) (go_keep)
    (first | (go_at_call 260; refine (put_any _ _ _ _ _ _ _ _ _ _ _ _ h0 h1 hj).mono ?_; rintro e w1 ⟨rfl, b1'⟩; have b1 : Below W.heap.size W w1 := (Below.refl W.heap.size W).drew.trans b1'; obtain ⟨hc1, hf1⟩ := bcell b1; have B1 : Hid (Below w.heap.size w w1) := BW.out.trans (b1.mono BW.out.size); clear b1 b1'))
  go_wp2
  refine bodyPost_ret (v := dV (p + 1) (set4 a b c d jr (zi [a, b, c, d] ja * zi [a, b, c, d] jb)).1 (set4 a b c d jr (zi [a, b, c, d] ja * zi [a, b, c, d] jb)).2.1 (set4 a b c d jr (zi [a, b, c, d] ja * zi [a, b, c, d] jb)).2.2.1 (set4 a b c d jr (zi [a, b, c, d] ja * zi [a, b, c, d] jb)).2.2.2 oa on oc code) (by simp [results, Tryz.results236, go_sem, hc1, l3, r0, r1, r2, r3, r4, r5, r6]) rfl ⟨rfl, ?_⟩
  have := B1.out
  have := HN.out
  go_grown

end Go.Proofs.YtdfhpimdgfemjaaGreatDoor
