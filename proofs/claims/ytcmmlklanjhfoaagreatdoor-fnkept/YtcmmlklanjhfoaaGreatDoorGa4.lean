/- The walk of the program's InsOk, two theorems a kind of place, for every argument (set, calc, end). -/
import Derived.Test.YtcmmlklanjhfoaaGreatDoorGa2
import Derived.Deep.RegionWith
namespace Go.Proofs.YtcmmlklanjhfoaaGreatDoor
open Go.RowKit

def insEqB (o1 r1 a1 b1 n1 o2 r2 a2 b2 n2 : Int) : Bool := o1 == o2 && (r1 == r2 && (a1 == a2 && (b1 == b2 && n1 == n2)))
theorem eql_ins (o1 r1 a1 b1 n1 o2 r2 a2 b2 n2 : Int) (w : World) : (binOp .eql 97 (insV o1 r1 a1 b1 n1) (insV o2 r2 a2 b2 n2)).run Tryz.prog w = .ok (.bool (insEqB o1 r1 a1 b1 n1 o2 r2 a2 b2 n2)) w := by
  rw [run_eql_struct, show (10000 : Nat) = 9998 + 1 + 1 from rfl, run_equalIn_agg w (9998 + 1) 97 _ _ (by kernel_rfl) (by kernel_rfl)]
  simp only [insEqB]
  by_cases h1 : o1 = o2 <;> by_cases h2 : r1 = r2 <;> by_cases h3 : a1 = a2 <;> by_cases h4 : b1 = b2 <;> by_cases h5 : n1 = n2 <;> simp [go_sem, h1, h2, h3, h4, h5]

theorem implIns_below1 {w w1 : World} {o : Obj} (h1 : Below (w.alloc o).heap.size (w.alloc o) w1) : Below w.heap.size w w1.drew := by
  have h0 : Below w.heap.size w (w.alloc o) := (Below.refl _ _).alloc (Nat.le_refl _) _
  have hs : w.heap.size ≤ (w.alloc o).heap.size := by simp
  exact (h0.trans (h1.mono hs)).drew
theorem implIns_below2 {w w1 w2 : World} {o : Obj} (h1 : Below (w.alloc o).heap.size (w.alloc o) w1) (h2 : Below w1.drew.heap.size w1.drew w2) : Below w.heap.size w w2 := by
  have h0 : Below w.heap.size w (w.alloc o) := (Below.refl _ _).alloc (Nat.le_refl _) _
  have hs : w.heap.size ≤ (w.alloc o).heap.size := by simp
  exact (h0.trans (h1.mono hs)).drew.trans (h2.mono (Nat.le_trans hs h1.size))
theorem implIns_below3 {w w1 w2 w3 : World} {o : Obj} (h1 : Below (w.alloc o).heap.size (w.alloc o) w1) (h2 : Below w1.drew.heap.size w1.drew w2) (h3 : Below w2.heap.size w2 w3) : Below w.heap.size w w3 :=
  implIns_below2 h1 (h2.trans (h3.mono h2.size))

end Go.Proofs.YtcmmlklanjhfoaaGreatDoor

namespace Go.Proofs.YtcmmlklanjhfoaaGreatDoor
open Go.RowKit


set_option maxRecDepth 100000 in
set_option maxHeartbeats 1000000 in
theorem implInsOk_set_eq (r n places procs : Int) (w : World) (h5 : 1 ≤ procs) (h6 : procs ≤ 4) :
    Calls Tryz.prog 101 #[insV 1 r 0 0 n, .int .i64 places, .int .i64 procs] w fun e w' => e = .returned (.bool (belB r 4 && inB n (-1000000000) 1000000000)) ∧ Below w.heap.size w w' := by
  have he : ∀ wx, (binOp .eql 97 (insV 1 r 0 0 n) (insV 1 r 0 0 n)).run Tryz.prog wx = .ok (.bool true) wx := fun wx => by rw [eql_ins]; simp [insEqB]
  go_enter Tryz.func101, Tryz.ntmps101
  go_wp2_with (go_at_call 85; refine (placeOf_set _ _ _ _ _).mono ?_; rintro e w1 ⟨rfl, hb1⟩)
  have hz1 : w.heap.size < w1.heap.size := by have := hb1.size; simp at this; omega
  have c0 : w1.cell? ⟨w.heap.size, 0, none⟩ = some (.int .i64 1) := by rw [hb1.cell (by simp)]; simp
  have c1 : w1.cell? ⟨w.heap.size, 1, none⟩ = some (.int .i64 r) := by rw [hb1.cell (by simp)]; simp
  have c2 : w1.cell? ⟨w.heap.size, 2, none⟩ = some (.int .i64 0) := by rw [hb1.cell (by simp)]; simp
  have c3 : w1.cell? ⟨w.heap.size, 3, none⟩ = some (.int .i64 0) := by rw [hb1.cell (by simp)]; simp
  have c4 : w1.cell? ⟨w.heap.size, 4, none⟩ = some (.int .i64 n) := by rw [hb1.cell (by simp)]; simp
  first | (go_region_with (first | (go_at_call 160; refine (ins_set _ _ _).mono ?_; rintro e w2 ⟨rfl, hb2⟩; have d0 := hb2.cell (p := ⟨w.heap.size, 0, none⟩) (by simpa using hz1); have d1 := hb2.cell (p := ⟨w.heap.size, 1, none⟩) (by simpa using hz1); have d2 := hb2.cell (p := ⟨w.heap.size, 2, none⟩) (by simpa using hz1); have d3 := hb2.cell (p := ⟨w.heap.size, 3, none⟩) (by simpa using hz1); have d4 := hb2.cell (p := ⟨w.heap.size, 4, none⟩) (by simpa using hz1)) | (go_at_call 117; refine (fits_set _ _ _ _ _).mono ?_; rintro e w3 ⟨rfl, hb3⟩))) | fail
  all_goals
    go_wp2
    go_ret
    exact ⟨rfl, implIns_below3 hb1 hb2 hb3⟩


set_option maxRecDepth 100000 in
set_option maxHeartbeats 1000000 in
theorem implInsOk_set_ne (r a b n places procs : Int) (w : World) (h5 : 1 ≤ procs) (h6 : procs ≤ 4) (hne : insEqB 1 r 0 0 n 1 r a b n = false) :
    Calls Tryz.prog 101 #[insV 1 r a b n, .int .i64 places, .int .i64 procs] w fun e w' => e = .returned (.bool (false)) ∧ Below w.heap.size w w' := by
  have he : ∀ wx, (binOp .eql 97 (insV 1 r 0 0 n) (insV 1 r a b n)).run Tryz.prog wx = .ok (.bool false) wx := fun wx => by rw [eql_ins, hne]
  clear hne
  go_enter Tryz.func101, Tryz.ntmps101
  go_wp2_with (go_at_call 85; refine (placeOf_set _ _ _ _ _).mono ?_; rintro e w1 ⟨rfl, hb1⟩)
  have hz1 : w.heap.size < w1.heap.size := by have := hb1.size; simp at this; omega
  have c0 : w1.cell? ⟨w.heap.size, 0, none⟩ = some (.int .i64 1) := by rw [hb1.cell (by simp)]; simp
  have c1 : w1.cell? ⟨w.heap.size, 1, none⟩ = some (.int .i64 r) := by rw [hb1.cell (by simp)]; simp
  have c2 : w1.cell? ⟨w.heap.size, 2, none⟩ = some (.int .i64 a) := by rw [hb1.cell (by simp)]; simp
  have c3 : w1.cell? ⟨w.heap.size, 3, none⟩ = some (.int .i64 b) := by rw [hb1.cell (by simp)]; simp
  have c4 : w1.cell? ⟨w.heap.size, 4, none⟩ = some (.int .i64 n) := by rw [hb1.cell (by simp)]; simp
  first | (go_region_with (go_at_call 160; refine (ins_set _ _ _).mono ?_; rintro e w2 ⟨rfl, hb2⟩; have d0 := hb2.cell (p := ⟨w.heap.size, 0, none⟩) (by simpa using hz1); have d1 := hb2.cell (p := ⟨w.heap.size, 1, none⟩) (by simpa using hz1); have d2 := hb2.cell (p := ⟨w.heap.size, 2, none⟩) (by simpa using hz1); have d3 := hb2.cell (p := ⟨w.heap.size, 3, none⟩) (by simpa using hz1); have d4 := hb2.cell (p := ⟨w.heap.size, 4, none⟩) (by simpa using hz1))) | fail
  all_goals
    go_wp2
    go_ret
    exact ⟨rfl, implIns_below2 hb1 hb2⟩


set_option maxRecDepth 100000 in
set_option maxHeartbeats 1000000 in
theorem implInsOk_calc_eq (op r a b places procs : Int) (w : World) (h5 : 1 ≤ procs) (h6 : procs ≤ 4) (q1 : 2 ≤ op) (q2 : op ≤ 5) :
    Calls Tryz.prog 101 #[insV op r a b 0, .int .i64 places, .int .i64 procs] w fun e w' => e = .returned (.bool (belB r 4 && belB a 4 && belB b 4)) ∧ Below w.heap.size w w' := by
  have he : ∀ wx, (binOp .eql 97 (insV op r a b 0) (insV op r a b 0)).run Tryz.prog wx = .ok (.bool true) wx := fun wx => by rw [eql_ins]; simp [insEqB]
  go_enter Tryz.func101, Tryz.ntmps101
  go_wp2_with (go_at_call 85; refine (placeOf_calc _ _ _ _ _ _ q1 q2).mono ?_; rintro e w1 ⟨rfl, hb1⟩)
  have hz1 : w.heap.size < w1.heap.size := by have := hb1.size; simp at this; omega
  have c0 : w1.cell? ⟨w.heap.size, 0, none⟩ = some (.int .i64 op) := by rw [hb1.cell (by simp)]; simp
  have c1 : w1.cell? ⟨w.heap.size, 1, none⟩ = some (.int .i64 r) := by rw [hb1.cell (by simp)]; simp
  have c2 : w1.cell? ⟨w.heap.size, 2, none⟩ = some (.int .i64 a) := by rw [hb1.cell (by simp)]; simp
  have c3 : w1.cell? ⟨w.heap.size, 3, none⟩ = some (.int .i64 b) := by rw [hb1.cell (by simp)]; simp
  have c4 : w1.cell? ⟨w.heap.size, 4, none⟩ = some (.int .i64 0) := by rw [hb1.cell (by simp)]; simp
  first | (go_region_with (first | (go_at_call 161; refine (ins_calc _ _ _ _ _).mono ?_; rintro e w2 ⟨rfl, hb2⟩; have d0 := hb2.cell (p := ⟨w.heap.size, 0, none⟩) (by simpa using hz1); have d1 := hb2.cell (p := ⟨w.heap.size, 1, none⟩) (by simpa using hz1); have d2 := hb2.cell (p := ⟨w.heap.size, 2, none⟩) (by simpa using hz1); have d3 := hb2.cell (p := ⟨w.heap.size, 3, none⟩) (by simpa using hz1); have d4 := hb2.cell (p := ⟨w.heap.size, 4, none⟩) (by simpa using hz1)) | (go_at_call 117; refine (fits_calc _ _ _ _ _ _ _).mono ?_; rintro e w3 ⟨rfl, hb3⟩))) | fail
  all_goals
    go_wp2
    go_ret
    exact ⟨rfl, implIns_below3 hb1 hb2 hb3⟩


set_option maxRecDepth 100000 in
set_option maxHeartbeats 1000000 in
theorem implInsOk_calc_ne (op r a b n places procs : Int) (w : World) (h5 : 1 ≤ procs) (h6 : procs ≤ 4) (q1 : 2 ≤ op) (q2 : op ≤ 5) (hne : insEqB op r a b 0 op r a b n = false) :
    Calls Tryz.prog 101 #[insV op r a b n, .int .i64 places, .int .i64 procs] w fun e w' => e = .returned (.bool (false)) ∧ Below w.heap.size w w' := by
  have he : ∀ wx, (binOp .eql 97 (insV op r a b 0) (insV op r a b n)).run Tryz.prog wx = .ok (.bool false) wx := fun wx => by rw [eql_ins, hne]
  clear hne
  go_enter Tryz.func101, Tryz.ntmps101
  go_wp2_with (go_at_call 85; refine (placeOf_calc _ _ _ _ _ _ q1 q2).mono ?_; rintro e w1 ⟨rfl, hb1⟩)
  have hz1 : w.heap.size < w1.heap.size := by have := hb1.size; simp at this; omega
  have c0 : w1.cell? ⟨w.heap.size, 0, none⟩ = some (.int .i64 op) := by rw [hb1.cell (by simp)]; simp
  have c1 : w1.cell? ⟨w.heap.size, 1, none⟩ = some (.int .i64 r) := by rw [hb1.cell (by simp)]; simp
  have c2 : w1.cell? ⟨w.heap.size, 2, none⟩ = some (.int .i64 a) := by rw [hb1.cell (by simp)]; simp
  have c3 : w1.cell? ⟨w.heap.size, 3, none⟩ = some (.int .i64 b) := by rw [hb1.cell (by simp)]; simp
  have c4 : w1.cell? ⟨w.heap.size, 4, none⟩ = some (.int .i64 n) := by rw [hb1.cell (by simp)]; simp
  first | (go_region_with (go_at_call 161; refine (ins_calc _ _ _ _ _).mono ?_; rintro e w2 ⟨rfl, hb2⟩; have d0 := hb2.cell (p := ⟨w.heap.size, 0, none⟩) (by simpa using hz1); have d1 := hb2.cell (p := ⟨w.heap.size, 1, none⟩) (by simpa using hz1); have d2 := hb2.cell (p := ⟨w.heap.size, 2, none⟩) (by simpa using hz1); have d3 := hb2.cell (p := ⟨w.heap.size, 3, none⟩) (by simpa using hz1); have d4 := hb2.cell (p := ⟨w.heap.size, 4, none⟩) (by simpa using hz1))) | fail
  all_goals
    go_wp2
    go_ret
    exact ⟨rfl, implIns_below2 hb1 hb2⟩


set_option maxRecDepth 100000 in
set_option maxHeartbeats 1000000 in
theorem implInsOk_end_eq (places procs : Int) (w : World) (h5 : 1 ≤ procs) (h6 : procs ≤ 4) :
    Calls Tryz.prog 101 #[insV 11 0 0 0 0, .int .i64 places, .int .i64 procs] w fun e w' => e = .returned (.bool (true)) ∧ Below w.heap.size w w' := by
  have he : ∀ wx, (binOp .eql 97 (insV 11 0 0 0 0) (insV 11 0 0 0 0)).run Tryz.prog wx = .ok (.bool true) wx := fun wx => by rw [eql_ins]; simp [insEqB]
  go_enter Tryz.func101, Tryz.ntmps101
  go_wp2_with (go_at_call 85; refine (placeOf_end _ _ _ _ _).mono ?_; rintro e w1 ⟨rfl, hb1⟩)
  have hz1 : w.heap.size < w1.heap.size := by have := hb1.size; simp at this; omega
  have c0 : w1.cell? ⟨w.heap.size, 0, none⟩ = some (.int .i64 11) := by rw [hb1.cell (by simp)]; simp
  have c1 : w1.cell? ⟨w.heap.size, 1, none⟩ = some (.int .i64 0) := by rw [hb1.cell (by simp)]; simp
  have c2 : w1.cell? ⟨w.heap.size, 2, none⟩ = some (.int .i64 0) := by rw [hb1.cell (by simp)]; simp
  have c3 : w1.cell? ⟨w.heap.size, 3, none⟩ = some (.int .i64 0) := by rw [hb1.cell (by simp)]; simp
  have c4 : w1.cell? ⟨w.heap.size, 4, none⟩ = some (.int .i64 0) := by rw [hb1.cell (by simp)]; simp
  first | (go_region_with (first | (go_at_call 164; refine (ins_end _).mono ?_; rintro e w2 ⟨rfl, hb2⟩; have d0 := hb2.cell (p := ⟨w.heap.size, 0, none⟩) (by simpa using hz1); have d1 := hb2.cell (p := ⟨w.heap.size, 1, none⟩) (by simpa using hz1); have d2 := hb2.cell (p := ⟨w.heap.size, 2, none⟩) (by simpa using hz1); have d3 := hb2.cell (p := ⟨w.heap.size, 3, none⟩) (by simpa using hz1); have d4 := hb2.cell (p := ⟨w.heap.size, 4, none⟩) (by simpa using hz1)) | (go_at_call 117; refine (fits_end _ _ _).mono ?_; rintro e w3 ⟨rfl, hb3⟩))) | fail
  all_goals
    go_wp2
    go_ret
    exact ⟨rfl, implIns_below3 hb1 hb2 hb3⟩


set_option maxRecDepth 100000 in
set_option maxHeartbeats 1000000 in
theorem implInsOk_end_ne (r a b n places procs : Int) (w : World) (h5 : 1 ≤ procs) (h6 : procs ≤ 4) (hne : insEqB 11 0 0 0 0 11 r a b n = false) :
    Calls Tryz.prog 101 #[insV 11 r a b n, .int .i64 places, .int .i64 procs] w fun e w' => e = .returned (.bool (false)) ∧ Below w.heap.size w w' := by
  have he : ∀ wx, (binOp .eql 97 (insV 11 0 0 0 0) (insV 11 r a b n)).run Tryz.prog wx = .ok (.bool false) wx := fun wx => by rw [eql_ins, hne]
  clear hne
  go_enter Tryz.func101, Tryz.ntmps101
  go_wp2_with (go_at_call 85; refine (placeOf_end _ _ _ _ _).mono ?_; rintro e w1 ⟨rfl, hb1⟩)
  have hz1 : w.heap.size < w1.heap.size := by have := hb1.size; simp at this; omega
  have c0 : w1.cell? ⟨w.heap.size, 0, none⟩ = some (.int .i64 11) := by rw [hb1.cell (by simp)]; simp
  have c1 : w1.cell? ⟨w.heap.size, 1, none⟩ = some (.int .i64 r) := by rw [hb1.cell (by simp)]; simp
  have c2 : w1.cell? ⟨w.heap.size, 2, none⟩ = some (.int .i64 a) := by rw [hb1.cell (by simp)]; simp
  have c3 : w1.cell? ⟨w.heap.size, 3, none⟩ = some (.int .i64 b) := by rw [hb1.cell (by simp)]; simp
  have c4 : w1.cell? ⟨w.heap.size, 4, none⟩ = some (.int .i64 n) := by rw [hb1.cell (by simp)]; simp
  first | (go_region_with (go_at_call 164; refine (ins_end _).mono ?_; rintro e w2 ⟨rfl, hb2⟩; have d0 := hb2.cell (p := ⟨w.heap.size, 0, none⟩) (by simpa using hz1); have d1 := hb2.cell (p := ⟨w.heap.size, 1, none⟩) (by simpa using hz1); have d2 := hb2.cell (p := ⟨w.heap.size, 2, none⟩) (by simpa using hz1); have d3 := hb2.cell (p := ⟨w.heap.size, 3, none⟩) (by simpa using hz1); have d4 := hb2.cell (p := ⟨w.heap.size, 4, none⟩) (by simpa using hz1))) | fail
  all_goals
    go_wp2
    go_ret
    exact ⟨rfl, implIns_below2 hb1 hb2⟩


end Go.Proofs.YtcmmlklanjhfoaaGreatDoor
