/- The walks of the model's l2Fault and l2Go. -/
import Derived.Test.YtmbmhpginegggaaDoM
import Derived.Test.YtmbmhpginegggaaDoA
import Derived.Test.YtmbmhpginegggaaDrawA
namespace Go.Proofs.Ytmbmhpginegggaa
open Go.RowKit

theorem grown_any {w w' : World} (h : w.grownBy w' none) (row : Option Nat) : w.grownBy w' row := ⟨h.os, h.tape, h.output, h.size, fun k hk _ => h.block k hk (by simp)⟩
theorem OwnI.drewN {w : World} {B : Nat} {v : Value} {xs : List Int} (h : OwnI w B v xs) (n : Nat) : OwnI (w.drewN n) B v xs := h
theorem OwnI.setOther {w : World} {B : Nat} {v : Value} {xs : List Int} (h : OwnI w B v xs) {p : Addr} (hne : v.ownBlock ≠ some p.block) (u : Value) : OwnI (w.setCell p u) B v xs :=
  h.kept (row := some p.block) (grown_setCell (World.grownBy.refl w _) (.inl rfl) u) (.inr hne)
theorem below_alloc (w : World) (o : Obj) : Below w.heap.size w (w.alloc o) := (Below.refl _ _).alloc (Nat.le_refl _) o

set_option maxHeartbeats 400000 in
theorem l2Fault_any (p code : Int) (ra oa : Option Addr) (rn rc on oc : Nat) (w : World) :
    Calls Try.prog 73 #[stV p ra rn rc oa on oc code] w fun e w' => e = .returned (stV p ra rn rc oa on oc 2) ∧ Below w.heap.size w w' := by
  go_enter Try.func73, Try.ntmps73
  go_wp2
  refine bodyPost_ret (v := stV p ra rn rc oa on oc 2) (by simp [results, Try.results73, go_sem]) rfl ⟨rfl, ?_⟩
  go_grown

set_option maxRecDepth 100000 in
set_option maxHeartbeats 1000000 in
theorem l2Go_any (la : Option Addr) (len lc : Nat) (p code : Int) (ra oa : Option Addr) (rn rc on oc : Nat) (w : World) (h0 : 0 ≤ p) (h1 : p ≤ 1000000000) :
    Calls Try.prog 72 #[.slice la len lc, stV p ra rn rc oa on oc code] w fun e w' => e = .returned (stV (goP len p) ra rn rc oa on oc (goC len p code)) ∧ Below w.heap.size w w' := by
  by_cases hp : (len : Int) ≤ p + 1
  · have e1 : goP len p = p := if_pos hp
    have e2 : goC len p code = 2 := if_pos hp
    rw [e1, e2]
    clear e1 e2
    go_enter Try.func72, Try.ntmps72
    go_wp2_with fail
    refine (l2Fault_any _ _ _ _ _ _ _ _ _).mono ?_
    rintro e w1 ⟨rfl, b1⟩
    have B1 : Hid (Below w.heap.size w w1) := below_up (by go_grown) b1 (by simp; omega)
    obtain ⟨hc1, hf1⟩ := bcell b1
    clear b1
    go_wp2
    refine bodyPost_ret (v := stV p ra rn rc oa on oc 2) (by simp [results, Try.results72, go_sem, hc1]) rfl ⟨rfl, ?_⟩
    have := B1.out
    go_grown
  · have e1 : goP len p = p + 1 := if_neg hp
    have e2 : goC len p code = code := if_neg hp
    rw [e1, e2]
    clear e1 e2
    go_enter Try.func72, Try.ntmps72
    go_wp2
    refine bodyPost_ret (v := stV (p + 1) ra rn rc oa on oc code) (by simp [results, Try.results72, go_sem]) rfl ⟨rfl, ?_⟩
    go_grown

end Go.Proofs.Ytmbmhpginegggaa
