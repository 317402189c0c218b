/- The walks of the program's canCome and settled. -/
import Derived.Test.YtmbmhpginegggaaDiA
import Derived.Test.YtmbmhpginegggaaDoE
namespace Go.Proofs.Ytmbmhpginegggaa
open Go.RowKit

set_option maxHeartbeats 1000000 in
theorem canCome_any (nk np nv k q v : Int) (w : World) :
    Calls Try.prog 66 #[evV nk np nv, evV k q v] w fun e w' => e = .returned (.bool (canB nk np nv k q v)) ∧ Below w.heap.size w w' := by
  have he := fun wx => eql_ev k q v nk np nv wx
  by_cases c1 : nk = 3
  case neg =>
    have c1' : (nk != 3) = true := by simpa using c1
    by_cases c2 : nk = 0
    · subst c2
      have hv : Hid (canB 0 np nv k q v = false) := by simp [Hid, canB]
      go_enter Try.func66, Try.ntmps66
      go_wp2_with (first | (go_at_call 77; refine (isNum_any _ _).mono ?_; rintro e w' ⟨rfl, rfl⟩) | (go_at_call 49; refine (isBelow_any _ _ _).mono ?_; rintro e w' ⟨rfl, rfl⟩))
      refine bodyPost_ret (v := .bool (false)) (by simp [results, Try.results66, go_sem]) rfl ⟨by rw [hv.out], ?_⟩
      go_grown
    · have c2' : (nk != 0) = true := by simpa using c2
      have hv : Hid (canB nk np nv k q v = evEqB k q v nk np nv) := by simp [Hid, canB, evEqB, c1, c2']
      clear c1 c2
      go_enter Try.func66, Try.ntmps66
      go_wp2_with (first | (go_at_call 77; refine (isNum_any _ _).mono ?_; rintro e w' ⟨rfl, rfl⟩) | (go_at_call 49; refine (isBelow_any _ _ _).mono ?_; rintro e w' ⟨rfl, rfl⟩))
      refine bodyPost_ret (v := .bool (evEqB k q v nk np nv)) (by simp [results, Try.results66, go_sem]) rfl ⟨by rw [hv.out], ?_⟩
      go_grown
  subst c1
  by_cases c2 : k = 3
  case neg =>
    have c2' : (k != 3) = true := by simpa using c2
    have hv : Hid (canB 3 np nv k q v = false) := by simp [Hid, canB, c2]
    clear c2
    go_enter Try.func66, Try.ntmps66
    go_wp2_with (first | (go_at_call 77; refine (isNum_any _ _).mono ?_; rintro e w' ⟨rfl, rfl⟩) | (go_at_call 49; refine (isBelow_any _ _ _).mono ?_; rintro e w' ⟨rfl, rfl⟩))
    refine bodyPost_ret (v := .bool (false)) (by simp [results, Try.results66, go_sem]) rfl ⟨by rw [hv.out], ?_⟩
    go_grown
  subst c2
  rcases Bool.eq_false_or_eq_true (numB v) with c3 | c3
  case inr =>
    have hv : Hid (canB 3 np nv 3 q v = false) := by simp [Hid, canB, c3]
    have c3' : inB v (-1000000000) 1000000000 = false := c3
    clear c3
    go_enter Try.func66, Try.ntmps66
    go_wp2_with (first | (go_at_call 77; refine (isNum_any _ _).mono ?_; rintro e w' ⟨rfl, rfl⟩) | (go_at_call 49; refine (isBelow_any _ _ _).mono ?_; rintro e w' ⟨rfl, rfl⟩))
    refine bodyPost_ret (v := .bool (false)) (by simp [results, Try.results66, go_sem]) rfl ⟨by rw [hv.out], ?_⟩
    go_grown
  by_cases c4 : np = 9
  · subst c4
    have hv : Hid (canB 3 9 nv 3 q v = belB q 4) := by simp [Hid, canB, c3]
    have c3' : inB v (-1000000000) 1000000000 = true := c3
    clear c3
    go_enter Try.func66, Try.ntmps66
    go_wp2_with (first | (go_at_call 77; refine (isNum_any _ _).mono ?_; rintro e w' ⟨rfl, rfl⟩) | (go_at_call 49; refine (isBelow_any _ _ _).mono ?_; rintro e w' ⟨rfl, rfl⟩))
    refine bodyPost_ret (v := .bool (belB q 4)) (by simp [results, Try.results66, go_sem]) rfl ⟨by rw [hv.out], ?_⟩
    go_grown
  · have c4' : (np == 9) = false := by simpa using c4
    have hv : Hid (canB 3 np nv 3 q v = (q == np)) := by simp [Hid, canB, c3, c4]
    have c3' : inB v (-1000000000) 1000000000 = true := c3
    clear c3 c4
    go_enter Try.func66, Try.ntmps66
    go_wp2_with (first | (go_at_call 77; refine (isNum_any _ _).mono ?_; rintro e w' ⟨rfl, rfl⟩) | (go_at_call 49; refine (isBelow_any _ _ _).mono ?_; rintro e w' ⟨rfl, rfl⟩))
    refine bodyPost_ret (v := .bool (q == np)) (by simp [results, Try.results66, go_sem]) rfl ⟨by rw [hv.out], ?_⟩
    go_grown

end Go.Proofs.Ytmbmhpginegggaa
