/- The walks of the model's WayOf and of the program's, of any system. -/
import Derived.Test.YtbleeedbiipfnaaGreatDoorWc0
import Derived.Test.YtbleeedbiipfnaaGreatDoorWc44
import Derived.Test.YtbleeedbiipfnaaGreatDoorWc33
namespace Go.Proofs.YtbleeedbiipfnaaGreatDoor
set_option maxRecDepth 100000
set_option maxHeartbeats 2000000
open Go.ChangeShapes Go.WideShapes Go.ChangeAt Go.RowKit Go.Deep
variable {z : Bool}
theorem itL_ow {w : World} {B n c : Nat} {a : Option Addr} {g : Nat → I2} (o : w.ownsRow B 75 2 (.slice a n c) n (fT g n)) (hne : Value.slice a n c ≠ .slice none 0 0) : ItL w a n g := by
 obtain ⟨b, cap, e, hb, hI, -⟩ := atT o hne
 cases e
 exact .inr ⟨b, 0, rfl, hb, hI⟩
theorem specWayOf_g (x : SysIn) (a b : Int) (w : World) (hG : SysG w x) (hL : x.Len) (hN : x.Nn z) :
  Calls Tryz.prog 12 #[x.v, .int .i64 a, .int .i64 b] w fun e w' => ∃ u c, e = .returned (.slice u (wayN x a b) c) ∧ ItL w' u (wayN x a b) (wayH x a b) ∧ Below w.heap.size w w' := by
 have HG : Hid (SysG w x) := hG
 have HL : Hid x.Len := hL
 have HNn : Hid (x.Nn z) := hN
 have hpn : (x.pn : Int) ≤ 1048576 := by have := hL.p.1; omega
 have hwn : (x.wn : Int) ≤ 1048576 := by have := hL.w.1; omega
 clear hG hL hN
 by_cases tA : inB a 0 ((x.pn : Int) - 1) = true
 ·by_cases tB : inB b 0 ((x.pn : Int) - 1) = true
  ·have hA : 0 ≤ a ∧ a ≤ (x.pn : Int) - 1 := by
    simp only [inB, decide_eq_true_eq] at tA
    omega
   have hB : 0 ≤ b ∧ b ≤ (x.pn : Int) - 1 := by
    simp only [inB, decide_eq_true_eq] at tB
    omega
   have hm1 : 0 ≤ a * (x.pn : Int) := Int.mul_nonneg hA.1 (by omega)
   have hm2 : a * (x.pn : Int) ≤ 1099511627776 := by
    have := Int.mul_le_mul (show a ≤ 1048576 by omega) hpn (by omega) (by omega)
    omega
   have HAB : Hid ((0 ≤ a ∧ a ≤ (x.pn : Int) - 1) ∧ (0 ≤ b ∧ b ≤ (x.pn : Int) - 1)) := ⟨hA, hB⟩
   have hb0 := hB.1
   have hb1 : b ≤ 1048576 := by omega
   have ha0 := hA.1
   have ha1 : a ≤ 1048576 := by omega
   clear hA hB
   by_cases tC : a * (x.pn : Int) + b < (x.wn : Int)
   ·generalize hJ : (a * (x.pn : Int) + b).toNat = J
    have hJ' : a * (x.pn : Int) + b = (J : Int) := by omega
    have hJn : J < x.wn := by omega
    have HN : Hid (wayN x a b = x.wL J ∧ wayH x a b = x.wH J) := by
     refine ⟨?_, ?_⟩
     ·show wayN x a b = x.wL J
      unfold wayN
      rw [if_pos, hJ]
      have := HAB.out
      simp only [wayB, belB, Bool.and_eq_true, decide_eq_true_eq]
      omega
     ·show wayH x a b = x.wH J
      unfold wayH
      rw [hJ]
    have HLJ : Hid (x.wL J ≤ 1048576) := HL.out.w.2 J hJn
    obtain ⟨bw, ow, ew, ck⟩ := HG.out.w.at hJn
    have hbl : bw < w.heap.size := World.block_lt_of_cell? w _ ck
    have nC : ¬ (x.wn : Int) ≤ (J : Int) := by omega
    have HJ : Hid (a * (x.pn : Int) + b = (J : Int)) := hJ'
    have bJ0 : (0 : Int) ≤ a * (x.pn : Int) + b := by omega
    have bJ1 : a * (x.pn : Int) + b ≤ 1099512676352 := by omega
    clear hJ'
    rw [show x.v = sysV x.pa x.pn x.pc x.sa x.sn x.sc x.wa x.wn x.wc x.ha x.hn x.hc from rfl, ew]
    have HS : Hid (Src (w.alloc (oQ4 x.pa x.pn x.pc x.sa x.sn x.sc (some ⟨bw, ow, none⟩) x.wn x.wc x.ha x.hn x.hc)) (x.wA J) (fT (x.wH J) (x.wL J))) := (srcT (HG.out.wi J hJn)).below (below_allocL _ _)
    go_enter Tryz.func12, Tryz.ntmps12
    go_wp2_with fail
    refine (l1In_any _ _ _ _).mono ?_
    rintro e w1 ⟨rfl, rfl⟩
    rw [tA]
    go_wp2_with fail
    refine (l1In_any _ _ _ _).mono ?_
    rintro e w1 ⟨rfl, rfl⟩
    rw [tB]
    go_wp2_with (at_builtin; refine step_append_srcN kndT (w.alloc (oQ4 x.pa x.pn x.pc x.sa x.sn x.sc (some ⟨bw, ow, none⟩) x.wn x.wc x.ha x.hn x.hc)) (N := w.heap.size + 1) (by simp) rfl _ _ rfl (x.wA J) (x.wL J) (x.wC J) (fT (x.wH J) (x.wL J)) rfl rfl (fT_len _ _) HS.out (fT_one _ _) (Nat.le_trans HLJ.out (by omega)) ?_; intro v4 w4 o4 b4 n4; obtain ⟨a4, c4, rfl⟩ := ownsRow_slice o4; have F4 : Hid (ItL w4 a4 (x.wL J) (x.wH J) ∧ Below w.heap.size w w4) := ⟨itL_ow o4 n4, (below_allocL _ _).trans (b4.mono (by simp))⟩; clear o4 b4 n4)
    go_ret
    rw [HN.out.1, HN.out.2]
    exact ⟨_, _, rfl, F4.out⟩
   ·have HN : Hid (wayN x a b = 0) := by
     show wayN x a b = 0
     unfold wayN
     rw [if_neg]
     simp only [wayB, Bool.and_eq_true, decide_eq_true_eq]
     exact fun h => tC h.2
    have nC : (x.wn : Int) ≤ a * (x.pn : Int) + b := by omega
    have bJ0 : (0 : Int) ≤ a * (x.pn : Int) + b := by omega
    have bJ1 : a * (x.pn : Int) + b ≤ 1099512676352 := by omega
    go_enter Tryz.func12, Tryz.ntmps12
    go_wp2_with fail
    refine (l1In_any _ _ _ _).mono ?_
    rintro e w1 ⟨rfl, rfl⟩
    rw [tA]
    go_wp2_with fail
    refine (l1In_any _ _ _ _).mono ?_
    rintro e w1 ⟨rfl, rfl⟩
    rw [tB]
    go_wp2
    refine bodyPost_ret (v := .slice (some ⟨w.heap.size + 1, 0, none⟩) 0 0) (by simp [results, Tryz.results12, go_sem]) rfl ?_
    rw [HN.out]
    exact ⟨_, _, rfl, .inl rfl, by go_grown⟩
  ·rw [Bool.not_eq_true] at tB
   have HN : Hid (wayN x a b = 0) := by
    show wayN x a b = 0
    unfold wayN
    rw [if_neg]
    simp only [wayB, belB, Bool.and_eq_true, decide_eq_true_eq]
    simp only [inB, decide_eq_false_iff_not] at tB
    omega
   go_enter Tryz.func12, Tryz.ntmps12
   go_wp2_with fail
   refine (l1In_any _ _ _ _).mono ?_
   rintro e w1 ⟨rfl, rfl⟩
   rw [tA]
   go_wp2_with fail
   refine (l1In_any _ _ _ _).mono ?_
   rintro e w1 ⟨rfl, rfl⟩
   rw [tB]
   go_wp2
   refine bodyPost_ret (v := .slice (some ⟨w.heap.size + 1, 0, none⟩) 0 0) (by simp [results, Tryz.results12, go_sem]) rfl ?_
   rw [HN.out]
   exact ⟨_, _, rfl, .inl rfl, by go_grown⟩
 ·rw [Bool.not_eq_true] at tA
  have HN : Hid (wayN x a b = 0) := by
   show wayN x a b = 0
   unfold wayN
   rw [if_neg]
   simp only [wayB, belB, Bool.and_eq_true, decide_eq_true_eq]
   simp only [inB, decide_eq_false_iff_not] at tA
   omega
  go_enter Tryz.func12, Tryz.ntmps12
  go_wp2_with fail
  refine (l1In_any _ _ _ _).mono ?_
  rintro e w1 ⟨rfl, rfl⟩
  rw [tA]
  go_wp2
  refine bodyPost_ret (v := .slice (some ⟨w.heap.size + 1, 0, none⟩) 0 0) (by simp [results, Tryz.results12, go_sem]) rfl ?_
  rw [HN.out]
  exact ⟨_, _, rfl, .inl rfl, by go_grown⟩
theorem implWayOf_g (x : SysIn) (a b : Int) (w : World) (hG : SysG w x) (hL : x.Len) (hN : x.Nn z) :
  Calls Tryz.prog 11 #[x.v, .int .i64 a, .int .i64 b] w fun e w' => ∃ u c, e = .returned (.slice u (wayN x a b) c) ∧ ItL w' u (wayN x a b) (wayH x a b) ∧ Below w.heap.size w w' := by
 have HG : Hid (SysG w x) := hG
 have HL : Hid x.Len := hL
 have HNn : Hid (x.Nn z) := hN
 have hpn : (x.pn : Int) ≤ 1048576 := by have := hL.p.1; omega
 have hwn : (x.wn : Int) ≤ 1048576 := by have := hL.w.1; omega
 clear hG hL hN
 by_cases tA : belB a x.pn = true
 ·by_cases tB : belB b x.pn = true
  ·have hA : 0 ≤ a ∧ a ≤ (x.pn : Int) - 1 := by
    simp only [belB, decide_eq_true_eq] at tA
    omega
   have hB : 0 ≤ b ∧ b ≤ (x.pn : Int) - 1 := by
    simp only [belB, decide_eq_true_eq] at tB
    omega
   have hm1 : 0 ≤ a * (x.pn : Int) := Int.mul_nonneg hA.1 (by omega)
   have hm2 : a * (x.pn : Int) ≤ 1099511627776 := by
    have := Int.mul_le_mul (show a ≤ 1048576 by omega) hpn (by omega) (by omega)
    omega
   have HAB : Hid ((0 ≤ a ∧ a ≤ (x.pn : Int) - 1) ∧ (0 ≤ b ∧ b ≤ (x.pn : Int) - 1)) := ⟨hA, hB⟩
   have hb0 := hB.1
   have hb1 : b ≤ 1048576 := by omega
   have ha0 := hA.1
   have ha1 : a ≤ 1048576 := by omega
   clear hA hB
   by_cases tC : a * (x.pn : Int) + b < (x.wn : Int)
   ·generalize hJ : (a * (x.pn : Int) + b).toNat = J
    have hJ' : a * (x.pn : Int) + b = (J : Int) := by omega
    have hJn : J < x.wn := by omega
    have HN : Hid (wayN x a b = x.wL J ∧ wayH x a b = x.wH J) := by
     refine ⟨?_, ?_⟩
     ·show wayN x a b = x.wL J
      unfold wayN
      rw [if_pos, hJ]
      have := HAB.out
      simp only [wayB, belB, Bool.and_eq_true, decide_eq_true_eq]
      omega
     ·show wayH x a b = x.wH J
      unfold wayH
      rw [hJ]
    have HLJ : Hid (x.wL J ≤ 1048576) := HL.out.w.2 J hJn
    obtain ⟨bw, ow, ew, ck⟩ := HG.out.w.at hJn
    have hbl : bw < w.heap.size := World.block_lt_of_cell? w _ ck
    have nC : ¬ (x.wn : Int) ≤ (J : Int) := by omega
    have HJ : Hid (a * (x.pn : Int) + b = (J : Int)) := hJ'
    have bJ0 : (0 : Int) ≤ a * (x.pn : Int) + b := by omega
    have bJ1 : a * (x.pn : Int) + b ≤ 1099512676352 := by omega
    clear hJ'
    rw [show x.v = sysV x.pa x.pn x.pc x.sa x.sn x.sc x.wa x.wn x.wc x.ha x.hn x.hc from rfl, ew]
    have HS : Hid (Src (w.alloc (oQ4 x.pa x.pn x.pc x.sa x.sn x.sc (some ⟨bw, ow, none⟩) x.wn x.wc x.ha x.hn x.hc)) (x.wA J) (fT (x.wH J) (x.wL J))) := (srcT (HG.out.wi J hJn)).below (below_allocL _ _)
    have tC' : belB (a * (x.pn : Int) + b) x.wn = true := by simp only [belB, decide_eq_true_eq]; omega
    rcases HNn.out.w J hJn with ⟨bj, oj, ej⟩ | ⟨-, ej, lj, cj⟩
    ·rw [ej] at ck HS
     go_enter Tryz.func11, Tryz.ntmps11
     go_wp2_with fail
     refine (isBelow_any _ _ _).mono ?_
     rintro e w1 ⟨rfl, rfl⟩
     rw [tA]
     go_wp2_with fail
     refine (isBelow_any _ _ _).mono ?_
     rintro e w1 ⟨rfl, rfl⟩
     rw [tB]
     go_wp2_with fail
     refine (isBelow_any _ _ _).mono ?_
     rintro e w1 ⟨rfl, rfl⟩
     rw [tC']
     go_wp2_with fail
     refine (cloneItem_own bj oj (x.wL J) (x.wC J) (x.wH J) _ HLJ.out HS.out).mono ?_
     rintro e w4 ⟨a4, c4, rfl, o4, n4, b4⟩
     have F4 : Hid (ItL w4 a4 (x.wL J) (x.wH J) ∧ Below w.heap.size w w4) := ⟨itL_ow o4 n4, (below_allocL _ _).trans (b4.mono (by simp))⟩
     clear o4 b4 n4
     go_wp2
     go_ret
     rw [HN.out.1, HN.out.2]
     exact ⟨_, _, rfl, F4.out⟩
    ·rw [ej, lj, cj] at ck
     clear HS
     have HN0 : Hid (wayN x a b = 0) := HN.out.1.trans lj
     clear HN
     go_enter Tryz.func11, Tryz.ntmps11
     go_wp2_with fail
     refine (isBelow_any _ _ _).mono ?_
     rintro e w1 ⟨rfl, rfl⟩
     rw [tA]
     go_wp2_with fail
     refine (isBelow_any _ _ _).mono ?_
     rintro e w1 ⟨rfl, rfl⟩
     rw [tB]
     go_wp2_with fail
     refine (isBelow_any _ _ _).mono ?_
     rintro e w1 ⟨rfl, rfl⟩
     rw [tC']
     go_wp2_with fail
     refine (cloneItem_none _).mono ?_
     rintro e w4 ⟨rfl, b4⟩
     have F4 : Hid (Below w.heap.size w w4) := (below_allocL _ _).trans (b4.mono (by simp))
     clear b4
     go_wp2
     go_ret
     rw [HN0.out]
     exact ⟨_, _, rfl, .inl rfl, F4.out⟩
   ·have HN : Hid (wayN x a b = 0) := by
     show wayN x a b = 0
     unfold wayN
     rw [if_neg]
     simp only [wayB, Bool.and_eq_true, decide_eq_true_eq]
     exact fun h => tC h.2
    have nC : (x.wn : Int) ≤ a * (x.pn : Int) + b := by omega
    have bJ0 : (0 : Int) ≤ a * (x.pn : Int) + b := by omega
    have bJ1 : a * (x.pn : Int) + b ≤ 1099512676352 := by omega
    have tC' : belB (a * (x.pn : Int) + b) x.wn = false := by simp only [belB, decide_eq_false_iff_not]; omega
    go_enter Tryz.func11, Tryz.ntmps11
    go_wp2_with fail
    refine (isBelow_any _ _ _).mono ?_
    rintro e w1 ⟨rfl, rfl⟩
    rw [tA]
    go_wp2_with fail
    refine (isBelow_any _ _ _).mono ?_
    rintro e w1 ⟨rfl, rfl⟩
    rw [tB]
    go_wp2_with fail
    refine (isBelow_any _ _ _).mono ?_
    rintro e w1 ⟨rfl, rfl⟩
    rw [tC']
    go_wp2
    refine bodyPost_ret (v := .slice (some ⟨w.heap.size + 1, 0, none⟩) 0 0) (by simp [results, Tryz.results11, go_sem]) rfl ?_
    rw [HN.out]
    exact ⟨_, _, rfl, .inl rfl, by go_grown⟩
  ·rw [Bool.not_eq_true] at tB
   have HN : Hid (wayN x a b = 0) := by
    show wayN x a b = 0
    unfold wayN
    rw [if_neg]
    simp only [wayB, belB, Bool.and_eq_true, decide_eq_true_eq]
    simp only [belB, decide_eq_false_iff_not] at tB
    omega
   go_enter Tryz.func11, Tryz.ntmps11
   go_wp2_with fail
   refine (isBelow_any _ _ _).mono ?_
   rintro e w1 ⟨rfl, rfl⟩
   rw [tA]
   go_wp2_with fail
   refine (isBelow_any _ _ _).mono ?_
   rintro e w1 ⟨rfl, rfl⟩
   rw [tB]
   go_wp2
   refine bodyPost_ret (v := .slice (some ⟨w.heap.size + 1, 0, none⟩) 0 0) (by simp [results, Tryz.results11, go_sem]) rfl ?_
   rw [HN.out]
   exact ⟨_, _, rfl, .inl rfl, by go_grown⟩
 ·rw [Bool.not_eq_true] at tA
  have HN : Hid (wayN x a b = 0) := by
   show wayN x a b = 0
   unfold wayN
   rw [if_neg]
   simp only [wayB, belB, Bool.and_eq_true, decide_eq_true_eq]
   simp only [belB, decide_eq_false_iff_not] at tA
   omega
  go_enter Tryz.func11, Tryz.ntmps11
  go_wp2_with fail
  refine (isBelow_any _ _ _).mono ?_
  rintro e w1 ⟨rfl, rfl⟩
  rw [tA]
  go_wp2
  refine bodyPost_ret (v := .slice (some ⟨w.heap.size + 1, 0, none⟩) 0 0) (by simp [results, Tryz.results11, go_sem]) rfl ?_
  rw [HN.out]
  exact ⟨_, _, rfl, .inl rfl, by go_grown⟩
end Go.Proofs.YtbleeedbiipfnaaGreatDoor
