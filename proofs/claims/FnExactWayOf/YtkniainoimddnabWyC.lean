/- The walks of the model's WayOf and of the program's. -/
import Derived.Test.YtkniainoimddnabWyB
namespace Go.Proofs.Ytkniainoimddnab
open Go.ChangeShapes Go.WideShapes Go.ChangeAt Go.RowKit Go.Deep

/-- Is there a way from a to b? -/
def wayB (n wn : Nat) (a b : Int) : Bool := belB a n && belB b n && decide (a * n + b < wn)
/-- How many items it has, and which. -/
def wayN (x : SysIn) (a b : Int) : Nat := if wayB x.pn x.wn a b = true then x.wL (a * x.pn + b).toNat else 0
def wayH (x : SysIn) (a b : Int) : Nat → I2 := x.wH (a * x.pn + b).toNat

set_option maxRecDepth 100000 in
set_option maxHeartbeats 2000000 in
theorem specWayOf_any (x : SysIn) (lo hi : Nat) (v : Value) (a b : Int) (w : World) (hs : x.size ≤ 1048576) (o : IsSys w lo hi x v) :
    Calls Try.prog 6 #[v, .int .i64 a, .int .i64 b] w fun e w' => ∃ u, e = .returned u ∧ OwnT w' w.heap.size u (wayN x a b) (wayH x a b) ∧ Below w.heap.size w w' := by
  obtain ⟨D1, D2, D3, D4, b1, vs, b3, b4, h1, h2, h3, o⟩ := o
  have HS : Hid (x.size ≤ 1048576) := hs
  obtain ⟨rfl, -, -, w1, -, -, -, -, -⟩ := o
  have W1 : Hid (OutItem w D3 h3 x.wn x.wL b3 x.wH) := w1
  have hpn : (x.pn : Int) ≤ 1048576 := by have := (SysIn.lens hs).1.1; omega
  have hwn : (x.wn : Int) ≤ 1048576 := by have := (SysIn.lens hs).2.2.1.1; omega
  clear w1 hs
  by_cases tA : inB a 0 ((x.pn : Int) - 1) = true
  · by_cases tB : inB b 0 ((x.pn : Int) - 1) = true
    · have hA : 0 ≤ a ∧ a ≤ (x.pn : Int) - 1 := by
        simp only [inB, decide_eq_true_eq] at tA
        omega
      have hB : 0 ≤ b ∧ b ≤ (x.pn : Int) - 1 := by
        simp only [inB, decide_eq_true_eq] at tB
        omega
      have hm1 : 0 ≤ a * (x.pn : Int) := Int.mul_nonneg hA.1 (by omega)
      have hm2 : a * (x.pn : Int) ≤ 1099511627776 := by
        have := Int.mul_le_mul (show a ≤ 1048576 by omega) hpn (by omega) (by omega)
        omega
      have HAB : Hid ((0 ≤ a ∧ a ≤ (x.pn : Int) - 1) ∧ (0 ≤ b ∧ b ≤ (x.pn : Int) - 1)) := ⟨hA, hB⟩
      have hb0 := hB.1
      have hb1 : b ≤ 1048576 := by omega
      have ha0 := hA.1
      have ha1 : a ≤ 1048576 := by omega
      clear hA hB
      by_cases tC : a * (x.pn : Int) + b < (x.wn : Int)
      · generalize hJ : (a * (x.pn : Int) + b).toNat = J
        have hJ' : a * (x.pn : Int) + b = (J : Int) := by omega
        have hJn : J < x.wn := by omega
        have HN : Hid (wayN x a b = x.wL J ∧ wayH x a b = x.wH J) := by
          refine ⟨?_, ?_⟩
          · show wayN x a b = x.wL J
            unfold wayN
            rw [if_pos, hJ]
            have := HAB.out
            simp only [wayB, belB, Bool.and_eq_true, decide_eq_true_eq]
            omega
          · show wayH x a b = x.wH J
            unfold wayH
            rw [hJ]
        have HL : Hid (x.wL J ≤ 1048576) := sum_le (SysIn.lens HS.out).2.2.1.2 J hJn
        have ck := W1.out.cel J hJn
        have hD : D3 < w.heap.size := Nat.lt_of_lt_of_le W1.out.lt W1.out.le
        have nC : ¬ (x.wn : Int) ≤ (J : Int) := by omega
        have HJ : Hid (a * (x.pn : Int) + b = (J : Int)) := hJ'
        have bJ0 : (0 : Int) ≤ a * (x.pn : Int) + b := by omega
        have bJ1 : a * (x.pn : Int) + b ≤ 1099512676352 := by omega
        clear hJ'
        have HIx : Hid (ItAt (w.alloc (.cells #[.slice (some ⟨D1, 0, none⟩) x.pn x.pn, .slice (some ⟨D2, 0, none⟩) x.sn x.sn, .slice (some ⟨D3, 0, none⟩) x.wn x.wn, .slice (some ⟨D4, 0, none⟩) x.hn x.hn] 36)) (b3 J) 0 (x.wL J) (x.wH J)) := (W1.out.row J hJn).below (below_allocS _ _) (Nat.lt_of_lt_of_le (W1.out.bd J hJn).2 W1.out.le)
        have HLt : Hid (b3 J < (w.alloc (.cells #[.slice (some ⟨D1, 0, none⟩) x.pn x.pn, .slice (some ⟨D2, 0, none⟩) x.sn x.sn, .slice (some ⟨D3, 0, none⟩) x.wn x.wn, .slice (some ⟨D4, 0, none⟩) x.hn x.hn] 36)).heap.size) := by
          show b3 J < (w.alloc (.cells #[.slice (some ⟨D1, 0, none⟩) x.pn x.pn, .slice (some ⟨D2, 0, none⟩) x.sn x.sn, .slice (some ⟨D3, 0, none⟩) x.wn x.wn, .slice (some ⟨D4, 0, none⟩) x.hn x.hn] 36)).heap.size
          have := (W1.out.bd J hJn).2
          have := W1.out.le
          simp
          omega
        go_enter Try.func6, Try.ntmps6
        go_wp2_with fail
        refine (l1In_any _ _ _ _).mono ?_
        rintro e w1 ⟨rfl, rfl⟩
        rw [tA]
        go_wp2_with fail
        refine (l1In_any _ _ _ _).mono ?_
        rintro e w1 ⟨rfl, rfl⟩
        rw [tB]
        go_wp2_with (at_builtin; refine append_items (w.alloc (.cells #[.slice (some ⟨D1, 0, none⟩) x.pn x.pn, .slice (some ⟨D2, 0, none⟩) x.sn x.sn, .slice (some ⟨D3, 0, none⟩) x.wn x.wn, .slice (some ⟨D4, 0, none⟩) x.hn x.hn] 36)) (N := w.heap.size + 1) (by simp) rfl _ _ rfl (b3 J) 0 (x.wL J) (x.wL J) (x.wH J) rfl rfl HLt.out HIx.out HL.out ?_; intro v' w4 o4 b4; have HF : Hid (OwnT w4 (w.heap.size + 1) v' (x.wL J) (x.wH J) ∧ Below w.heap.size w w4) := ⟨by simpa using o4, (below_allocS _ _).trans (b4.mono (by simp))⟩; clear o4 b4)
        go_ret
        rw [HN.out.1, HN.out.2]
        obtain ⟨g, cap, e, q1, q2⟩ := HF.out.1
        exact ⟨_, rfl, ⟨g, cap, e, by omega, q2⟩, HF.out.2⟩
      · have HN : Hid (wayN x a b = 0) := by
          show wayN x a b = 0
          unfold wayN
          rw [if_neg]
          simp only [wayB, Bool.and_eq_true, decide_eq_true_eq]
          exact fun h => tC h.2
        have nC : (x.wn : Int) ≤ a * (x.pn : Int) + b := by omega
        have bJ0 : (0 : Int) ≤ a * (x.pn : Int) + b := by omega
        have bJ1 : a * (x.pn : Int) + b ≤ 1099512676352 := by omega
        go_enter Try.func6, Try.ntmps6
        go_wp2_with fail
        refine (l1In_any _ _ _ _).mono ?_
        rintro e w1 ⟨rfl, rfl⟩
        rw [tA]
        go_wp2_with fail
        refine (l1In_any _ _ _ _).mono ?_
        rintro e w1 ⟨rfl, rfl⟩
        rw [tB]
        go_wp2
        refine bodyPost_ret (v := .slice (some ⟨w.heap.size + 1, 0, none⟩) 0 0) (by simp [results, Try.results6, go_sem]) rfl ⟨_, rfl, ?_, by go_grown⟩
        rw [HN.out]
        have hq := own_items0 (w.alloc (.cells #[.slice (some ⟨D1, 0, none⟩) x.pn x.pn, .slice (some ⟨D2, 0, none⟩) x.sn x.sn, .slice (some ⟨D3, 0, none⟩) x.wn x.wn, .slice (some ⟨D4, 0, none⟩) x.hn x.hn] 36)) (wayH x a b)
        rw [World.size_alloc] at hq
        obtain ⟨g, cap, e, q1, q2⟩ := hq
        exact ⟨g, cap, e, by omega, q2⟩
    · rw [Bool.not_eq_true] at tB
      have HN : Hid (wayN x a b = 0) := by
        show wayN x a b = 0
        unfold wayN
        rw [if_neg]
        simp only [wayB, belB, Bool.and_eq_true, decide_eq_true_eq]
        simp only [inB, decide_eq_false_iff_not] at tB
        omega
      go_enter Try.func6, Try.ntmps6
      go_wp2_with fail
      refine (l1In_any _ _ _ _).mono ?_
      rintro e w1 ⟨rfl, rfl⟩
      rw [tA]
      go_wp2_with fail
      refine (l1In_any _ _ _ _).mono ?_
      rintro e w1 ⟨rfl, rfl⟩
      rw [tB]
      go_wp2
      refine bodyPost_ret (v := .slice (some ⟨w.heap.size + 1, 0, none⟩) 0 0) (by simp [results, Try.results6, go_sem]) rfl ⟨_, rfl, ?_, by go_grown⟩
      rw [HN.out]
      have hq := own_items0 (w.alloc (.cells #[.slice (some ⟨D1, 0, none⟩) x.pn x.pn, .slice (some ⟨D2, 0, none⟩) x.sn x.sn, .slice (some ⟨D3, 0, none⟩) x.wn x.wn, .slice (some ⟨D4, 0, none⟩) x.hn x.hn] 36)) (wayH x a b)
      rw [World.size_alloc] at hq
      obtain ⟨g, cap, e, q1, q2⟩ := hq
      exact ⟨g, cap, e, by omega, q2⟩
  · rw [Bool.not_eq_true] at tA
    have HN : Hid (wayN x a b = 0) := by
      show wayN x a b = 0
      unfold wayN
      rw [if_neg]
      simp only [wayB, belB, Bool.and_eq_true, decide_eq_true_eq]
      simp only [inB, decide_eq_false_iff_not] at tA
      omega
    go_enter Try.func6, Try.ntmps6
    go_wp2_with fail
    refine (l1In_any _ _ _ _).mono ?_
    rintro e w1 ⟨rfl, rfl⟩
    rw [tA]
    go_wp2
    refine bodyPost_ret (v := .slice (some ⟨w.heap.size + 1, 0, none⟩) 0 0) (by simp [results, Try.results6, go_sem]) rfl ⟨_, rfl, ?_, by go_grown⟩
    rw [HN.out]
    have hq := own_items0 (w.alloc (.cells #[.slice (some ⟨D1, 0, none⟩) x.pn x.pn, .slice (some ⟨D2, 0, none⟩) x.sn x.sn, .slice (some ⟨D3, 0, none⟩) x.wn x.wn, .slice (some ⟨D4, 0, none⟩) x.hn x.hn] 36)) (wayH x a b)
    rw [World.size_alloc] at hq
    obtain ⟨g, cap, e, q1, q2⟩ := hq
    exact ⟨g, cap, e, by omega, q2⟩

set_option maxRecDepth 100000 in
set_option maxHeartbeats 2000000 in
theorem implWayOf_any (x : SysIn) (lo hi : Nat) (v : Value) (a b : Int) (w : World) (hs : x.size ≤ 1048576) (o : IsSys w lo hi x v) :
    Calls Try.prog 8 #[v, .int .i64 a, .int .i64 b] w fun e w' => ∃ u, e = .returned u ∧ OwnT w' w.heap.size u (wayN x a b) (wayH x a b) ∧ Below w.heap.size w w' := by
  obtain ⟨D1, D2, D3, D4, b1, vs, b3, b4, h1, h2, h3, o⟩ := o
  have HS : Hid (x.size ≤ 1048576) := hs
  obtain ⟨rfl, -, -, w1, -, -, -, -, -⟩ := o
  have W1 : Hid (OutItem w D3 h3 x.wn x.wL b3 x.wH) := w1
  have hpn : (x.pn : Int) ≤ 1048576 := by have := (SysIn.lens hs).1.1; omega
  have hwn : (x.wn : Int) ≤ 1048576 := by have := (SysIn.lens hs).2.2.1.1; omega
  clear w1 hs
  by_cases tA : belB a x.pn = true
  · by_cases tB : belB b x.pn = true
    · have hA : 0 ≤ a ∧ a ≤ (x.pn : Int) - 1 := by
        simp only [belB, decide_eq_true_eq] at tA
        omega
      have hB : 0 ≤ b ∧ b ≤ (x.pn : Int) - 1 := by
        simp only [belB, decide_eq_true_eq] at tB
        omega
      have hm1 : 0 ≤ a * (x.pn : Int) := Int.mul_nonneg hA.1 (by omega)
      have hm2 : a * (x.pn : Int) ≤ 1099511627776 := by
        have := Int.mul_le_mul (show a ≤ 1048576 by omega) hpn (by omega) (by omega)
        omega
      have HAB : Hid ((0 ≤ a ∧ a ≤ (x.pn : Int) - 1) ∧ (0 ≤ b ∧ b ≤ (x.pn : Int) - 1)) := ⟨hA, hB⟩
      have hb0 := hB.1
      have hb1 : b ≤ 1048576 := by omega
      have ha0 := hA.1
      have ha1 : a ≤ 1048576 := by omega
      clear hA hB
      by_cases tC : a * (x.pn : Int) + b < (x.wn : Int)
      · generalize hJ : (a * (x.pn : Int) + b).toNat = J
        have hJ' : a * (x.pn : Int) + b = (J : Int) := by omega
        have hJn : J < x.wn := by omega
        have HN : Hid (wayN x a b = x.wL J ∧ wayH x a b = x.wH J) := by
          refine ⟨?_, ?_⟩
          · show wayN x a b = x.wL J
            unfold wayN
            rw [if_pos, hJ]
            have := HAB.out
            simp only [wayB, belB, Bool.and_eq_true, decide_eq_true_eq]
            omega
          · show wayH x a b = x.wH J
            unfold wayH
            rw [hJ]
        have HL : Hid (x.wL J ≤ 1048576) := sum_le (SysIn.lens HS.out).2.2.1.2 J hJn
        have ck := W1.out.cel J hJn
        have hD : D3 < w.heap.size := Nat.lt_of_lt_of_le W1.out.lt W1.out.le
        have nC : ¬ (x.wn : Int) ≤ (J : Int) := by omega
        have HJ : Hid (a * (x.pn : Int) + b = (J : Int)) := hJ'
        have bJ0 : (0 : Int) ≤ a * (x.pn : Int) + b := by omega
        have bJ1 : a * (x.pn : Int) + b ≤ 1099512676352 := by omega
        clear hJ'
        have HIx : Hid (ItAt (w.alloc (.cells #[.slice (some ⟨D1, 0, none⟩) x.pn x.pn, .slice (some ⟨D2, 0, none⟩) x.sn x.sn, .slice (some ⟨D3, 0, none⟩) x.wn x.wn, .slice (some ⟨D4, 0, none⟩) x.hn x.hn] 36)) (b3 J) 0 (x.wL J) (x.wH J)) := (W1.out.row J hJn).below (below_allocS _ _) (Nat.lt_of_lt_of_le (W1.out.bd J hJn).2 W1.out.le)
        have HLt : Hid (b3 J < (w.alloc (.cells #[.slice (some ⟨D1, 0, none⟩) x.pn x.pn, .slice (some ⟨D2, 0, none⟩) x.sn x.sn, .slice (some ⟨D3, 0, none⟩) x.wn x.wn, .slice (some ⟨D4, 0, none⟩) x.hn x.hn] 36)).heap.size) := by
          show b3 J < (w.alloc (.cells #[.slice (some ⟨D1, 0, none⟩) x.pn x.pn, .slice (some ⟨D2, 0, none⟩) x.sn x.sn, .slice (some ⟨D3, 0, none⟩) x.wn x.wn, .slice (some ⟨D4, 0, none⟩) x.hn x.hn] 36)).heap.size
          have := (W1.out.bd J hJn).2
          have := W1.out.le
          simp
          omega
        have tC' : belB (a * (x.pn : Int) + b) x.wn = true := by simp only [belB, decide_eq_true_eq]; omega
        go_enter Try.func8, Try.ntmps8
        go_wp2_with fail
        refine (isBelow_any _ _ _).mono ?_
        rintro e w1 ⟨rfl, rfl⟩
        rw [tA]
        go_wp2_with fail
        refine (isBelow_any _ _ _).mono ?_
        rintro e w1 ⟨rfl, rfl⟩
        rw [tB]
        go_wp2_with fail
        refine (isBelow_any _ _ _).mono ?_
        rintro e w1 ⟨rfl, rfl⟩
        rw [tC']
        go_wp2_with fail
        refine (cloneItems_any (b3 J) (x.wL J) (x.wL J) (x.wH J) _ HL.out HLt.out HIx.out).mono ?_
        rintro e w4 ⟨u, rfl, o4, b4⟩
        have HF : Hid (OwnT w4 (w.heap.size + 1) u (x.wL J) (x.wH J) ∧ Below w.heap.size w w4) := ⟨by simpa using o4, (below_allocS _ _).trans (b4.mono (by simp))⟩
        clear o4 b4
        go_wp2
        go_ret
        rw [HN.out.1, HN.out.2]
        obtain ⟨g, cap, e, q1, q2⟩ := HF.out.1
        exact ⟨_, rfl, ⟨g, cap, e, by omega, q2⟩, HF.out.2⟩
      · have HN : Hid (wayN x a b = 0) := by
          show wayN x a b = 0
          unfold wayN
          rw [if_neg]
          simp only [wayB, Bool.and_eq_true, decide_eq_true_eq]
          exact fun h => tC h.2
        have nC : (x.wn : Int) ≤ a * (x.pn : Int) + b := by omega
        have bJ0 : (0 : Int) ≤ a * (x.pn : Int) + b := by omega
        have bJ1 : a * (x.pn : Int) + b ≤ 1099512676352 := by omega
        have tC' : belB (a * (x.pn : Int) + b) x.wn = false := by simp only [belB, decide_eq_false_iff_not]; omega
        go_enter Try.func8, Try.ntmps8
        go_wp2_with fail
        refine (isBelow_any _ _ _).mono ?_
        rintro e w1 ⟨rfl, rfl⟩
        rw [tA]
        go_wp2_with fail
        refine (isBelow_any _ _ _).mono ?_
        rintro e w1 ⟨rfl, rfl⟩
        rw [tB]
        go_wp2_with fail
        refine (isBelow_any _ _ _).mono ?_
        rintro e w1 ⟨rfl, rfl⟩
        rw [tC']
        go_wp2
        refine bodyPost_ret (v := .slice (some ⟨w.heap.size + 1, 0, none⟩) 0 0) (by simp [results, Try.results8, go_sem]) rfl ⟨_, rfl, ?_, by go_grown⟩
        rw [HN.out]
        have hq := own_items0 (w.alloc (.cells #[.slice (some ⟨D1, 0, none⟩) x.pn x.pn, .slice (some ⟨D2, 0, none⟩) x.sn x.sn, .slice (some ⟨D3, 0, none⟩) x.wn x.wn, .slice (some ⟨D4, 0, none⟩) x.hn x.hn] 36)) (wayH x a b)
        rw [World.size_alloc] at hq
        obtain ⟨g, cap, e, q1, q2⟩ := hq
        exact ⟨g, cap, e, by omega, q2⟩
    · rw [Bool.not_eq_true] at tB
      have HN : Hid (wayN x a b = 0) := by
        show wayN x a b = 0
        unfold wayN
        rw [if_neg]
        simp only [wayB, belB, Bool.and_eq_true, decide_eq_true_eq]
        simp only [belB, decide_eq_false_iff_not] at tB
        omega
      go_enter Try.func8, Try.ntmps8
      go_wp2_with fail
      refine (isBelow_any _ _ _).mono ?_
      rintro e w1 ⟨rfl, rfl⟩
      rw [tA]
      go_wp2_with fail
      refine (isBelow_any _ _ _).mono ?_
      rintro e w1 ⟨rfl, rfl⟩
      rw [tB]
      go_wp2
      refine bodyPost_ret (v := .slice (some ⟨w.heap.size + 1, 0, none⟩) 0 0) (by simp [results, Try.results8, go_sem]) rfl ⟨_, rfl, ?_, by go_grown⟩
      rw [HN.out]
      have hq := own_items0 (w.alloc (.cells #[.slice (some ⟨D1, 0, none⟩) x.pn x.pn, .slice (some ⟨D2, 0, none⟩) x.sn x.sn, .slice (some ⟨D3, 0, none⟩) x.wn x.wn, .slice (some ⟨D4, 0, none⟩) x.hn x.hn] 36)) (wayH x a b)
      rw [World.size_alloc] at hq
      obtain ⟨g, cap, e, q1, q2⟩ := hq
      exact ⟨g, cap, e, by omega, q2⟩
  · rw [Bool.not_eq_true] at tA
    have HN : Hid (wayN x a b = 0) := by
      show wayN x a b = 0
      unfold wayN
      rw [if_neg]
      simp only [wayB, belB, Bool.and_eq_true, decide_eq_true_eq]
      simp only [belB, decide_eq_false_iff_not] at tA
      omega
    go_enter Try.func8, Try.ntmps8
    go_wp2_with fail
    refine (isBelow_any _ _ _).mono ?_
    rintro e w1 ⟨rfl, rfl⟩
    rw [tA]
    go_wp2
    refine bodyPost_ret (v := .slice (some ⟨w.heap.size + 1, 0, none⟩) 0 0) (by simp [results, Try.results8, go_sem]) rfl ⟨_, rfl, ?_, by go_grown⟩
    rw [HN.out]
    have hq := own_items0 (w.alloc (.cells #[.slice (some ⟨D1, 0, none⟩) x.pn x.pn, .slice (some ⟨D2, 0, none⟩) x.sn x.sn, .slice (some ⟨D3, 0, none⟩) x.wn x.wn, .slice (some ⟨D4, 0, none⟩) x.hn x.hn] 36)) (wayH x a b)
    rw [World.size_alloc] at hq
    obtain ⟨g, cap, e, q1, q2⟩ := hq
    exact ⟨g, cap, e, by omega, q2⟩

end Go.Proofs.Ytkniainoimddnab
