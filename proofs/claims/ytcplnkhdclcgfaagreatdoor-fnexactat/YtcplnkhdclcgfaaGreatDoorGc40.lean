/- Three operations in any order, by an invariant. -/
import Derived.Test.YtcplnkhdclcgfaaGreatDoorGc0
import Derived.Test.YtcplnkhdclcgfaaGreatDoorGc36
import Derived.Test.YtcplnkhdclcgfaaGreatDoorGc32
import Derived.Test.YtcplnkhdclcgfaaGreatDoorGc39
import Derived.Lib.QuietBelow
import Derived.Deep.RegionWith
import Derived.Deep.RegionLaw
import Derived.BigQuiet
import Derived.Test.YtcplnkhdclcgfaaGreatDoorGc38
namespace Go.Proofs.YtcplnkhdclcgfaaGreatDoor
set_option maxRecDepth 100000
set_option maxHeartbeats 2000000
open Go.ChangeShapes Go.WideShapes Go.ChangeAt Go.RowKit Go.Deep Go.Sort
noncomputable def pB (p : Prop) : Bool := @decide p (Classical.propDecidable _)
theorem pB_true {p : Prop} (h : p) : pB p = true := by simp [pB, h]
theorem pB_false {p : Prop} (h : ¬ p) : pB p = false := by simp [pB, h]
theorem specSameState_any (S T : S4) (ra oa ra' oa' : Option Addr) (rc oc rc' oc' : Nat) (w : World) (l1 : S.rs.length ≤ 1048576) (l2 : S.os.length ≤ 1048576) (_l3 : T.rs.length ≤ 1048576) (_l4 : T.os.length ≤ 1048576) (h1 : Sl w ra S.rs) (h2 : Sl w oa S.os) (h3 : Sl w ra' T.rs) (h4 : Sl w oa' T.os) :
  Calls Tryz.prog 114 #[stV S.p ra S.rs.length rc oa S.os.length oc S.c, stV T.p ra' T.rs.length rc' oa' T.os.length oc' T.c] w fun e w' => e = .returned (.bool (eqS S T)) ∧ Below w.heap.size w w' := by
 have l1' : (S.rs.length : Int) ≤ 1048576 := by omega
 have l2' : (S.os.length : Int) ≤ 1048576 := by omega
 have H1 : Hid (Sl w ra S.rs ∧ Sl w ra' T.rs) := ⟨h1, h3⟩
 have H2 : Hid (Sl w oa S.os ∧ Sl w oa' T.os) := ⟨h2, h4⟩
 clear h1 h2 h3 h4 l1 l2
 rcases Bool.eq_false_or_eq_true (S.p != T.p) with t1 | t1
 case inl =>
  have HE : Hid (eqS S T = false) := by
   show eqS S T = false
   have : (S.p == T.p) = false := by simpa using t1
   simp [eqS, this]
  go_enter Tryz.func114, Tryz.ntmps114
  go_wp2
  go_ret
  rw [HE.out]
  exact ⟨rfl, by go_grown⟩
 rcases Bool.eq_false_or_eq_true (S.c != T.c) with t2 | t2
 case inl =>
  have HE : Hid (eqS S T = false) := by
   show eqS S T = false
   have : (S.c == T.c) = false := by simpa using t2
   simp [eqS, this]
  go_enter Tryz.func114, Tryz.ntmps114
  go_wp2
  go_ret
  rw [HE.out]
  exact ⟨rfl, by go_grown⟩
 rcases Bool.eq_false_or_eq_true ((S.rs.length : Int) != (T.rs.length : Int)) with t3 | t3
 case inl =>
  have HE : Hid (eqS S T = false) := by
   show eqS S T = false
   have : (S.rs == T.rs) = false := by
    rw [beq_eq_false_iff_ne]
    intro e
    rw [e] at t3
    simp at t3
   simp [eqS, this]
  go_enter Tryz.func114, Tryz.ntmps114
  go_wp2
  go_ret
  rw [HE.out]
  exact ⟨rfl, by go_grown⟩
 rcases Bool.eq_false_or_eq_true ((S.os.length : Int) != (T.os.length : Int)) with t4 | t4
 case inl =>
  have HE : Hid (eqS S T = false) := by
   show eqS S T = false
   have : (S.os == T.os) = false := by
    rw [beq_eq_false_iff_ne]
    intro e
    rw [e] at t4
    simp at t4
   simp [eqS, this]
  go_enter Tryz.func114, Tryz.ntmps114
  go_wp2
  go_ret
  rw [HE.out]
  exact ⟨rfl, by go_grown⟩
 have HE : Hid (eqS S T = ((S.rs == T.rs) && (S.os == T.os)) ∧ S.rs.length = T.rs.length ∧ S.os.length = T.os.length) := by
  have e1 : (S.p == T.p) = true := by simpa using t1
  have e2 : (S.c == T.c) = true := by simpa using t2
  have e3 : S.rs.length = T.rs.length := by simp at t3; omega
  have e4 : S.os.length = T.os.length := by simp at t4; omega
  refine ⟨?_, e3, e4⟩
  show eqS S T = _
  simp [eqS, e1, e2]
 have N1 : Hid (BoxC ((w.alloc (oQ1 S.p ra S.rs.length rc oa S.os.length oc S.c)).alloc (oQ1 T.p ra' T.rs.length rc' oa' T.os.length oc' T.c)) w.heap.size (.int .i64 S.p) (.slice ra S.rs.length rc) (.slice oa S.os.length oc) (.int .i64 S.c)) := (BoxC.new w _ _ _ _ _).below (below_alloc _ _)
 have N2 : Hid (BoxC ((w.alloc (oQ1 S.p ra S.rs.length rc oa S.os.length oc S.c)).alloc (oQ1 T.p ra' T.rs.length rc' oa' T.os.length oc' T.c)) (w.heap.size + 1) (.int .i64 T.p) (.slice ra' T.rs.length rc') (.slice oa' T.os.length oc') (.int .i64 T.c)) := by
  have h := BoxC.new (w.alloc (oQ1 S.p ra S.rs.length rc oa S.os.length oc S.c)) (.int .i64 T.p) (.slice ra' T.rs.length rc') (.slice oa' T.os.length oc') (.int .i64 T.c) 39
  rw [World.size_alloc] at h
  exact h
 have NB : Hid (Below w.heap.size w ((w.alloc (oQ1 S.p ra S.rs.length rc oa S.os.length oc S.c)).alloc (oQ1 T.p ra' T.rs.length rc' oa' T.os.length oc' T.c))) := by
  show Below _ _ _
  go_grown
 go_enter Tryz.func114, Tryz.ntmps114
 go_wp2_with fail
 generalize (w.alloc (oQ1 S.p ra S.rs.length rc oa S.os.length oc S.c)).alloc (oQ1 T.p ra' T.rs.length rc' oa' T.os.length oc' T.c) = wb at *
 go_loopw [5] (fun i wr => ∃ k : Nat, k ≤ S.rs.length ∧ i = .int .i64 k ∧ Below wb.heap.size wb wr ∧ Hid (∀ j, j < k → zi S.rs j = zi T.rs j)) (fun i _ => S.rs.length - (intOf i).toNat)
 case atStart => exact ⟨0, Nat.zero_le _, rfl, Below.refl _ _, fun j hj => by omega⟩
 case round =>
  obtain ⟨k, hk, rfl, hbw, HZ⟩ := hrel
  have hw : Below w.heap.size w wr := NB.out.trans (hbw.mono NB.out.size)
  obtain ⟨n0, n1, n2, n3⟩ := N1.out.below hbw
  obtain ⟨m0, m1, m2, m3⟩ := N2.out.below hbw
  by_cases hlt : k < S.rs.length
  ·have hlt2 : k < T.rs.length := by have := HE.out; omega
   obtain ⟨b, off, rfl, hbl, ck⟩ := (H1.out.1.below hw).at hlt
   obtain ⟨b', off', rfl, hbl', ck'⟩ := (H1.out.2.below hw).at hlt2
   have hlt' : (k : Int) < (S.rs.length : Int) := by omega
   have hlt2' : (k : Int) < (T.rs.length : Int) := by omega
   clear hlt2
   rcases Bool.eq_false_or_eq_true (zi S.rs k != zi T.rs k) with t | t
   ·have HN : Hid (eqS S T = false) := by
     show eqS S T = false
     rw [HE.out.1]
     have : (S.rs == T.rs) = false := by
      rw [beq_eq_false_iff_ne]
      intro e
      rw [e] at t
      simp at t
     rw [this, Bool.false_and]
    go_wp2_with fail
    go_quiet (fail)
    go_wp2
    go_ret
    rw [HN.out]
    exact ⟨rfl, below_drewN hw _⟩
   ·have HZ' : Hid (∀ j, j < k + 1 → zi S.rs j = zi T.rs j) := fun j hj => by
     by_cases e : j = k
     ·subst e
      simpa using t
     ·exact HZ.out j (by omega)
    clear HZ
    go_wp2_with fail
    go_quiet (fail)
    go_wp2
    go_roundw
    case rel => exact ⟨k + 1, by omega, by go_num, below_drewN hbw _, HZ'.out⟩
    case measure => simp [intOf]; omega
  ·have HR : Hid ((S.rs == T.rs) = true) := by
    show (S.rs == T.rs) = true
    rw [beq_iff_eq]
    exact list_of_zi HE.out.2.1 fun j hj => HZ.out j (by omega)
   have hkl : k = S.rs.length := by omega
   subst hkl
   clear HZ hlt hk
   go_wp2_with fail
   clear n0 n1 n2 n3 m0 m1 m2 m3
   go_loopw [6] (fun i wr => ∃ k : Nat, k ≤ S.os.length ∧ i = .int .i64 k ∧ Below wb.heap.size wb wr ∧ Hid (∀ j, j < k → zi S.os j = zi T.os j)) (fun i _ => S.os.length - (intOf i).toNat)
   case atStart => exact ⟨0, Nat.zero_le _, rfl, hbw, fun j hj => by omega⟩
   case round =>
    clear hbw hw
    obtain ⟨k, hk, rfl, hbw, HZ⟩ := hrel
    have hw : Below w.heap.size w wr := NB.out.trans (hbw.mono NB.out.size)
    obtain ⟨n0, n1, n2, n3⟩ := N1.out.below hbw
    obtain ⟨m0, m1, m2, m3⟩ := N2.out.below hbw
    by_cases hlt : k < S.os.length
    ·have hlt2 : k < T.os.length := by have := HE.out; omega
     obtain ⟨b, off, rfl, hbl, ck⟩ := (H2.out.1.below hw).at hlt
     obtain ⟨b', off', rfl, hbl', ck'⟩ := (H2.out.2.below hw).at hlt2
     have hlt' : (k : Int) < (S.os.length : Int) := by omega
     have hlt2' : (k : Int) < (T.os.length : Int) := by omega
     clear hlt2
     rcases Bool.eq_false_or_eq_true (zi S.os k != zi T.os k) with t | t
     ·have HN : Hid (eqS S T = false) := by
       show eqS S T = false
       rw [HE.out.1]
       have : (S.os == T.os) = false := by
        rw [beq_eq_false_iff_ne]
        intro e
        rw [e] at t
        simp at t
       rw [this, Bool.and_false]
      go_wp2_with fail
      go_quiet (fail)
      go_wp2
      go_ret
      rw [HN.out]
      exact ⟨rfl, below_drewN hw _⟩
     ·have HZ' : Hid (∀ j, j < k + 1 → zi S.os j = zi T.os j) := fun j hj => by
       by_cases e : j = k
       ·subst e
        simpa using t
       ·exact HZ.out j (by omega)
      clear HZ
      go_wp2_with fail
      go_quiet (fail)
      go_wp2
      go_roundw
      case rel => exact ⟨k + 1, by omega, by go_num, below_drewN hbw _, HZ'.out⟩
      case measure => simp [intOf]; omega
    ·have HN : Hid (eqS S T = true) := by
      show eqS S T = true
      rw [HE.out.1, HR.out, Bool.true_and, beq_iff_eq]
      exact list_of_zi HE.out.2.2 fun j hj => HZ.out j (by omega)
     clear HZ
     go_wp2
     go_ret
     rw [HN.out]
     exact ⟨rfl, hw⟩
structure LWay (h : Nat → I2) (len : Nat) (sent : List Int) (t : Nat) : Prop where
 it : ∀ i, i < len → itemB (h i) = true
 le : len ≤ 12
 ln : sent.length = t + (numL h len).length
 eq : ∀ j, j < (numL h len).length → zi (numL h len) j = zi sent (t + j)
theorem zi_append_left {xs ys : List Int} {j : Nat} (h : j < xs.length) : zi (xs ++ ys) j = zi xs j := by
 simp [zi, List.getD_eq_getElem?_getD, List.getElem?_append_left h]
theorem zi_append_right {xs ys : List Int} {j : Nat} : zi (xs ++ ys) (xs.length + j) = zi ys j := by
 simp [zi, List.getD_eq_getElem?_getD, List.getElem?_append_right]
theorem LWay.iff {h : Nat → I2} {len : Nat} {took sent : List Int} : (LWay h len sent took.length ∧ ∀ i, i < took.length → zi took i = zi sent i) ↔ WayP h len took sent := by
 refine ⟨fun ⟨a, b⟩ => ⟨a.it, a.le, ?_⟩, fun a => ⟨⟨a.it, a.le, by rw [← a.eq, List.length_append], fun j _ => by rw [← a.eq, zi_append_right]⟩, fun i hi => by rw [← a.eq, zi_append_left hi]⟩⟩
 refine list_of_zi (by rw [List.length_append, a.ln]) fun j hj => ?_
 by_cases hl : j < took.length
 ·rw [zi_append_left hl, b j hl]
 ·rw [List.length_append] at hj
  have e : j = took.length + (j - took.length) := by omega
  rw [e, zi_append_right]
  exact a.eq _ (by omega)
theorem l4Way_any (a : Option Addr) (len cap : Nat) (h : Nat → I2) (sa : Option Addr) (sc : Nat) (sent : List Int) (t : Nat) (w : World) (hlen : len ≤ 1048576) (hc : ItL w a len h) (hs : sent.length ≤ 1048576) (hS : Sl w sa sent) (ht : t ≤ 1048576) :
  Calls Tryz.prog 116 #[.slice a len cap, .slice sa sent.length sc, .int .i64 t] w fun e w' => e = .returned (.bool (pB (LWay h len sent t))) ∧ Below w.heap.size w w' := by
 have hl' : (len : Int) ≤ 1048576 := by omega
 have hs' : (sent.length : Int) ≤ 1048576 := by omega
 have ht' : (t : Int) ≤ 1048576 := by omega
 have HC : Hid (ItL w a len h) := hc
 have HS : Hid (Sl w sa sent) := hS
 clear hc hS
 go_enter Tryz.func116, Tryz.ntmps116
 go_wp2_with fail
 go_loopw [7] (fun i wr => ∃ k : Nat, k ≤ len ∧ i = .int .i64 k ∧ Below w.heap.size w wr ∧ Hid (∀ j, j < k → itemB (h j) = true)) (fun i _ => len - (intOf i).toNat)
 case atStart => exact ⟨0, Nat.zero_le _, rfl, Below.refl _ _, fun j hj => by omega⟩
 case round =>
  obtain ⟨k, hk, rfl, hbw, HZ⟩ := hrel
  by_cases hlt : k < len
  ·have hlt' : (k : Int) < (len : Int) := by omega
   obtain ⟨b, off, rfl, -, c0, c1⟩ := (HC.out.below hbw).at hlt
   have hN : ∀ {x : Bool}, inB (h k).v (-1000000000) 1000000000 = x → numB (h k).v = x := fun e => e
   rcases Bool.eq_false_or_eq_true (inB (h k).v (-1000000000) 1000000000) with t1 | t1
   ·have go_on : itemB (h k) = true → Hid (∀ j, j < k + 1 → itemB (h j) = true) := fun t j hj => by
     by_cases e : j = k
     ·subst e
      exact t
     ·exact HZ.out j (by omega)
    have stop : itemB (h k) = false → Hid (pB (LWay h len sent t) = false) := fun t => pB_false fun x => by
     have := x.it k hlt
     rw [t] at this
     cases this
    rcases Bool.eq_false_or_eq_true (h k).m with t2 | t2
    ·rcases Bool.eq_false_or_eq_true ((h k).v != 0) with t3 | t3
     ·have HN := stop (by
       have : ((h k).v == 0) = false := by simpa using t3
       simp [itemB, t2, this])
      rw [t2] at c0
      clear go_on stop HZ hN
      go_wp2_with fail
      refine (l1Num_any _ _).mono ?_
      rintro e w1 ⟨rfl, rfl⟩
      rw [t1]
      go_wp2
      go_ret
      rw [HN.out]
      exact ⟨rfl, hbw⟩
     ·have HZ' := go_on (by
       have : ((h k).v == 0) = true := by simpa using t3
       simp [itemB, hN t1, this])
      rw [t2] at c0
      clear go_on stop HZ hN
      go_wp2_with fail
      refine (l1Num_any _ _).mono ?_
      rintro e w1 ⟨rfl, rfl⟩
      rw [t1]
      go_wp2
      go_roundw
      case rel => exact ⟨k + 1, by omega, by go_num, hbw, HZ'.out⟩
      case measure => simp [intOf]; omega
    ·have HZ' := go_on (by simp [itemB, hN t1, t2])
     rw [t2] at c0
     clear go_on stop HZ hN
     go_wp2_with fail
     refine (l1Num_any _ _).mono ?_
     rintro e w1 ⟨rfl, rfl⟩
     rw [t1]
     go_wp2
     go_roundw
     case rel => exact ⟨k + 1, by omega, by go_num, hbw, HZ'.out⟩
     case measure => simp [intOf]; omega
   ·have HN : Hid (pB (LWay h len sent t) = false) := pB_false fun x => by
     have := x.it k hlt
     simp [itemB, hN t1] at this
    clear HZ hN
    go_wp2_with fail
    refine (l1Num_any _ _).mono ?_
    rintro e w1 ⟨rfl, rfl⟩
    rw [t1]
    go_wp2
    go_ret
    rw [HN.out]
    exact ⟨rfl, hbw⟩
  ·have HZ' : Hid (∀ j, j < len → itemB (h j) = true) := fun j hj => HZ.out j (by omega)
   have hkl : k = len := by omega
   subst hkl
   clear HZ hlt hk
   go_wp2_with fail
   refine (specNumbers_l a k cap h wr hlen (HC.out.below hbw)).mono ?_
   rintro e w1 ⟨v, rfl, o1, b1⟩
   obtain ⟨na, nc, rfl, s1⟩ := o1.form
   have B1 : Hid (Below w.heap.size w w1) := hbw.trans (b1.mono hbw.size)
   have S1 : Hid (Sl w1 na (numL h k)) := s1
   have hnl := numL_le h k
   have hnl' : ((numL h k).length : Int) ≤ 1048576 := by omega
   clear o1 b1 s1 hbw
   generalize hNU : numL h k = nu at *
   have HNU : Hid (numL h k = nu) := hNU
   clear hNU hnl
   by_cases h12 : k ≤ 12
   case neg =>
    have h12' : (12 : Int) < (k : Int) := by omega
    have HN : Hid (pB (LWay h k sent t) = false) := pB_false fun x => h12 x.le
    go_wp2
    go_ret
    rw [HN.out]
    exact ⟨rfl, B1.out⟩
   have h12' : ¬ (12 : Int) < (k : Int) := by omega
   rcases Bool.eq_false_or_eq_true (((sent.length : Int) - (t : Int)) != (nu.length : Int)) with t5 | t5
   ·have HN : Hid (pB (LWay h k sent t) = false) := pB_false fun x => by
     have := x.ln
     rw [HNU.out] at this
     rw [this] at t5
     simp at t5
     omega
    go_wp2
    go_ret
    rw [HN.out]
    exact ⟨rfl, B1.out⟩
   have HLN : Hid (sent.length = t + nu.length) := by
    show sent.length = t + nu.length
    simp at t5
    omega
   go_wp2_with fail
   go_loopw [9] (fun i wr => ∃ j : Nat, j ≤ nu.length ∧ i = .int .i64 j ∧ Below w1.heap.size w1 wr ∧ Hid (∀ i, i < j → zi nu i = zi sent (t + i))) (fun i _ => nu.length - (intOf i).toNat)
   case atStart => exact ⟨0, Nat.zero_le _, rfl, Below.refl _ _, fun j hj => by omega⟩
   case round =>
    obtain ⟨j, hj, rfl, hbw, HZ⟩ := hrel
    have hw : Below w.heap.size w wr := B1.out.trans (hbw.mono B1.out.size)
    by_cases hlt : j < nu.length
    ·have hlt2 : t + j < sent.length := by have := HLN.out; omega
     obtain ⟨b, off, rfl, hbl, ck⟩ := (S1.out.below hbw).at hlt
     obtain ⟨b', off', rfl, hbl', ck'⟩ := (HS.out.below hw).at hlt2
     have hlt' : (j : Int) < (nu.length : Int) := by omega
     have hlt2' : (t : Int) + (j : Int) < (sent.length : Int) := by omega
     have hq : ((t : Int) + (j : Int)).toNat = t + j := by omega
     clear hlt2
     rcases Bool.eq_false_or_eq_true (zi nu j != zi sent (t + j)) with t6 | t6
     ·have HN : Hid (pB (LWay h k sent t) = false) := pB_false fun x => by
       have := x.eq j (by rw [HNU.out]; exact hlt)
       rw [HNU.out] at this
       rw [this] at t6
       simp at t6
      go_wp2_with fail
      go_quiet (fail)
      go_wp2
      go_ret
      rw [HN.out]
      exact ⟨rfl, below_drewN hw _⟩
     ·have HZ2 : Hid (∀ i, i < j + 1 → zi nu i = zi sent (t + i)) := fun i hi => by
       by_cases e : i = j
       ·subst e
        simpa using t6
       ·exact HZ.out i (by omega)
      clear HZ
      go_wp2_with fail
      go_quiet (fail)
      go_wp2
      go_roundw
      case rel => exact ⟨j + 1, by omega, by go_num, below_drewN hbw _, HZ2.out⟩
      case measure => simp [intOf]; omega
    ·have HN : Hid (pB (LWay h k sent t) = true) := pB_true ⟨HZ'.out, h12, by rw [HNU.out]; exact HLN.out, fun i hi => by
      rw [HNU.out] at hi ⊢
      exact HZ.out i (by omega)⟩
     clear HZ
     go_wp2
     go_ret
     rw [HN.out]
     exact ⟨rfl, hw⟩
theorem Sl.all {w : World} {a0 : Option Addr} {xs : List Int} (h : Sl w a0 xs) (hn : 0 < xs.length) : ∃ b off, a0 = some ⟨b, off, none⟩ ∧ b < w.heap.size ∧ ∀ i, i < xs.length → w.cell? ⟨b, off + i, none⟩ = some (.int .i64 (zi xs i)) := by
 rcases h with rfl | h
 ·simp at hn
 ·exact h
theorem RowS.all {w : World} {a0 : Option Addr} {n : Nat} {f : Nat → Value} (h : RowS w a0 n f) (hn : 0 < n) : ∃ b off, a0 = some ⟨b, off, none⟩ ∧ b < w.heap.size ∧ ∀ i, i < n → w.cell? ⟨b, off + i, none⟩ = some (f i) := by
 rcases h with rfl | h
 ·omega
 ·exact h
theorem BoxC.belowB {w w' : World} {b : Nat} {v0 v1 v2 v3 : Value} {B : Nat} (h : BoxC w b v0 v1 v2 v3) (hb : Below B w w') (hB : b < B) : BoxC w' b v0 v1 v2 v3 := by
 obtain ⟨h0, h1, h2, h3⟩ := h
 exact ⟨(hb.cell (p := ⟨b, 0, none⟩) hB).trans h0, (hb.cell (p := ⟨b, 1, none⟩) hB).trans h1, (hb.cell (p := ⟨b, 2, none⟩) hB).trans h2, (hb.cell (p := ⟨b, 3, none⟩) hB).trans h3⟩
theorem Sy.Cut.nat {y : Sy} {c : List Int} (h : y.Cut c) {p : Nat} (hp : p < y.pn) : zi c p = (cN c p : Nat) := by
 have := h.le p hp
 unfold cN
 omega
theorem Sy.Cut.leN {y : Sy} {c : List Int} (h : y.Cut c) {p : Nat} (hp : p < y.pn) : cN c p ≤ y.hL p := by
 have := h.le p hp
 unfold cN
 omega
theorem l8Cut_any (x : SysIn) (ca : Option Addr) (cc : Nat) (c : List Int) (w : World) (hG : SysG w x) (hL : x.Len) (hhn : x.hn = x.pn) (hc : Sl w ca c) (hcl : c.length ≤ 1048576) :
  Calls Tryz.prog 203 #[x.v, .slice ca c.length cc] w fun e w' => e = .returned (.bool (qB (x.y.Cut c))) ∧ Below w.heap.size w w' := by
 have HG : Hid (SysG w x) := hG
 have HC : Hid (Sl w ca c) := hc
 have hl' : (c.length : Int) ≤ 1048576 := by omega
 have hp' : (x.pn : Int) ≤ 1048576 := by have := hL.p.1; omega
 have HLh : Hid (∀ i, i < x.hn → x.hL i ≤ 1048576) := hL.h.2
 have HN : Hid (x.hn = x.pn) := hhn
 have BW : Hid (Below w.heap.size w (w.alloc (oQ4 x.pa x.pn x.pc x.sa x.sn x.sc x.wa x.wn x.wc x.ha x.hn x.hc))) := below_alloc _ _
 have NB : Hid (BoxC (w.alloc (oQ4 x.pa x.pn x.pc x.sa x.sn x.sc x.wa x.wn x.wc x.ha x.hn x.hc)) w.heap.size (.slice x.pa x.pn x.pc) (.slice x.sa x.sn x.sc) (.slice x.wa x.wn x.wc) (.slice x.ha x.hn x.hc)) := BoxC.new w _ _ _ _ _
 clear hG hL hc hhn
 rcases Bool.eq_false_or_eq_true ((c.length : Int) != (x.pn : Int)) with t | t
 case inl =>
  have HV : Hid (qB (x.y.Cut c) = false) := qB_false fun h => by
   have h1 : c.length = x.pn := h.len
   rw [h1] at t
   simp at t
  go_enter Tryz.func203, Tryz.ntmps203
  go_upto_region 1 with fail
  generalize w.alloc (oQ4 x.pa x.pn x.pc x.sa x.sn x.sc x.wa x.wn x.wc x.ha x.hn x.hc) = W2 at *
  obtain ⟨b0, -, -, -⟩ := NB.out
  go_wp2
  go_ret
  rw [HV.out]
  exact ⟨rfl, BW.out⟩
 have HQ : Hid (c.length = x.pn) := by
  have h : (c.length : Int) = (x.pn : Int) := by simpa using t
  show c.length = x.pn
  omega
 go_enter Tryz.func203, Tryz.ntmps203
 go_upto_region 1 with fail
 generalize w.alloc (oQ4 x.pa x.pn x.pc x.sa x.sn x.sc x.wa x.wn x.wc x.ha x.hn x.hc) = W2 at *
 obtain ⟨b0, -, -, -⟩ := NB.out
 go_wp2_with fail
 clear b0 t
 go_loopw [5] (fun i wr => ∃ k : Nat, k ≤ c.length ∧ i = .int .i64 k ∧ Hid (Below w.heap.size w wr ∧ BoxC wr w.heap.size (.slice x.pa x.pn x.pc) (.slice x.sa x.sn x.sc) (.slice x.wa x.wn x.wc) (.slice x.ha x.hn x.hc)) ∧ Hid (∀ j, j < k → 0 ≤ zi c j ∧ zi c j ≤ (x.hL j : Int))) (fun i _ => c.length - (intOf i).toNat)
 case atStart => exact ⟨0, Nat.zero_le _, rfl, ⟨BW.out, NB.out⟩, fun j hj => by omega⟩
 case round =>
  clear BW NB
  obtain ⟨k, hk, rfl, HB, HK⟩ := hrel
  by_cases hlt : k < c.length
  ·have hlt' : (k : Int) < (c.length : Int) := by omega
   have hkn : k < x.hn := by have := HQ.out; have := HN.out; omega
   have hkn' : (k : Int) < (x.hn : Int) := by omega
   obtain ⟨cb, co, rfl, -, c0⟩ := (HC.out.below HB.out.1).at hlt
   obtain ⟨bh, oh, eh, ch⟩ := (HG.out.below HB.out.1).h.at hkn
   have b3 := HB.out.2.2.2.2
   rw [eh] at b3
   clear eh
   have HZ : Hid (inB (zi c k) 0 (x.hL k) = true ↔ (0 ≤ zi c k ∧ zi c k ≤ (x.hL k : Int))) := by
    show _ ↔ _
    simp [inB]
   generalize hZ : zi c k = Z at *
   have HX : Hid (zi c k = Z) := hZ
   clear hZ
   have q0 := cell_regrown c0
   have qh := cell_regrown ch
   have q3 := cell_regrown b3
   go_upto_region 6 with fail
   clear c0 ch b3
   refine wp_region_quiet_below (by kernel_rfl) (by kernel_rfl) ?_
   repeat (quiet_step (first | (go_at_call 83; exact Calls.regrown_same (l1In_any _ _ _ _))))
   refine wpQuiet_nil ?_
   intro _ hw'
   obtain ⟨⟨dd, os⟩, hw''⟩ := hw'
   subst hw''
   have B3 : Hid (Below w.heap.size w (grow (redrawn wr dd) os) ∧ BoxC (grow (redrawn wr dd) os) w.heap.size (.slice x.pa x.pn x.pc) (.slice x.sa x.sn x.sc) (.slice x.wa x.wn x.wc) (.slice x.ha x.hn x.hc)) := ⟨HB.out.1.trans ((below_regrown wr dd os).mono HB.out.1.size), HB.out.2.below (below_regrown wr dd os)⟩
   generalize grow (redrawn wr dd) os = w3 at *
   clear q0 qh q3 HB
   generalize inB Z 0 (x.hL k) = T at *
   cases T with
   | false =>
    have HV : Hid (qB (x.y.Cut c) = false) := qB_false fun h => by
     have h1 := h.le k (by have := HQ.out; show k < x.pn; omega)
     exact absurd (HZ.out.2 (HX.out ▸ h1)) (by decide)
    go_wp2
    go_ret
    rw [HV.out]
    exact ⟨rfl, B3.out.1⟩
   | true =>
    have HK' : Hid (∀ j, j < k + 1 → 0 ≤ zi c j ∧ zi c j ≤ (x.hL j : Int)) := fun j hj => by
     by_cases e : j = k
     ·subst e
      rw [HX.out]
      exact HZ.out.1 rfl
     ·exact HK.out j (by omega)
    clear HK HZ
    go_wp2
    go_roundw
    case rel => exact ⟨k + 1, by omega, by go_num, B3.out, HK'.out⟩
    case measure => simp [intOf]; omega
  ·have HV : Hid (qB (x.y.Cut c) = true) := qB_true ⟨HQ.out, fun p hp => HK.out p (by have := HQ.out; have h1 : p < x.pn := hp; omega)⟩
   have B3 := HB.out.1
   clear HK HB
   go_wp2
   go_ret
   rw [HV.out]
   exact ⟨rfl, B3⟩
theorem l8Over_any (x : SysIn) (ca : Option Addr) (cc : Nat) (c : List Int) (a b : Nat) (w : World) (hG : SysG w x) (hcap : ∀ i, i < x.hn → x.hL i ≤ x.hC i) (hO : x.y.Ok) (hC : x.y.Cut c) (hc : Sl w ca c) (ha : a < x.pn) (hb : b < x.pn) :
  Calls Tryz.prog 161 #[x.v, .slice ca c.length cc, .int .i64 a, .int .i64 b] w fun e w' => e = .returned (.int .i64 (ovN x.y (cN c) a b)) ∧ Below w.heap.size w w' := by
 have hhn : x.hn = x.pn := hO.cn.2.2.1
 have hah : a < x.hn := by omega
 have hbh : b < x.hn := by omega
 have hla : x.hL a ≤ 200 := hO.hl200 ha
 have hlb : x.hL b ≤ 200 := hO.hl200 hb
 have hka : cN c a ≤ x.hL a := hC.leN ha
 have hkb : cN c b ≤ x.hL b := hC.leN hb
 have eza := hC.nat (p := a) ha
 have ezb := hC.nat (p := b) hb
 have hcl : c.length = x.pn := hC.len
 have hcpa := hcap a hah
 have hcpb := hcap b hbh
 have HG : Hid (SysG w x) := hG
 have HSl : Hid (Sl w ca c) := hc
 have hac : (a : Int) < (c.length : Int) := by omega
 have hbc : (b : Int) < (c.length : Int) := by omega
 have ha' : (a : Int) < (x.hn : Int) := by omega
 have hb' : (b : Int) < (x.hn : Int) := by omega
 have HNo : Hid (tN x.y (cN c) a b ≤ sN x.y (cN c) a b → ovN x.y (cN c) a b = -1) := ovN_no
 have HYes : Hid (¬ tN x.y (cN c) a b ≤ sN x.y (cN c) a b → nthV (x.hH b) 3 a (x.hL b) (sN x.y (cN c) a b : Nat) = ovN x.y (cN c) a b) := fun h => ovN_full h hkb
 have hsl : sN x.y (cN c) a b ≤ 200 := Nat.le_trans (cnt_le _ _ _ _) (by omega)
 have htl : tN x.y (cN c) a b ≤ 200 := Nat.le_trans (cnt_le _ _ _ _) (by omega)
 have ka := slice_to (x.hA a) (x.hL a) (x.hC a) (cN c a) (by omega)
 have kb := slice_to (x.hA b) (x.hL b) (x.hC b) (cN c b) (by omega)
 have HC1 : Hid (∀ wx, Below w.heap.size w wx → Calls Tryz.prog 140 #[.slice (x.hA a) (cN c a) (x.hC a), .int .i64 2, .int .i64 b] wx fun e w' => e = .returned (.int .i64 (sN x.y (cN c) a b : Nat)) ∧ Below wx.heap.size wx w') := fun wx hb => specCount_l (x.hA a) (cN c a) (x.hC a) (x.hH a) 2 b wx (by omega) (((hG.below hb).hi a hah).take (by omega))
 have HC2 : Hid (∀ wx, Below w.heap.size w wx → Calls Tryz.prog 140 #[.slice (x.hA b) (cN c b) (x.hC b), .int .i64 3, .int .i64 a] wx fun e w' => e = .returned (.int .i64 (tN x.y (cN c) a b : Nat)) ∧ Below wx.heap.size wx w') := fun wx hb => specCount_l (x.hA b) (cN c b) (x.hC b) (x.hH b) 3 a wx (by omega) (((hG.below hb).hi b hbh).take (by omega))
 have HNt : Hid (∀ wx, Below w.heap.size w wx → Calls Tryz.prog 216 #[.slice (x.hA b) (x.hL b) (x.hC b), .int .i64 3, .int .i64 a, .int .i64 (sN x.y (cN c) a b : Nat)] wx fun e w' => e = .returned (.int .i64 (nthV (x.hH b) 3 a (x.hL b) (sN x.y (cN c) a b : Nat))) ∧ Below wx.heap.size wx w') := fun wx hb => specNth_l (x.hA b) (x.hL b) (x.hC b) (x.hH b) 3 a _ wx (by omega) ((hG.below hb).hi b hbh) (by omega) (by omega)
 generalize sN x.y (cN c) a b = sn at *
 generalize tN x.y (cN c) a b = tn at *
 generalize ovN x.y (cN c) a b = ov at *
 generalize nthV (x.hH b) 3 a (x.hL b) (sn : Nat) = nv at *
 have HR : Hid (a < c.length ∧ b < c.length ∧ a < x.hn ∧ b < x.hn ∧ zi c a = (cN c a : Nat) ∧ zi c b = (cN c b : Nat)) := ⟨by omega, by omega, hah, hbh, eza, ezb⟩
 have BW : Hid (Below w.heap.size w (w.alloc (oQ4 x.pa x.pn x.pc x.sa x.sn x.sc x.wa x.wn x.wc x.ha x.hn x.hc))) := below_alloc _ _
 have NB : Hid (BoxC (w.alloc (oQ4 x.pa x.pn x.pc x.sa x.sn x.sc x.wa x.wn x.wc x.ha x.hn x.hc)) w.heap.size (.slice x.pa x.pn x.pc) (.slice x.sa x.sn x.sc) (.slice x.wa x.wn x.wc) (.slice x.ha x.hn x.hc)) := BoxC.new w _ _ _ _ _
 have hsl' : (sn : Int) ≤ 200 := by omega
 have htl' : (tn : Int) ≤ 200 := by omega
 clear hG hcap hO hC hc hhn hah hbh hcl eza ezb hcpa hcpb
 obtain ⟨cb, co, rfl, -, -⟩ := HSl.out.all (by have := HR.out; omega)
 have HSc : Hid (∀ wx, Below w.heap.size w wx → ∀ i, i < c.length → wx.cell? ⟨cb, co + i, none⟩ = some (.int .i64 (zi c i))) := fun wx hb i hi => by
  obtain ⟨b', o', e, -, h⟩ := (HSl.out.below hb).at hi
  simp only [Option.some.injEq, Addr.mk.injEq] at e
  obtain ⟨rfl, rfl, -⟩ := e
  exact h
 have HRow : Hid (∃ hb ho, x.ha = some ⟨hb, ho, none⟩ ∧ ∀ wx, Below w.heap.size w wx → ∀ i, i < x.hn → wx.cell? ⟨hb, ho + i, none⟩ = some (.slice (x.hA i) (x.hL i) (x.hC i))) := by
  obtain ⟨b1, o1, e1, -, -⟩ := HG.out.h.all (by have := HR.out; omega)
  refine ⟨b1, o1, e1, fun wx hb i hi => ?_⟩
  obtain ⟨b', o', e, h⟩ := (HG.out.below hb).h.at hi
  rw [e1] at e
  simp only [Option.some.injEq, Addr.mk.injEq] at e
  obtain ⟨rfl, rfl, -⟩ := e
  exact h
 obtain ⟨hbb, hoo, ehh, hrow⟩ := HRow.out
 have HRw : Hid (∀ wx, Below w.heap.size w wx → ∀ i, i < x.hn → wx.cell? ⟨hbb, hoo + i, none⟩ = some (.slice (x.hA i) (x.hL i) (x.hC i))) := hrow
 have HE : Hid (x.ha = some ⟨hbb, hoo, none⟩) := ehh
 clear HRow hrow ehh
 go_enter Tryz.func161, Tryz.ntmps161
 go_upto_region 1 with fail
 generalize w.alloc (oQ4 x.pa x.pn x.pc x.sa x.sn x.sc x.wa x.wn x.wc x.ha x.hn x.hc) = W2 at *
 have b3 := NB.out.2.2.2
 rw [HE.out] at b3
 have q3 := cell_regrown b3
 have qa := cell_regrown (HRw.out W2 BW.out a HR.out.2.2.1)
 have qc := cell_regrown ((HSc.out W2 BW.out a HR.out.1).trans (by rw [HR.out.2.2.2.2.1]))
 have HQ2 : Hid (∀ d os, Below w.heap.size w (grow (redrawn W2 d) os)) := fun d os => BW.out.trans ((below_regrown W2 d os).mono BW.out.size)
 clear b3
 refine wp_region_quiet_below (by kernel_rfl) (by kernel_rfl) ?_
 repeat (quiet_step (first | (go_at_call 140; exact Calls.regrown_of (HC1.out _ (HQ2.out _ _)))))
 refine wpQuiet_nil ?_
 intro _ hw'
 obtain ⟨⟨dd, os⟩, hw''⟩ := hw'
 subst hw''
 have B3 : Hid (Below w.heap.size w (grow (redrawn W2 dd) os) ∧ BoxC (grow (redrawn W2 dd) os) w.heap.size (.slice x.pa x.pn x.pc) (.slice x.sa x.sn x.sc) (.slice x.wa x.wn x.wc) (.slice x.ha x.hn x.hc)) := ⟨HQ2.out dd os, NB.out.below (below_regrown W2 dd os)⟩
 generalize grow (redrawn W2 dd) os = w3 at *
 clear q3 qa qc HQ2 BW NB HC1 ka
 have b3 := B3.out.2.2.2.2
 rw [HE.out] at b3
 have q3 := cell_regrown b3
 have qa := cell_regrown (HRw.out w3 B3.out.1 b HR.out.2.2.2.1)
 have qc := cell_regrown ((HSc.out w3 B3.out.1 b HR.out.2.1).trans (by rw [HR.out.2.2.2.2.2]))
 have HQ2 : Hid (∀ d os, Below w.heap.size w (grow (redrawn w3 d) os)) := fun d os => B3.out.1.trans ((below_regrown w3 d os).mono B3.out.1.size)
 clear b3
 go_upto_region 2 with fail
 refine wp_region_quiet_below (by kernel_rfl) (by kernel_rfl) ?_
 repeat (quiet_step (first | (go_at_call 140; exact Calls.regrown_of (HC2.out _ (HQ2.out _ _)))))
 refine wpQuiet_nil ?_
 intro _ hw'
 obtain ⟨⟨dd, os⟩, hw''⟩ := hw'
 subst hw''
 have B4 : Hid (Below w.heap.size w (grow (redrawn w3 dd) os) ∧ BoxC (grow (redrawn w3 dd) os) w.heap.size (.slice x.pa x.pn x.pc) (.slice x.sa x.sn x.sc) (.slice x.wa x.wn x.wc) (.slice x.ha x.hn x.hc)) := ⟨HQ2.out dd os, B3.out.2.below (below_regrown w3 dd os)⟩
 generalize grow (redrawn w3 dd) os = w4 at *
 clear q3 qa qc HQ2 B3 HC2 kb
 by_cases hts : tn ≤ sn
 ·have hts' : (tn : Int) ≤ (sn : Int) := by omega
  have HV := HNo.out hts
  clear HNo HYes
  go_wp2
  go_ret
  exact ⟨ret_int HV.symm, B4.out.1⟩
 ·have hts' : ¬ (tn : Int) ≤ (sn : Int) := by omega
  have HV : Hid (nv = ov) := HYes.out hts
  clear HNo HYes
  have b3 := B4.out.2.2.2.2
  rw [HE.out] at b3
  have qa := HRw.out w4 B4.out.1 b HR.out.2.2.2.1
  go_wp2_with fail
  refine (HNt.out w4 B4.out.1).mono ?_
  rintro e w5 ⟨rfl, q5⟩
  have B5 : Hid (Below w.heap.size w w5) := B4.out.1.trans (q5.mono B4.out.1.size)
  rw [HV.out]
  clear q5 b3 qa B4 HNt HV
  go_wp2
  go_ret
  exact ⟨rfl, B5.out⟩
theorem l8Whole_any (x : SysIn) (ca : Option Addr) (cc : Nat) (c : List Int) (w : World) (hG : SysG w x) (hcap : ∀ i, i < x.hn → x.hL i ≤ x.hC i) (hO : x.y.Ok) (hC : x.y.Cut c) (hc : Sl w ca c) :
  Calls Tryz.prog 139 #[x.v, .slice ca c.length cc] w fun e w' => e = .returned (.bool (qB (x.y.Wh (cN c)))) ∧ Below w.heap.size w w' := by
 have hcl : c.length = x.pn := hC.len
 have h4 : x.pn ≤ 4 := hO.cn.1.2
 have hl' : (c.length : Int) ≤ 4 := by omega
 have HQ : Hid (c.length = x.pn) := hcl
 have HOv : Hid (∀ wx, Below w.heap.size w wx → ∀ a b, a < c.length → b < c.length → Calls Tryz.prog 161 #[x.v, .slice ca c.length cc, .int .i64 (a : Nat), .int .i64 (b : Nat)] wx fun e w' => e = .returned (.int .i64 (ovN x.y (cN c) a b)) ∧ Below wx.heap.size wx w') := fun wx hb a b ha hb' => l8Over_any x ca cc c a b wx (hG.below hb) hcap hO hC (hc.below hb) (by omega) (by omega)
 have BW : Hid (Below w.heap.size w (w.alloc (oQ4 x.pa x.pn x.pc x.sa x.sn x.sc x.wa x.wn x.wc x.ha x.hn x.hc))) := below_alloc _ _
 have NB : Hid (BoxC (w.alloc (oQ4 x.pa x.pn x.pc x.sa x.sn x.sc x.wa x.wn x.wc x.ha x.hn x.hc)) w.heap.size (.slice x.pa x.pn x.pc) (.slice x.sa x.sn x.sc) (.slice x.wa x.wn x.wc) (.slice x.ha x.hn x.hc)) := BoxC.new w _ _ _ _ _
 clear hG hcap hO hC hc hcl h4
 go_enter Tryz.func139, Tryz.ntmps139
 go_upto_region 1 with fail
 generalize w.alloc (oQ4 x.pa x.pn x.pc x.sa x.sn x.sc x.wa x.wn x.wc x.ha x.hn x.hc) = W2 at *
 go_wp2_with fail
 go_loopw [5] (fun i wr => ∃ k : Nat, k ≤ c.length ∧ i = .int .i64 k ∧ Hid (Below w.heap.size w wr ∧ BoxC wr w.heap.size (.slice x.pa x.pn x.pc) (.slice x.sa x.sn x.sc) (.slice x.wa x.wn x.wc) (.slice x.ha x.hn x.hc)) ∧ Hid (∀ a, a < k → ∀ b, b < c.length → tN x.y (cN c) a b ≤ sN x.y (cN c) a b)) (fun i _ => c.length - (intOf i).toNat)
 case atStart => exact ⟨0, Nat.zero_le _, rfl, ⟨BW.out, NB.out⟩, fun j hj => by omega⟩
 case round =>
  clear BW NB
  obtain ⟨k, hk, rfl, HB, HK⟩ := hrel
  by_cases hlt : k < c.length
  ·have hlt' : (k : Int) < (c.length : Int) := by omega
   go_wp2_with fail
   go_loopw [6] (fun i wr => ∃ j : Nat, j ≤ c.length ∧ i = .int .i64 j ∧ Hid (Below w.heap.size w wr ∧ BoxC wr w.heap.size (.slice x.pa x.pn x.pc) (.slice x.sa x.sn x.sc) (.slice x.wa x.wn x.wc) (.slice x.ha x.hn x.hc)) ∧ Hid (∀ b, b < j → tN x.y (cN c) k b ≤ sN x.y (cN c) k b)) (fun i _ => c.length - (intOf i).toNat)
   case atStart => exact ⟨0, Nat.zero_le _, rfl, HB.out, fun j hj => by omega⟩
   case round =>
    clear HB
    obtain ⟨j, hj, rfl, HB, HJ⟩ := hrel
    by_cases hjt : j < c.length
    ·have hjt' : (j : Int) < (c.length : Int) := by omega
     obtain ⟨b0, b1, b2, b3⟩ := HB.out.2
     go_wp2_with fail
     refine (HOv.out _ HB.out.1 k j hlt hjt).mono ?_
     rintro e w3 ⟨rfl, q3⟩
     have B3 : Hid (Below w.heap.size w w3 ∧ BoxC w3 w.heap.size (.slice x.pa x.pn x.pc) (.slice x.sa x.sn x.sc) (.slice x.wa x.wn x.wc) (.slice x.ha x.hn x.hc)) := ⟨HB.out.1.trans (q3.mono HB.out.1.size), HB.out.2.below q3⟩
     have HN : Hid (ovN x.y (cN c) k j < 0 ↔ tN x.y (cN c) k j ≤ sN x.y (cN c) k j) := ovN_neg
     generalize ovN x.y (cN c) k j = ov at *
     clear q3 b0 b1 b2 b3 HB
     by_cases ho : 0 ≤ ov
     ·have HV : Hid (qB (x.y.Wh (cN c)) = false) := qB_false fun h => by
       have h1 := HN.out.2 (h k (by have := HQ.out; show k < x.pn; omega) j (by have := HQ.out; show j < x.pn; omega))
       omega
      go_wp2
      go_ret
      rw [HV.out]
      exact ⟨rfl, B3.out.1⟩
     ·have HJ' : Hid (∀ b, b < j + 1 → tN x.y (cN c) k b ≤ sN x.y (cN c) k b) := fun b hb => by
       by_cases e : b = j
       ·subst e
        exact HN.out.1 (by omega)
       ·exact HJ.out b (by omega)
      clear HJ HN
      go_wp2
      go_roundw
      case rel => exact ⟨j + 1, by omega, by go_num, B3.out, HJ'.out⟩
      case measure => simp [intOf]; omega
    ·have HK' : Hid (∀ a, a < k + 1 → ∀ b, b < c.length → tN x.y (cN c) a b ≤ sN x.y (cN c) a b) := fun a ha b hb => by
      by_cases e : a = k
      ·subst e
       exact HJ.out b (by omega)
      ·exact HK.out a (by omega) b hb
     clear HK HJ
     go_wp2
     go_roundw
     case rel => exact ⟨k + 1, by omega, by go_num, HB.out, HK'.out⟩
     case measure => simp [intOf]; omega
  ·have HV : Hid (qB (x.y.Wh (cN c)) = true) := qB_true fun a ha b hb => HK.out a (by have := HQ.out; have h1 : a < x.pn := ha; omega) b (by have := HQ.out; have h1 : b < x.pn := hb; omega)
   have B3 := HB.out.1
   clear HK HB
   go_wp2
   go_ret
   rw [HV.out]
   exact ⟨rfl, B3⟩
section
variable {P : Program} {ops : Array Oper} {Q : Exit → Act → World → Prop} {md : Region.Mode} {S : World → Prop} {G : Nat → Bool}
theorem wpG_three (lst : Bool → Bool → Bool → Bool → Array Bool) (i2 i3 i4 i5 : Nat) {o5 : Oper} (I : Bool → Bool → Bool → Act → World → Prop) (J : Bool → Act → World → Prop) {f0 : Nat}
  (hrd : ∀ b c d, (b && c) = false → Region.ready md ops (lst b c d false) = outI b i2 ++ (outI c i3 ++ outI d i4))
  (s2 : ∀ c d, (lst false c d false).setIfInBounds i2 true = lst true c d false) (s3 : ∀ b d, (lst b false d false).setIfInBounds i3 true = lst b true d false) (s4 : ∀ b c e, (lst b c false e).setIfInBounds i4 true = lst b c true e) (s5 : ∀ d, (lst true true d false).setIfInBounds i5 true = lst true true d true)
  (e5 : ops.toList[i5]? = some o5) (hs : Region.noSelect ops = true) (hf : ∀ d, Region.free md ops (lst true true d false) i5 = true) (hr5 : ∀ d, (Region.ready md ops (lst true true d false)).contains i5 = true) (hrJ : Region.ready md ops (lst true true false true) = [i4]) (hQ : ∀ v c a w, Q (.panic c) (a.put o5.dst v) w → Q (.panic c) a w)
  (h2 : ∀ c d x w, I false c d x w → wpOp P ops Q i2 (fun x' w' => (S w → G i2 = false → S w') ∧ I true c d x' w') x w)
  (h3 : ∀ b d x w, I b false d x w → wpOp P ops Q i3 (fun x' w' => (S w → G i3 = false → S w') ∧ I b true d x' w') x w) (h4 : ∀ b c x w, I b c false x w → wpOp P ops Q i4 (fun x' w' => (S w → G i4 = false → S w') ∧ I b c true x' w') x w)
  (h5 : ∀ d x w, I true true d x w → Region.wanted o5 (yielded ops x.tmps) = true ∧ ∃ v, (∀ w, (execOp x.eval o5).run P w = .ok (.value v) w) ∧ J d (x.put o5.dst v) w)
  (hJ : ∀ x w, J false x w → wpOp P ops Q i4 (fun x' w' => (S w → G i4 = false → S w') ∧ J true x' w') x w)
  (hend : ∀ x w, J true x w → wpG P md ops Q S G f0 (lst true true true true) x w) :
  ∀ (m : Nat) (b c d : Bool) (x : Act) (w : World), notB b + notB c + notB d = m → I b c d x w → wpG P md ops Q S G (f0 + m + 1) (lst b c d false) x w := by
 intro m
 induction m with
 | zero =>
  intro b c d x w hm hI
  obtain ⟨rfl, rfl, rfl⟩ : b = true ∧ c = true ∧ d = true := by
   cases b <;> cases c <;> cases d <;> simp [notB] at hm ⊢
  obtain ⟨hw, v, hv, hj⟩ := h5 _ x w hI
  exact wpG_takeW i5 e5 hs (hf _) (hr5 _) hQ hw ⟨v, hv, by rw [s5]; exact hend _ _ hj⟩
 | succ m ih =>
  intro b c d x w hm hI
  rcases Bool.eq_false_or_eq_true (b && c) with hT | hne
  ·obtain ⟨rfl, rfl⟩ : b = true ∧ c = true := by
    cases b <;> cases c <;> simp at hT ⊢
   obtain ⟨rfl, rfl⟩ : d = false ∧ m = 0 := by
    cases d <;> simp [notB] at hm ⊢ <;> exact hm
   obtain ⟨hw, v, hv, hj⟩ := h5 _ x w hI
   refine wpG_takeW i5 e5 hs (hf _) (hr5 _) hQ hw ⟨v, hv, ?_⟩
   rw [s5]
   refine ⟨(fun h0 => by rw [hrJ] at h0; cases h0), fun i hi => ?_⟩
   rw [hrJ] at hi
   obtain rfl := List.mem_singleton.1 hi
   refine wpOp_mono (fun x' w' h => ⟨h.1, ?_⟩) (hJ _ _ hj)
   rw [s4]
   exact hend _ _ h.2
  have hr := hrd b c d hne
  refine ⟨fun h0 => ?_, fun i hi => ?_⟩
  ·rw [hr] at h0
   cases b <;> cases c <;> cases d <;> simp [outI] at h0 hne
  ·rw [hr, List.mem_append, List.mem_append] at hi
   rcases hi with hi | hi | hi
   ·obtain ⟨rfl, rfl⟩ := outI_mem hi
    refine wpOp_mono (fun x' w' h => ⟨h.1, ?_⟩) (h2 c d x w hI)
    rw [s2]
    exact ih true c d x' w' (by simp [notB] at hm ⊢; omega) h.2
   ·obtain ⟨rfl, rfl⟩ := outI_mem hi
    refine wpOp_mono (fun x' w' h => ⟨h.1, ?_⟩) (h3 b d x w hI)
    rw [s3]
    exact ih b true d x' w' (by simp [notB] at hm ⊢; omega) h.2
   ·obtain ⟨rfl, rfl⟩ := outI_mem hi
    refine wpOp_mono (fun x' w' h => ⟨h.1, ?_⟩) (h4 b c x w hI)
    rw [s4]
    exact ih b c true x' w' (by simp [notB] at hm ⊢; omega) h.2
end
end Go.Proofs.YtcplnkhdclcgfaaGreatDoor
