/- Of a right system: its events, how many and with whom. -/
import Derived.Test.YthdaejgmfognbabGreatDoorWd0
import Derived.Test.YthdaejgmfognbabGreatDoorWd16
import Derived.Test.YthdaejgmfognbabGreatDoorWd17
import Derived.Test.YthdaejgmfognbabGreatDoorWd30
import Derived.Test.YthdaejgmfognbabGreatDoorWd15
import Derived.Test.YthdaejgmfognbabGreatDoorWd29
namespace Go.Proofs.YthdaejgmfognbabGreatDoor
set_option maxRecDepth 100000
set_option maxHeartbeats 2000000
open Go.ChangeShapes Go.WideShapes Go.ChangeAt Go.RowKit Go.Deep
structure SysIn where
 pa : Option Addr
 pn : Nat
 pc : Nat
 pA : Nat -> Option Addr
 pL : Nat -> Nat
 pC : Nat -> Nat
 pH : Nat -> Nat -> I5
 sa : Option Addr
 sn : Nat
 sc : Nat
 sQ : Nat -> St8
 wa : Option Addr
 wn : Nat
 wc : Nat
 wA : Nat -> Option Addr
 wL : Nat -> Nat
 wC : Nat -> Nat
 wH : Nat -> Nat -> I2
 ha : Option Addr
 hn : Nat
 hc : Nat
 hA : Nat -> Option Addr
 hL : Nat -> Nat
 hC : Nat -> Nat
 hH : Nat -> Nat -> E3
def SysIn.sS (x : SysIn) : Nat -> S4 := fun i => (x.sQ i).s
def SysIn.size (x : SysIn) : Nat := x.pn + sumL x.pL x.pn + (x.sn + sumL (lenS x.sS) x.sn) + (x.wn + sumL x.wL x.wn) + (x.hn + sumL x.hL x.hn)
abbrev sysV (pa : Option Addr) (pn pc : Nat) (sa : Option Addr) (sn sc : Nat) (wa : Option Addr) (wn wc : Nat) (ha : Option Addr) (hn hc : Nat) : Value := .agg #[.slice pa pn pc, .slice sa sn sc, .slice wa wn wc, .slice ha hn hc]
structure SysIn.Row (W : World) (x : SysIn) : Prop where
 p : RowS W x.pa x.pn fun i => .slice (x.pA i) (x.pL i) (x.pC i)
 s : AllState W x.sa x.sn x.sQ
 w : RowS W x.wa x.wn fun i => .slice (x.wA i) (x.wL i) (x.wC i)
 h : RowS W x.ha x.hn fun i => .slice (x.hA i) (x.hL i) (x.hC i)
structure SysIn.Max (x : SysIn) : Prop where
 p : x.pn <= maxLen /\ ∀ i, i < x.pn -> x.pL i <= maxLen
 s : x.sn <= maxLen /\ ∀ i, i < x.sn -> (x.sQ i).rs.length <= maxLen /\ (x.sQ i).os.length <= maxLen
 w : x.wn <= maxLen /\ ∀ i, i < x.wn -> x.wL i <= maxLen
 h : x.hn <= maxLen /\ ∀ i, i < x.hn -> x.hL i <= maxLen
structure SysIn.Ok (W : World) (x : SysIn) : Prop where
 p : AllIns W x.pa x.pn x.pA x.pL x.pC x.pH
 s : AllState W x.sa x.sn x.sQ
 w : AllItem W x.wa x.wn x.wA x.wL x.wC x.wH
 h : AllEvent W x.ha x.hn x.hA x.hL x.hC x.hH
theorem SysIn.Ok.row {W : World} {x : SysIn} (h : x.Ok W) : x.Row W := ⟨h.p.row, h.s, h.w.row, h.h.row⟩
theorem SysIn.Row.below {W w : World} {x : SysIn} (h : x.Row W) (hb : Below W.heap.size W w) : x.Row w := ⟨h.p.below hb, h.s.below hb, h.w.below hb, h.h.below hb⟩
theorem szSys_small (x : SysIn) (w : World) (hr : x.Row w) (h : x.size <= 1048576) :
  Calls Tryz.prog 5 #[sysV x.pa x.pn x.pc x.sa x.sn x.sc x.wa x.wn x.wc x.ha x.hn x.hc, .int .i64 1048576] w fun e w' => e = .returned (.int .i64 (1048576 - (x.size : Nat))) /\ Below w.heap.size w w' := by
 have HR : Hid (x.Row w) := hr
 have hh : x.size = x.pn + sumL x.pL x.pn + (x.sn + sumL (lenS x.sS) x.sn) + (x.wn + sumL x.wL x.wn) + (x.hn + sumL x.hL x.hn) := rfl
 generalize e1 : (1048576 : Int) - x.pn - (sumL x.pL x.pn : Nat) = L1
 generalize e2 : L1 - x.sn - (sumL (lenS x.sS) x.sn : Nat) = L2
 generalize e3 : L2 - x.wn - (sumL x.wL x.wn : Nat) = L3
 have n1 : ¬ L1 < 0 := by omega
 have n2 : ¬ L2 < 0 := by omega
 have n3 : ¬ L3 < 0 := by omega
 have n4 : ¬ L3 - x.hn - (sumL x.hL x.hn : Nat) < 0 := by omega
 have q1 : ((x.pn : Int) + (sumL x.pL x.pn : Nat) <= 1048576) := by omega
 have q2 : ((x.sn : Int) + (sumL (lenS x.sS) x.sn : Nat) <= L1) /\ L1 <= 1048576 := by omega
 have q3 : ((x.wn : Int) + (sumL x.wL x.wn : Nat) <= L2) /\ L2 <= 1048576 := by omega
 have q4 : ((x.hn : Int) + (sumL x.hL x.hn : Nat) <= L3) /\ L3 <= 1048576 := by omega
 have e4 : L3 - x.hn - (sumL x.hL x.hn : Nat) = 1048576 - (x.size : Nat) := by omega
 have E1 : Hid ((1048576 : Int) - x.pn - (sumL x.pL x.pn : Nat) = L1) := e1
 have E2 : Hid (L1 - x.sn - (sumL (lenS x.sS) x.sn : Nat) = L2) := e2
 have E3 : Hid (L2 - x.wn - (sumL x.wL x.wn : Nat) = L3) := e3
 have E4 : Hid (L3 - x.hn - (sumL x.hL x.hn : Nat) = 1048576 - (x.size : Nat)) := e4
 have Q : Hid (((x.pn : Int) + (sumL x.pL x.pn : Nat) <= 1048576) /\ (((x.sn : Int) + (sumL (lenS x.sS) x.sn : Nat) <= L1) /\ L1 <= 1048576) /\ (((x.wn : Int) + (sumL x.wL x.wn : Nat) <= L2) /\ L2 <= 1048576) /\ (((x.hn : Int) + (sumL x.hL x.hn : Nat) <= L3) /\ L3 <= 1048576)) := ⟨q1, q2, q3, q4⟩
 rw [e4] at n4
 clear hr h hh e1 e2 e3 e4 q1 q2 q3 q4
 go_enter Tryz.func5, Tryz.ntmps5
 go_wp2_with fail
 refine (szInsSS_small _ _ _ _ x.pL _ _ _ (HR.out.p.below (by go_grown)) Q.out.1 (Int.le_refl _)).mono ?_
 rintro e w1 ⟨rfl, rfl⟩
 rw [E1.out]
 go_wp2_with fail
 refine (szStateS_small _ _ _ x.sQ _ _ (HR.out.s.below (by go_grown)) Q.out.2.1.1 Q.out.2.1.2).mono ?_
 rintro e w2 ⟨rfl, b2⟩
 rw [show ((sumL (lenS fun i => (x.sQ i).s) x.sn : Nat) : Int) = (sumL (lenS x.sS) x.sn : Nat) from rfl, E2.out]
 have B2 : Hid (Below w.heap.size w w2) := below_up (by go_grown) b2 (by simp)
 have hw2 := b2.size
 obtain ⟨hc2, hf2⟩ := bcell b2
 clear b2
 go_wp2_with fail
 refine (szItemSS_small _ _ _ _ x.wL _ _ _ (HR.out.w.below B2.out) Q.out.2.2.1.1 Q.out.2.2.1.2).mono ?_
 rintro e w3 ⟨rfl, rfl⟩
 rw [E3.out]
 go_wp2_with fail
 refine (szEventSS_small _ _ _ _ x.hL _ _ _ (HR.out.h.below B2.out) Q.out.2.2.2.1 Q.out.2.2.2.2).mono ?_
 rintro e w4 ⟨rfl, rfl⟩
 rw [E4.out]
 go_wp2
 go_ret
 exact ⟨rfl, B2.out⟩
theorem szSys_great (x : SysIn) (w : World) (hr : x.Row w) (hm : x.Max) (h : 1048576 < x.size) :
  Calls Tryz.prog 5 #[sysV x.pa x.pn x.pc x.sa x.sn x.sc x.wa x.wn x.wc x.ha x.hn x.hc, .int .i64 1048576] w fun e w' => e = .returned (.int .i64 (-1)) /\ Below w.heap.size w w' := by
 have HR : Hid (x.Row w) := hr
 have HM : Hid x.Max := hm
 have hh : x.size = x.pn + sumL x.pL x.pn + (x.sn + sumL (lenS x.sS) x.sn) + (x.wn + sumL x.wL x.wn) + (x.hn + sumL x.hL x.hn) := rfl
 have HH : Hid (1048576 < x.pn + sumL x.pL x.pn + (x.sn + sumL (lenS x.sS) x.sn) + (x.wn + sumL x.wL x.wn) + (x.hn + sumL x.hL x.hn)) := hh ▸ h
 clear hr h hh hm
 by_cases q1 : (x.pn : Int) + (sumL x.pL x.pn : Nat) <= 1048576
 case neg =>
  have Q1 : Hid (1048576 < (x.pn : Int) + (sumL x.pL x.pn : Nat)) := by show 1048576 < _; omega
  clear q1
  go_enter Tryz.func5, Tryz.ntmps5
  go_wp2_with fail
  refine (szInsSS_great _ _ _ _ x.pL _ _ _ (HR.out.p.below (by go_grown)) Q1.out (by omega) (Int.le_refl _) HM.out.p.1 HM.out.p.2).mono ?_
  rintro e w1 ⟨rfl, rfl⟩
  go_wp2
  go_ret
  exact ⟨rfl, by go_grown⟩
 generalize e1 : (1048576 : Int) - x.pn - (sumL x.pL x.pn : Nat) = L1
 have E1 : Hid ((1048576 : Int) - x.pn - (sumL x.pL x.pn : Nat) = L1) := e1
 have n1 : ¬ L1 < 0 := by omega
 have n1' : 0 <= L1 /\ L1 <= 1048576 := by omega
 have N1 : Hid (0 <= L1 /\ L1 <= 1048576) := n1'
 have Q1 : Hid ((x.pn : Int) + (sumL x.pL x.pn : Nat) <= 1048576) := q1
 by_cases q2 : (x.sn : Int) + (sumL (lenS x.sS) x.sn : Nat) <= L1
 case neg =>
  have Q2 : Hid (L1 < (x.sn : Int) + (sumL (lenS x.sS) x.sn : Nat)) := by show L1 < _; omega
  clear q1 q2 e1 n1'
  go_enter Tryz.func5, Tryz.ntmps5
  go_wp2_with fail
  refine (szInsSS_small _ _ _ _ x.pL _ _ _ (HR.out.p.below (by go_grown)) Q1.out (Int.le_refl _)).mono ?_
  rintro e w1 ⟨rfl, rfl⟩
  rw [E1.out]
  go_wp2_with fail
  refine (szStateS_great _ _ _ x.sQ _ _ (HR.out.s.below (by go_grown)) Q2.out N1.out.1 N1.out.2 HM.out.s.1 HM.out.s.2).mono ?_
  rintro e w2 ⟨rfl, b2⟩
  have B2 : Hid (Below w.heap.size w w2) := below_up (by go_grown) b2 (by simp)
  go_wp2
  go_ret
  exact ⟨rfl, B2.out⟩
 generalize e2 : L1 - x.sn - (sumL (lenS x.sS) x.sn : Nat) = L2
 have E2 : Hid (L1 - x.sn - (sumL (lenS x.sS) x.sn : Nat) = L2) := e2
 have n2 : ¬ L2 < 0 := by omega
 have n2' : 0 <= L2 /\ L2 <= 1048576 := by omega
 have N2 : Hid (0 <= L2 /\ L2 <= 1048576) := n2'
 have Q2 : Hid ((x.sn : Int) + (sumL (lenS x.sS) x.sn : Nat) <= L1) := q2
 by_cases q3 : (x.wn : Int) + (sumL x.wL x.wn : Nat) <= L2
 case neg =>
  have Q3 : Hid (L2 < (x.wn : Int) + (sumL x.wL x.wn : Nat)) := by show L2 < _; omega
  clear q1 q2 q3 e1 e2 n1' n2'
  go_enter Tryz.func5, Tryz.ntmps5
  go_wp2_with fail
  refine (szInsSS_small _ _ _ _ x.pL _ _ _ (HR.out.p.below (by go_grown)) Q1.out (Int.le_refl _)).mono ?_
  rintro e w1 ⟨rfl, rfl⟩
  rw [E1.out]
  go_wp2_with fail
  refine (szStateS_small _ _ _ x.sQ _ _ (HR.out.s.below (by go_grown)) Q2.out N1.out.2).mono ?_
  rintro e w2 ⟨rfl, b2⟩
  rw [show ((sumL (lenS fun i => (x.sQ i).s) x.sn : Nat) : Int) = (sumL (lenS x.sS) x.sn : Nat) from rfl, E2.out]
  have B2 : Hid (Below w.heap.size w w2) := below_up (by go_grown) b2 (by simp)
  have hw2 := b2.size
  obtain ⟨hc2, hf2⟩ := bcell b2
  clear b2
  go_wp2_with fail
  refine (szItemSS_great _ _ _ _ x.wL _ _ _ (HR.out.w.below B2.out) Q3.out N2.out.1 N2.out.2 HM.out.w.1 HM.out.w.2).mono ?_
  rintro e w3 ⟨rfl, rfl⟩
  go_wp2
  go_ret
  exact ⟨rfl, B2.out⟩
 generalize e3 : L2 - x.wn - (sumL x.wL x.wn : Nat) = L3
 have E3 : Hid (L2 - x.wn - (sumL x.wL x.wn : Nat) = L3) := e3
 have n3 : ¬ L3 < 0 := by omega
 have n3' : 0 <= L3 /\ L3 <= 1048576 := by omega
 have N3 : Hid (0 <= L3 /\ L3 <= 1048576) := n3'
 have Q3 : Hid ((x.wn : Int) + (sumL x.wL x.wn : Nat) <= L2) := q3
 have Q4 : Hid (L3 < (x.hn : Int) + (sumL x.hL x.hn : Nat)) := by
  show L3 < _
  have := HH.out
  omega
 clear q1 q2 q3 e1 e2 e3 n1' n2' n3' HH
 go_enter Tryz.func5, Tryz.ntmps5
 go_wp2_with fail
 refine (szInsSS_small _ _ _ _ x.pL _ _ _ (HR.out.p.below (by go_grown)) Q1.out (Int.le_refl _)).mono ?_
 rintro e w1 ⟨rfl, rfl⟩
 rw [E1.out]
 go_wp2_with fail
 refine (szStateS_small _ _ _ x.sQ _ _ (HR.out.s.below (by go_grown)) Q2.out N1.out.2).mono ?_
 rintro e w2 ⟨rfl, b2⟩
 rw [show ((sumL (lenS fun i => (x.sQ i).s) x.sn : Nat) : Int) = (sumL (lenS x.sS) x.sn : Nat) from rfl, E2.out]
 have B2 : Hid (Below w.heap.size w w2) := below_up (by go_grown) b2 (by simp)
 have hw2 := b2.size
 obtain ⟨hc2, hf2⟩ := bcell b2
 clear b2
 go_wp2_with fail
 refine (szItemSS_small _ _ _ _ x.wL _ _ _ (HR.out.w.below B2.out) Q3.out N2.out.2).mono ?_
 rintro e w3 ⟨rfl, rfl⟩
 rw [E3.out]
 go_wp2_with fail
 refine (szEventSS_great _ _ _ _ x.hL _ _ _ (HR.out.h.below B2.out) Q4.out N3.out.1 N3.out.2 HM.out.h.1 HM.out.h.2).mono ?_
 rintro e w4 ⟨rfl, rfl⟩
 go_wp2
 go_ret
 exact ⟨rfl, B2.out⟩
structure OutSys (w : World) (lo hi : Nat) (x : SysIn) (v : Value) (D1 D2 D3 D4 : Nat) (b1 : Nat -> Nat) (vs : Nat -> Value) (b3 b4 : Nat -> Nat) (h1 h2 h3 : Nat) : Prop where
 val : v = sysV (some ⟨D1, 0, none⟩) x.pn x.pn (some ⟨D2, 0, none⟩) x.sn x.sn (some ⟨D3, 0, none⟩) x.wn x.wn (some ⟨D4, 0, none⟩) x.hn x.hn
 pp : OutIns w D1 h1 x.pn x.pL b1 x.pH
 ss : OutState w D2 h2 x.sn x.sS vs
 ww : OutItem w D3 h3 x.wn x.wL b3 x.wH
 hh : OutEvent w D4 hi x.hn x.hL b4 x.hH
 lo : lo <= D1
 o1 : h1 <= D2
 o2 : h2 <= D3
 o3 : h3 <= D4
def IsSys (w : World) (lo hi : Nat) (x : SysIn) (v : Value) : Prop := ∃ D1 D2 D3 D4 b1 vs b3 b4 h1 h2 h3, OutSys w lo hi x v D1 D2 D3 D4 b1 vs b3 b4 h1 h2 h3
theorem OutSys.hi {w : World} {lo hi : Nat} {x : SysIn} {v : Value} {D1 D2 D3 D4 : Nat} {b1 : Nat -> Nat} {vs : Nat -> Value} {b3 b4 : Nat -> Nat} {h1 h2 h3 : Nat} (o : OutSys w lo hi x v D1 D2 D3 D4 b1 vs b3 b4 h1 h2 h3) : h1 <= hi /\ h2 <= hi /\ h3 <= hi /\ hi <= w.heap.size /\ lo < hi := by
 have := o.pp.lt
 have := o.ss.lt
 have := o.ww.lt
 have := o.hh.lt
 have := o.lo
 have := o.o1
 have := o.o2
 have := o.o3
 have := o.hh.le
 omega
theorem IsSys.below {w w' : World} {lo hi : Nat} {x : SysIn} {v : Value} {B : Nat} (o : IsSys w lo hi x v) (hb : Below B w w') (hB : hi <= B) : IsSys w' lo hi x v := by
 obtain ⟨D1, D2, D3, D4, b1, vs, b3, b4, h1, h2, h3, o⟩ := o
 obtain ⟨q1, q2, q3, -, -⟩ := o.hi
 exact ⟨D1, D2, D3, D4, b1, vs, b3, b4, h1, h2, h3, o.val, o.pp.below hb (by omega), o.ss.below hb (by omega), o.ww.below hb (by omega), o.hh.below hb hB, o.lo, o.o1, o.o2, o.o3⟩
structure Sy where
 pn : Nat
 pL : Nat -> Nat
 pH : Nat -> Nat -> I5
 sn : Nat
 sS : Nat -> S4
 wn : Nat
 wL : Nat -> Nat
 wH : Nat -> Nat -> I2
 hn : Nat
 hL : Nat -> Nat
 hH : Nat -> Nat -> E3
def SysIn.y (x : SysIn) : Sy := ⟨x.pn, x.pL, x.pH, x.sn, x.sS, x.wn, x.wL, x.wH, x.hn, x.hL, x.hH⟩
def Sy.hs (y : Sy) : Hs := ⟨y.pn, y.hL, y.hH⟩
def itemB (x : I2) : Bool := numB x.v && (!x.m || x.v == 0)
structure WayP (h : Nat -> I2) (len : Nat) (took sent : List Int) : Prop where
 it : ∀ i, i < len -> itemB (h i) = true
 le : len <= 12
 eq : took ++ numL h len = sent
structure Sy.Ok (y : Sy) : Prop where
 cn : (1 <= y.pn /\ y.pn <= 4) /\ y.sn = y.pn /\ y.hn = y.pn /\ y.wn = y.pn * y.pn
 pr : ∀ p, p < y.pn -> progOkB (y.pH p) (y.pL p) y.pn = true
 rp : ∀ p, p < y.pn -> repO (y.pH p) (y.pL p) (y.hH p) (y.hL p) = some (y.sS p)
 pe : ∀ p, p < y.pn -> ∀ i, i < y.hL p -> (y.hH p i).q < (y.pn : Int)
 wa : ∀ a, a < y.pn -> ∀ b, b < y.pn -> WayP (y.wH (a * y.pn + b)) (y.wL (a * y.pn + b)) (valL (y.hH b) 3 a (y.hL b)) (valL (y.hH a) 2 b (y.hL a))
 ro : y.hs.Row
noncomputable def Sy.okB (y : Sy) : Bool := @decide y.Ok (Classical.propDecidable _)
theorem Sy.okB_true {y : Sy} (h : y.Ok) : y.okB = true := by simp [Sy.okB, h]
theorem Sy.okB_false {y : Sy} (h : ¬ y.Ok) : y.okB = false := by simp [Sy.okB, h]
theorem Sy.ok_of {y : Sy} (h : y.okB = true) : y.Ok := by simpa [Sy.okB] using h
theorem evP_pos {g : Nat -> I5} {len : Nat} {k : Nat} (h : progOkB g len 4 = true) (hk : k < len) : 0 <= evP (g k).o (g k).n := by
 have h5 := right_ins h hk
 simp only [insOkB, Bool.and_eq_true] at h5
 have h6 := h5.2
 unfold evP
 by_cases e6 : (g k).o = 6
 ·rw [if_pos e6]
  simp [opOkB, e6, inB] at h6
  omega
 ·rw [if_neg e6]
  by_cases e7 : (g k).o = 7
  ·rw [if_pos e7]
   simp [opOkB, e7, inB] at h6
   omega
  ·rw [if_neg e7]
   exact Int.le_refl _
theorem doB_peer {g : Nat -> I5} {len : Nat} {p : Int} {rs os : List Int} {code k q v : Int} (h : doB g len p rs os code k q v = true) : 0 <= q := by
 have hr := doB_right h
 obtain ⟨h1, h2, -⟩ := right_parts hr
 obtain ⟨-, ⟨j, rfl, hj⟩, -⟩ := st_parts h2
 have hp := evP_pos h1 hj
 simp only [doB, canB, nxP, if_pos hr, Int.toNat_natCast] at h
 split at h
 ·simp only [Bool.and_eq_true] at h
  have h3 := h.2
  split at h3
  ·simp only [belB, decide_eq_true_eq] at h3
   omega
  ·simp only [beq_iff_eq] at h3
   omega
 ·simp only [Bool.and_eq_true, beq_iff_eq] at h
  have := h.2.2.1
  omega
theorem rp_peer {g : Nat -> I5} {len : Nat} {eh : Nat -> E3} : ∀ {k : Nat} {S : S4}, rp g len eh k = some S -> ∀ i, i < k -> 0 <= (eh i).q
 | 0, _, _, i, hi => by omega
 | k + 1, S, h, i, hi => by
  simp only [rp] at h
  cases hr : rp g len eh k with
  | none => rw [hr] at h; cases h
  | some S0 =>
   rw [hr] at h
   simp only [Option.bind_some, rpStep] at h
   split at h
   ·rename_i hd
    by_cases e : i = k
    ·subst e
     exact doB_peer hd
    ·exact rp_peer hr i (by omega)
   ·cases h
theorem repO_some {g : Nat -> I5} {n : Nat} {eh : Nat -> E3} {m : Nat} {S : S4} (h : repO g n eh m = some S) : progOkB g n 4 = true /\ m <= 200 /\ rp g n eh m = some S := by
 unfold repO at h
 split at h
 ·rename_i hc
  exact ⟨hc.1, hc.2, h⟩
 ·cases h
structure SysG (W : World) (x : SysIn) : Prop where
 p : RowS W x.pa x.pn fun i => .slice (x.pA i) (x.pL i) (x.pC i)
 pi : ∀ i, i < x.pn -> ∃ b, x.pA i = some ⟨b, 0, none⟩ /\ b < W.heap.size /\ InsAt W b 0 (x.pL i) (x.pH i)
 s : AllState W x.sa x.sn x.sQ
 w : RowS W x.wa x.wn fun i => .slice (x.wA i) (x.wL i) (x.wC i)
 wi : ∀ i, i < x.wn -> ItL W (x.wA i) (x.wL i) (x.wH i)
 h : RowS W x.ha x.hn fun i => .slice (x.hA i) (x.hL i) (x.hC i)
 hi : ∀ i, i < x.hn -> EvL W (x.hA i) (x.hL i) (x.hH i)
theorem SysG.below {w w' : World} {x : SysIn} (o : SysG w x) (hb : Below w.heap.size w w') : SysG w' x :=
 ⟨o.p.below hb, fun i hi => by
  obtain ⟨b, e, hlt, hI⟩ := o.pi i hi
  exact ⟨b, e, zL hlt hb.size, hI.below hb hlt⟩, o.s.below hb, o.w.below hb, fun i hi => (o.wi i hi).below hb, o.h.below hb, fun i hi => (o.hi i hi).below hb⟩
structure SysIn.Len (x : SysIn) : Prop where
 p : x.pn <= 1048576 /\ ∀ i, i < x.pn -> x.pL i <= 1048576
 s : x.sn <= 1048576 /\ ∀ i, i < x.sn -> (x.sQ i).rs.length <= 1048576 /\ (x.sQ i).os.length <= 1048576
 w : x.wn <= 1048576 /\ ∀ i, i < x.wn -> x.wL i <= 1048576
 h : x.hn <= 1048576 /\ ∀ i, i < x.hn -> x.hL i <= 1048576
abbrev SysIn.v (x : SysIn) : Value := sysV x.pa x.pn x.pc x.sa x.sn x.sc x.wa x.wn x.wc x.ha x.hn x.hc
theorem IsSys.g {w : World} {lo hi : Nat} {x : SysIn} {v : Value} (o : IsSys w lo hi x v) : ∃ x' : SysIn, v = x'.v /\ SysG w x' /\ x'.y = x.y := by
 obtain ⟨D1, D2, D3, D4, b1, vs, b3, b4, h1, h2, h3, o⟩ := o
 obtain ⟨q1, q2, q3, q4, -⟩ := o.hi
 have hst : ∀ i, i < x.sn -> ∃ t : Option Addr × Nat × Option Addr × Nat, vs i = stV (x.sS i).p t.1 (x.sS i).rs.length t.2.1 t.2.2.1 (x.sS i).os.length t.2.2.2 (x.sS i).c /\ w.cell? ⟨D2, i * 4, none⟩ = some (.int .i64 (x.sS i).p) /\ w.cell? ⟨D2, i * 4 + 1, none⟩ = some (.slice t.1 (x.sS i).rs.length t.2.1) /\ w.cell? ⟨D2, i * 4 + 2, none⟩ = some (.slice t.2.2.1 (x.sS i).os.length t.2.2.2) /\ w.cell? ⟨D2, i * 4 + 3, none⟩ = some (.int .i64 (x.sS i).c) := by
  intro i hi
  obtain ⟨ra, rc, oa, oc, e, c0, c1, c2, c3⟩ := o.ss.cel i hi
  exact ⟨(ra, rc, oa, oc), e, c0, c1, c2, c3⟩
 have inh : Inhabited (Option Addr × Nat × Option Addr × Nat) := ⟨(none, 0, none, 0)⟩
 obtain ⟨t, ht⟩ := Go.Deep.choose_lt hst
 refine ⟨⟨some ⟨D1, 0, none⟩, x.pn, x.pn, fun i => some ⟨b1 i, 0, none⟩, x.pL, x.pL, x.pH, some ⟨D2, 0, none⟩, x.sn, x.sn, fun i => ⟨(x.sS i).p, (t i).1, (t i).2.1, (x.sS i).rs, (t i).2.2.1, (t i).2.2.2, (x.sS i).os, (x.sS i).c⟩, some ⟨D3, 0, none⟩, x.wn, x.wn, fun i => some ⟨b3 i, 0, none⟩, x.wL, x.wL, x.wH, some ⟨D4, 0, none⟩, x.hn, x.hn, fun i => some ⟨b4 i, 0, none⟩, x.hL, x.hL, x.hH⟩, o.val, ?_, rfl⟩
 have l1 := o.pp.lt
 have l2 := o.ss.lt
 have l3 := o.ww.lt
 have l4 := o.hh.lt
 refine ⟨.inr ⟨D1, 0, rfl, by omega, fun i hi => ?_⟩, fun i hi => ⟨b1 i, rfl, zL (o.pp.bd i hi).2 o.pp.le, o.pp.row i hi⟩, ⟨.inr ⟨D2, 0, rfl, by omega, fun i hi => ?_⟩, fun i hi => ?_⟩, .inr ⟨D3, 0, rfl, by omega, fun i hi => ?_⟩, fun i hi => .inr ⟨b3 i, 0, rfl, zL (o.ww.bd i hi).2 o.ww.le, o.ww.row i hi⟩, .inr ⟨D4, 0, rfl, by omega, fun i hi => ?_⟩, fun i hi => .inr ⟨b4 i, 0, rfl, zL (o.hh.bd i hi).2 o.hh.le, o.hh.row i hi⟩⟩
 ·have := o.pp.cel i hi
  simpa using this
 ·have := (ht i hi).2
  simpa using this
 ·have h4 := o.ss.own i hi
  rw [(ht i hi).1] at h4
  exact ⟨h4.parts.1.slOf, h4.parts.2.1.slOf⟩
 ·have := o.ww.cel i hi
  simpa using this
 ·have := o.hh.cel i hi
  simpa using this
theorem below_allocS (w : World) (o : Obj) : Below w.heap.size w (w.alloc o) := (Below.refl _ _).alloc (Nat.le_refl _) _
theorem sum_le {n : Nat} {ls : Nat -> Nat} {N : Nat} (h : sumL ls n <= N) : ∀ i, i < n -> ls i <= N := fun i hi => by
 have := sumL_at ls hi
 omega
theorem SysIn.lens {x : SysIn} (h : x.size <= 1048576) : (x.pn <= 1048576 /\ sumL x.pL x.pn <= 1048576) /\ (x.sn <= 1048576 /\ sumL (lenS x.sS) x.sn <= 1048576) /\ (x.wn <= 1048576 /\ sumL x.wL x.wn <= 1048576) /\ (x.hn <= 1048576 /\ sumL x.hL x.hn <= 1048576) := by
 unfold SysIn.size at h
 omega
theorem SysIn.lensS {x : SysIn} (h : x.size <= 1048576) : ∀ i, i < x.sn -> (x.sQ i).rs.length <= 1048576 /\ (x.sQ i).os.length <= 1048576 := fun i hi => by
 have := sum_le (SysIn.lens h).2.1.2 i hi
 have e : lenS x.sS i = (x.sQ i).rs.length + (x.sQ i).os.length := rfl
 omega
structure TB (w wx : World) (a0 a1 a2 a3 o0 o1 o2 o3 : Value) : Prop where
 p : BoxC wx w.heap.size a0 a1 a2 a3
 r : BoxC wx (w.heap.size + 1) (.slice none 0 0) (.slice none 0 0) (.slice none 0 0) (.slice none 0 0)
 o : BoxC wx (w.heap.size + 1 + 1) o0 o1 o2 o3
 fr : ∀ j, wx.frozen? ⟨w.heap.size + 1, j, none⟩ = false
 fo : ∀ j, wx.frozen? ⟨w.heap.size + 1 + 1, j, none⟩ = false
 be : Below w.heap.size w wx
 le : w.heap.size + 3 <= wx.heap.size
theorem TB.below {w wx w' : World} {a0 a1 a2 a3 o0 o1 o2 o3 : Value} (h : TB w wx a0 a1 a2 a3 o0 o1 o2 o3) (hb : Below wx.heap.size wx w') : TB w w' a0 a1 a2 a3 o0 o1 o2 o3 :=
 ⟨h.p.below hb, h.r.below hb, h.o.below hb, fun j => (hb.frozen (p := ⟨w.heap.size + 1, j, none⟩) (by have := h.le; show w.heap.size + 1 < _; omega)).trans (h.fr j), fun j => (hb.frozen (p := ⟨w.heap.size + 1 + 1, j, none⟩) (by have := h.le; show w.heap.size + 1 + 1 < _; omega)).trans (h.fo j), h.be.trans (hb.mono h.be.size), zO h.le hb.size⟩
theorem TB.first {w : World} (a0 a1 a2 a3 : Value) (t1 t2 : TypeId) : TB w (((w.alloc (.cells #[a0, a1, a2, a3] t1)).alloc (.cells #[.slice none 0 0, .slice none 0 0, .slice none 0 0, .slice none 0 0] t2)).alloc (.cells #[.slice none 0 0, .slice none 0 0, .slice none 0 0, .slice none 0 0] t2)) a0 a1 a2 a3 (.slice none 0 0) (.slice none 0 0) (.slice none 0 0) (.slice none 0 0) := by
 have hb1 := below_allocS (w.alloc (.cells #[a0, a1, a2, a3] t1)) (.cells #[.slice none 0 0, .slice none 0 0, .slice none 0 0, .slice none 0 0] t2)
 have hb2 := below_allocS ((w.alloc (.cells #[a0, a1, a2, a3] t1)).alloc (.cells #[.slice none 0 0, .slice none 0 0, .slice none 0 0, .slice none 0 0] t2)) (.cells #[.slice none 0 0, .slice none 0 0, .slice none 0 0, .slice none 0 0] t2)
 have n0 := BoxC.new w a0 a1 a2 a3 t1
 have n1 := BoxC.new (w.alloc (.cells #[a0, a1, a2, a3] t1)) (.slice none 0 0) (.slice none 0 0) (.slice none 0 0) (.slice none 0 0) t2
 have n2 := BoxC.new ((w.alloc (.cells #[a0, a1, a2, a3] t1)).alloc (.cells #[.slice none 0 0, .slice none 0 0, .slice none 0 0, .slice none 0 0] t2)) (.slice none 0 0) (.slice none 0 0) (.slice none 0 0) (.slice none 0 0) t2
 have f1 := fun j => yA (w.alloc (.cells #[a0, a1, a2, a3] t1)) #[.slice none 0 0, .slice none 0 0, .slice none 0 0, .slice none 0 0] t2 j rfl
 have f2 := fun j => yA ((w.alloc (.cells #[a0, a1, a2, a3] t1)).alloc (.cells #[.slice none 0 0, .slice none 0 0, .slice none 0 0, .slice none 0 0] t2)) #[.slice none 0 0, .slice none 0 0, .slice none 0 0, .slice none 0 0] t2 j rfl
 simp only [World.size_alloc] at n1 n2 f1 f2
 refine ⟨(n0.below hb1).below hb2, n1.below hb2, n2, fun j => ?_, f2, ?_, by simp⟩
 ·exact (hb2.frozen (p := ⟨w.heap.size + 1, j, none⟩) (by simp)).trans (f1 j)
 ·exact (((Below.refl _ _).alloc (Nat.le_refl _) _).alloc (by simp) _).alloc (by simp; omega) _
theorem BoxC.setO {w : World} {N M j : Nat} {p a b c u : Value} (h : BoxC w N p a b c) (hne : M ≠ N) : BoxC (w.setCell ⟨M, j, none⟩ u) N p a b c := by
 obtain ⟨h0, h1, h2, h3⟩ := h
 have hc : ∀ i, (w.setCell ⟨M, j, none⟩ u).cell? ⟨N, i, none⟩ = w.cell? ⟨N, i, none⟩ := fun i => World.cell?_setCell_other _ _ _ _ fun e => hne (by injection e)
 exact ⟨(hc _).trans h0, (hc _).trans h1, (hc _).trans h2, (hc _).trans h3⟩
theorem TB.set0 {w wx : World} {a0 a1 a2 a3 o0 o1 o2 o3 : Value} (h : TB w wx a0 a1 a2 a3 o0 o1 o2 o3) (u : Value) : TB w (wx.setCell ⟨w.heap.size + 1 + 1, 0, none⟩ u) a0 a1 a2 a3 u o1 o2 o3 := by
 obtain ⟨q0, q1, q2, q3⟩ := h.o
 have hc : ∀ i, 0 ≠ i -> (wx.setCell ⟨w.heap.size + 1 + 1, 0, none⟩ u).cell? ⟨w.heap.size + 1 + 1, i, none⟩ = wx.cell? ⟨w.heap.size + 1 + 1, i, none⟩ := fun i hi => World.cell?_setCell_other _ _ _ _ fun e => hi (by injection e)
 exact ⟨h.p.setO (by omega), h.r.setO (by omega), ⟨World.cell?_setCell_same _ _ _ q0, (hc _ (by omega)).trans q1, (hc _ (by omega)).trans q2, (hc _ (by omega)).trans q3⟩, fun j => by rw [World.frozen?_setCell]; exact h.fr j, fun j => by rw [World.frozen?_setCell]; exact h.fo j, h.be.setCell (by simp; omega) _, by simp; exact h.le⟩
theorem TB.set1 {w wx : World} {a0 a1 a2 a3 o0 o1 o2 o3 : Value} (h : TB w wx a0 a1 a2 a3 o0 o1 o2 o3) (u : Value) : TB w (wx.setCell ⟨w.heap.size + 1 + 1, 1, none⟩ u) a0 a1 a2 a3 o0 u o2 o3 := by
 obtain ⟨q0, q1, q2, q3⟩ := h.o
 have hc : ∀ i, 1 ≠ i -> (wx.setCell ⟨w.heap.size + 1 + 1, 1, none⟩ u).cell? ⟨w.heap.size + 1 + 1, i, none⟩ = wx.cell? ⟨w.heap.size + 1 + 1, i, none⟩ := fun i hi => World.cell?_setCell_other _ _ _ _ fun e => hi (by injection e)
 exact ⟨h.p.setO (by omega), h.r.setO (by omega), ⟨(hc _ (by omega)).trans q0, World.cell?_setCell_same _ _ _ q1, (hc _ (by omega)).trans q2, (hc _ (by omega)).trans q3⟩, fun j => by rw [World.frozen?_setCell]; exact h.fr j, fun j => by rw [World.frozen?_setCell]; exact h.fo j, h.be.setCell (by simp; omega) _, by simp; exact h.le⟩
theorem TB.set2 {w wx : World} {a0 a1 a2 a3 o0 o1 o2 o3 : Value} (h : TB w wx a0 a1 a2 a3 o0 o1 o2 o3) (u : Value) : TB w (wx.setCell ⟨w.heap.size + 1 + 1, 2, none⟩ u) a0 a1 a2 a3 o0 o1 u o3 := by
 obtain ⟨q0, q1, q2, q3⟩ := h.o
 have hc : ∀ i, 2 ≠ i -> (wx.setCell ⟨w.heap.size + 1 + 1, 2, none⟩ u).cell? ⟨w.heap.size + 1 + 1, i, none⟩ = wx.cell? ⟨w.heap.size + 1 + 1, i, none⟩ := fun i hi => World.cell?_setCell_other _ _ _ _ fun e => hi (by injection e)
 exact ⟨h.p.setO (by omega), h.r.setO (by omega), ⟨(hc _ (by omega)).trans q0, (hc _ (by omega)).trans q1, World.cell?_setCell_same _ _ _ q2, (hc _ (by omega)).trans q3⟩, fun j => by rw [World.frozen?_setCell]; exact h.fr j, fun j => by rw [World.frozen?_setCell]; exact h.fo j, h.be.setCell (by simp; omega) _, by simp; exact h.le⟩
theorem toSys_any (x : SysIn) (W w : World) (hs : x.size <= 1048576) (hA : x.Ok W) (hW : Below W.heap.size W w) :
  Calls Tryz.prog 8 #[sysV x.pa x.pn x.pc x.sa x.sn x.sc x.wa x.wn x.wc x.ha x.hn x.hc] w fun e w' => ∃ v, e = .returned v /\ IsSys w' w.heap.size w'.heap.size x v /\ Below w.heap.size w w' := by
 have HA : Hid (x.Ok W) := hA
 have HW : Hid (Below W.heap.size W w) := hW
 have HS : Hid (x.size <= 1048576) := hs
 have HWs : Hid (W.heap.size <= w.heap.size) := hW.size
 clear hA hW hs
 go_enter Tryz.func8, Tryz.ntmps8
 have T0 : Hid (TB w (((w.alloc (.cells #[.slice x.pa x.pn x.pc, .slice x.sa x.sn x.sc, .slice x.wa x.wn x.wc, .slice x.ha x.hn x.hc] 27)).alloc (oQ4 none 0 0 none 0 0 none 0 0 none 0 0)).alloc (oQ4 none 0 0 none 0 0 none 0 0 none 0 0)) (.slice x.pa x.pn x.pc) (.slice x.sa x.sn x.sc) (.slice x.wa x.wn x.wc) (.slice x.ha x.hn x.hc) (.slice none 0 0) (.slice none 0 0) (.slice none 0 0) (.slice none 0 0)) := TB.first _ _ _ _ _ _
 go_wp2_with fail
 generalize ((w.alloc (.cells #[.slice x.pa x.pn x.pc, .slice x.sa x.sn x.sc, .slice x.wa x.wn x.wc, .slice x.ha x.hn x.hc] 27)).alloc (oQ4 none 0 0 none 0 0 none 0 0 none 0 0)).alloc (oQ4 none 0 0 none 0 0 none 0 0 none 0 0) = wA at *
 refine (toInsSS_any _ _ _ _ x.pL _ x.pH W _ (SysIn.lens HS.out).1.1 HA.out.p (HW.out.trans (T0.out.be.mono HWs.out))).mono ?_
 rintro e w1 ⟨rfl, ⟨bs1, o1⟩, b1⟩
 have T1 : Hid (TB w w1 (.slice x.pa x.pn x.pc) (.slice x.sa x.sn x.sc) (.slice x.wa x.wn x.wc) (.slice x.ha x.hn x.hc) (.slice none 0 0) (.slice none 0 0) (.slice none 0 0) (.slice none 0 0)) := T0.out.below b1
 have O1 : Hid (OutIns w1 wA.heap.size w1.heap.size x.pn x.pL bs1 x.pH) := o1
 have zA : w.heap.size + 3 <= wA.heap.size := T0.out.le
 clear b1 T0 o1
 obtain ⟨⟨p0, p1, p2, p3⟩, -, ⟨q0, q1, q2, q3⟩, -, fo, -, le⟩ := T1.out
 go_wp2_with fail
 have T2 : Hid (TB w (w1.setCell ⟨w.heap.size + 1 + 1, 0, none⟩ (.slice (some ⟨wA.heap.size, 0, none⟩) x.pn x.pn)) (.slice x.pa x.pn x.pc) (.slice x.sa x.sn x.sc) (.slice x.wa x.wn x.wc) (.slice x.ha x.hn x.hc) (.slice (some ⟨wA.heap.size, 0, none⟩) x.pn x.pn) (.slice none 0 0) (.slice none 0 0) (.slice none 0 0)) := T1.out.set0 _
 have O2 : Hid (OutIns (w1.setCell ⟨w.heap.size + 1 + 1, 0, none⟩ (.slice (some ⟨wA.heap.size, 0, none⟩) x.pn x.pn)) wA.heap.size w1.heap.size x.pn x.pL bs1 x.pH) := O1.out.keep (by simp) fun k hk _ => zN _ _ _ _ (by simp; omega)
 have h12 : w1.heap.size = (w1.setCell ⟨w.heap.size + 1 + 1, 0, none⟩ (.slice (some ⟨wA.heap.size, 0, none⟩) x.pn x.pn)).heap.size := by simp
 have l1 : wA.heap.size < w1.heap.size := O1.out.lt
 clear O1 T1 p0 p1 p2 p3 q0 q1 q2 q3 fo le
 generalize w1.setCell ⟨w.heap.size + 1 + 1, 0, none⟩ (.slice (some ⟨wA.heap.size, 0, none⟩) x.pn x.pn) = wB at *
 rw [h12] at O2 l1
 clear h12
 refine (toStateS_any _ _ _ x.sQ W wB (SysIn.lens HS.out).2.1.1 (SysIn.lensS HS.out) HA.out.s (HW.out.trans (T2.out.be.mono HWs.out))).mono ?_
 rintro e w2 ⟨rfl, ⟨vs, o2⟩, b2⟩
 have T3 : Hid (TB w w2 (.slice x.pa x.pn x.pc) (.slice x.sa x.sn x.sc) (.slice x.wa x.wn x.wc) (.slice x.ha x.hn x.hc) (.slice (some ⟨wA.heap.size, 0, none⟩) x.pn x.pn) (.slice none 0 0) (.slice none 0 0) (.slice none 0 0)) := T2.out.below b2
 have P3 : Hid (OutIns w2 wA.heap.size wB.heap.size x.pn x.pL bs1 x.pH) := O2.out.below b2 (Nat.le_refl _)
 have S3 : Hid (OutState w2 wB.heap.size w2.heap.size x.sn x.sS vs) := o2
 clear b2 T2 o2 O2
 obtain ⟨⟨p0, p1, p2, p3⟩, -, ⟨q0, q1, q2, q3⟩, -, fo, -, le⟩ := T3.out
 go_wp2_with fail
 have T4 : Hid (TB w (w2.setCell ⟨w.heap.size + 1 + 1, 1, none⟩ (.slice (some ⟨wB.heap.size, 0, none⟩) x.sn x.sn)) (.slice x.pa x.pn x.pc) (.slice x.sa x.sn x.sc) (.slice x.wa x.wn x.wc) (.slice x.ha x.hn x.hc) (.slice (some ⟨wA.heap.size, 0, none⟩) x.pn x.pn) (.slice (some ⟨wB.heap.size, 0, none⟩) x.sn x.sn) (.slice none 0 0) (.slice none 0 0)) := T3.out.set1 _
 have P4 : Hid (OutIns (w2.setCell ⟨w.heap.size + 1 + 1, 1, none⟩ (.slice (some ⟨wB.heap.size, 0, none⟩) x.sn x.sn)) wA.heap.size wB.heap.size x.pn x.pL bs1 x.pH) := P3.out.keep (by simp) fun k hk _ => zN _ _ _ _ (by simp; omega)
 have S4' : Hid (OutState (w2.setCell ⟨w.heap.size + 1 + 1, 1, none⟩ (.slice (some ⟨wB.heap.size, 0, none⟩) x.sn x.sn)) wB.heap.size w2.heap.size x.sn x.sS vs) := S3.out.keep (by simp) fun k hk _ => zN _ _ _ _ (by simp; omega)
 have h12 : w2.heap.size = (w2.setCell ⟨w.heap.size + 1 + 1, 1, none⟩ (.slice (some ⟨wB.heap.size, 0, none⟩) x.sn x.sn)).heap.size := by simp
 have l2 : wB.heap.size < w2.heap.size := S3.out.lt
 clear P3 S3 T3 p0 p1 p2 p3 q0 q1 q2 q3 fo le
 generalize w2.setCell ⟨w.heap.size + 1 + 1, 1, none⟩ (.slice (some ⟨wB.heap.size, 0, none⟩) x.sn x.sn) = wC at *
 rw [h12] at S4' l2
 clear h12
 refine (toItemSS_any _ _ _ _ x.wL _ x.wH W wC (SysIn.lens HS.out).2.2.1.1 HA.out.w (HW.out.trans (T4.out.be.mono HWs.out))).mono ?_
 rintro e w3 ⟨rfl, ⟨bs3, o3⟩, b3⟩
 have T5 : Hid (TB w w3 (.slice x.pa x.pn x.pc) (.slice x.sa x.sn x.sc) (.slice x.wa x.wn x.wc) (.slice x.ha x.hn x.hc) (.slice (some ⟨wA.heap.size, 0, none⟩) x.pn x.pn) (.slice (some ⟨wB.heap.size, 0, none⟩) x.sn x.sn) (.slice none 0 0) (.slice none 0 0)) := T4.out.below b3
 have P5 : Hid (OutIns w3 wA.heap.size wB.heap.size x.pn x.pL bs1 x.pH) := P4.out.below b3 (by omega)
 have S5 : Hid (OutState w3 wB.heap.size wC.heap.size x.sn x.sS vs) := S4'.out.below b3 (Nat.le_refl _)
 have W5 : Hid (OutItem w3 wC.heap.size w3.heap.size x.wn x.wL bs3 x.wH) := o3
 clear b3 T4 o3 P4 S4'
 obtain ⟨⟨p0, p1, p2, p3⟩, -, ⟨q0, q1, q2, q3⟩, -, fo, -, le⟩ := T5.out
 go_wp2_with fail
 have T6 : Hid (TB w (w3.setCell ⟨w.heap.size + 1 + 1, 2, none⟩ (.slice (some ⟨wC.heap.size, 0, none⟩) x.wn x.wn)) (.slice x.pa x.pn x.pc) (.slice x.sa x.sn x.sc) (.slice x.wa x.wn x.wc) (.slice x.ha x.hn x.hc) (.slice (some ⟨wA.heap.size, 0, none⟩) x.pn x.pn) (.slice (some ⟨wB.heap.size, 0, none⟩) x.sn x.sn) (.slice (some ⟨wC.heap.size, 0, none⟩) x.wn x.wn) (.slice none 0 0)) := T5.out.set2 _
 have P6 : Hid (OutIns (w3.setCell ⟨w.heap.size + 1 + 1, 2, none⟩ (.slice (some ⟨wC.heap.size, 0, none⟩) x.wn x.wn)) wA.heap.size wB.heap.size x.pn x.pL bs1 x.pH) := P5.out.keep (by simp) fun k hk _ => zN _ _ _ _ (by simp; omega)
 have S6 : Hid (OutState (w3.setCell ⟨w.heap.size + 1 + 1, 2, none⟩ (.slice (some ⟨wC.heap.size, 0, none⟩) x.wn x.wn)) wB.heap.size wC.heap.size x.sn x.sS vs) := S5.out.keep (by simp) fun k hk _ => zN _ _ _ _ (by simp; omega)
 have W6 : Hid (OutItem (w3.setCell ⟨w.heap.size + 1 + 1, 2, none⟩ (.slice (some ⟨wC.heap.size, 0, none⟩) x.wn x.wn)) wC.heap.size w3.heap.size x.wn x.wL bs3 x.wH) := W5.out.keep (by simp) fun k hk _ => zN _ _ _ _ (by simp; omega)
 have h12 : w3.heap.size = (w3.setCell ⟨w.heap.size + 1 + 1, 2, none⟩ (.slice (some ⟨wC.heap.size, 0, none⟩) x.wn x.wn)).heap.size := by simp
 have l3 : wC.heap.size < w3.heap.size := W5.out.lt
 clear P5 S5 W5 T5 p0 p1 p2 p3 q0 q1 q2 q3 fo le
 generalize w3.setCell ⟨w.heap.size + 1 + 1, 2, none⟩ (.slice (some ⟨wC.heap.size, 0, none⟩) x.wn x.wn) = wD at *
 rw [h12] at W6 l3
 clear h12
 refine (toEventSS_any _ _ _ _ x.hL _ x.hH W wD (SysIn.lens HS.out).2.2.2.1 HA.out.h (HW.out.trans (T6.out.be.mono HWs.out))).mono ?_
 rintro e w4 ⟨rfl, ⟨bs4, o4⟩, b4⟩
 have T7 : Hid (TB w w4 (.slice x.pa x.pn x.pc) (.slice x.sa x.sn x.sc) (.slice x.wa x.wn x.wc) (.slice x.ha x.hn x.hc) (.slice (some ⟨wA.heap.size, 0, none⟩) x.pn x.pn) (.slice (some ⟨wB.heap.size, 0, none⟩) x.sn x.sn) (.slice (some ⟨wC.heap.size, 0, none⟩) x.wn x.wn) (.slice none 0 0)) := T6.out.below b4
 have HO : Hid (∀ W9 : World, (∀ k, w.heap.size + 3 <= k -> W9.heap[k]? = w4.heap[k]?) -> W9.heap.size = w4.heap.size -> IsSys W9 w.heap.size W9.heap.size x (sysV (some ⟨wA.heap.size, 0, none⟩) x.pn x.pn (some ⟨wB.heap.size, 0, none⟩) x.sn x.sn (some ⟨wC.heap.size, 0, none⟩) x.wn x.wn (some ⟨wD.heap.size, 0, none⟩) x.hn x.hn)) := by
  intro W9 hk hz
  have o4' : OutEvent w4 wD.heap.size W9.heap.size x.hn x.hL bs4 x.hH := hz ▸ o4
  exact ⟨_, _, _, _, bs1, vs, bs3, bs4, wB.heap.size, wC.heap.size, wD.heap.size, rfl, (P6.out.below b4 (by omega)).keep (by omega) fun k h1 _ => hk k (by omega), (S6.out.below b4 (by omega)).keep (by omega) fun k h1 _ => hk k (by omega), (W6.out.below b4 (Nat.le_refl _)).keep (by omega) fun k h1 _ => hk k (by omega), o4'.keep (by omega) fun k h1 _ => hk k (by omega), by omega, Nat.le_refl _, Nat.le_refl _, Nat.le_refl _⟩
 clear b4 T6 o4 P6 S6 W6
 obtain ⟨-, ⟨r0, r1, r2, r3⟩, ⟨q0, q1, q2, q3⟩, fr, fo, be, le⟩ := T7.out
 have BE : Hid (Below w.heap.size w w4) := be
 clear be T7
 go_wp2
 refine bodyPost_ret (v := sysV (some ⟨wA.heap.size, 0, none⟩) x.pn x.pn (some ⟨wB.heap.size, 0, none⟩) x.sn x.sn (some ⟨wC.heap.size, 0, none⟩) x.wn x.wn (some ⟨wD.heap.size, 0, none⟩) x.hn x.hn) (by simp [results, Tryz.results8, go_sem, r0, r1, r2, r3]) rfl ⟨_, rfl, HO.out _ ?_ ?_, ?_⟩
 ·intro k hk
  repeat (rw [zN _ _ _ _ (by simp; omega)])
 ·simp
 ·have := BE.out
  go_grown
theorem Sy.Ok.evq {y : Sy} (h : y.Ok) {p i : Nat} (hp : p < y.pn) (hi : i < y.hL p) : 0 <= (y.hH p i).q /\ (y.hH p i).q < (y.pn : Int) := ⟨rp_peer (repO_some (h.rp p hp)).2.2 i hi, h.pe p hp i hi⟩
theorem Sy.Ok.hl200 {y : Sy} (h : y.Ok) {p : Nat} (hp : p < y.pn) : y.hL p <= 200 := (repO_some (h.rp p hp)).2.1
end Go.Proofs.YthdaejgmfognbabGreatDoor
