/- Systems: copied, held against each other, marked, opened. -/
import Derived.Test.YtnfdnnmddadmkaaGreatDoorNc0
import Derived.Test.YtnfdnnmddadmkaaGreatDoorNc25
import Derived.Test.YtnfdnnmddadmkaaGreatDoorNc26
import Derived.Test.YtnfdnnmddadmkaaGreatDoorNc19
import Derived.Test.YtnfdnnmddadmkaaGreatDoorNc15
import Derived.Defers
import Derived.Deep.LoopGhost
import Derived.Deep.Cut
import Derived.Deep.MidRow
import Derived.Laws.EntriesVeiled
namespace Go.Proofs.YtnfdnnmddadmkaaGreatDoor
set_option maxRecDepth 100000
set_option maxHeartbeats 2000000
open Go.ChangeShapes Go.WideShapes Go.ChangeAt Go.RowKit Go.Deep
structure SysIn where
 pa : Option Addr
 pn : Nat
 pc : Nat
 pA : Nat → Option Addr
 pL : Nat → Nat
 pC : Nat → Nat
 pH : Nat → Nat → I5
 sa : Option Addr
 sn : Nat
 sc : Nat
 sQ : Nat → St8
 wa : Option Addr
 wn : Nat
 wc : Nat
 wA : Nat → Option Addr
 wL : Nat → Nat
 wC : Nat → Nat
 wH : Nat → Nat → I2
 ha : Option Addr
 hn : Nat
 hc : Nat
 hA : Nat → Option Addr
 hL : Nat → Nat
 hC : Nat → Nat
 hH : Nat → Nat → E3
def SysIn.sS (x : SysIn) : Nat → S4 := fun i => (x.sQ i).s
def SysIn.size (x : SysIn) : Nat := x.pn + sumL x.pL x.pn + (x.sn + sumL (lenS x.sS) x.sn) + (x.wn + sumL x.wL x.wn) + (x.hn + sumL x.hL x.hn)
abbrev sysV (pa : Option Addr) (pn pc : Nat) (sa : Option Addr) (sn sc : Nat) (wa : Option Addr) (wn wc : Nat) (ha : Option Addr) (hn hc : Nat) : Value := .agg #[.slice pa pn pc, .slice sa sn sc, .slice wa wn wc, .slice ha hn hc]
structure SysIn.Row (W : World) (x : SysIn) : Prop where
 p : RowS W x.pa x.pn fun i => .slice (x.pA i) (x.pL i) (x.pC i)
 s : AllState W x.sa x.sn x.sQ
 w : RowS W x.wa x.wn fun i => .slice (x.wA i) (x.wL i) (x.wC i)
 h : RowS W x.ha x.hn fun i => .slice (x.hA i) (x.hL i) (x.hC i)
structure SysIn.Max (x : SysIn) : Prop where
 p : x.pn ≤ maxLen ∧ ∀ i, i < x.pn → x.pL i ≤ maxLen
 s : x.sn ≤ maxLen ∧ ∀ i, i < x.sn → (x.sQ i).rs.length ≤ maxLen ∧ (x.sQ i).os.length ≤ maxLen
 w : x.wn ≤ maxLen ∧ ∀ i, i < x.wn → x.wL i ≤ maxLen
 h : x.hn ≤ maxLen ∧ ∀ i, i < x.hn → x.hL i ≤ maxLen
structure SysIn.Ok (W : World) (x : SysIn) : Prop where
 p : AllIns W x.pa x.pn x.pA x.pL x.pC x.pH
 s : AllState W x.sa x.sn x.sQ
 w : AllItem W x.wa x.wn x.wA x.wL x.wC x.wH
 h : AllEvent W x.ha x.hn x.hA x.hL x.hC x.hH
theorem SysIn.Ok.row {W : World} {x : SysIn} (h : x.Ok W) : x.Row W := ⟨h.p.row, h.s, h.w.row, h.h.row⟩
theorem SysIn.Row.below {W w : World} {x : SysIn} (h : x.Row W) (hb : Below W.heap.size W w) : x.Row w := ⟨h.p.below hb, h.s.below hb, h.w.below hb, h.h.below hb⟩
theorem szSys_small (x : SysIn) (w : World) (hr : x.Row w) (h : x.size ≤ 1048576) :
  Calls Tryz.prog 21 #[sysV x.pa x.pn x.pc x.sa x.sn x.sc x.wa x.wn x.wc x.ha x.hn x.hc, .int .i64 1048576] w fun e w' => e = .returned (.int .i64 (1048576 - (x.size : Nat))) ∧ Below w.heap.size w w' := by
 have HR : Hid (x.Row w) := hr
 have hh : x.size = x.pn + sumL x.pL x.pn + (x.sn + sumL (lenS x.sS) x.sn) + (x.wn + sumL x.wL x.wn) + (x.hn + sumL x.hL x.hn) := rfl
 generalize e1 : (1048576 : Int) - x.pn - (sumL x.pL x.pn : Nat) = L1
 generalize e2 : L1 - x.sn - (sumL (lenS x.sS) x.sn : Nat) = L2
 generalize e3 : L2 - x.wn - (sumL x.wL x.wn : Nat) = L3
 have n1 : ¬ L1 < 0 := by omega
 have n2 : ¬ L2 < 0 := by omega
 have n3 : ¬ L3 < 0 := by omega
 have n4 : ¬ L3 - x.hn - (sumL x.hL x.hn : Nat) < 0 := by omega
 have q1 : ((x.pn : Int) + (sumL x.pL x.pn : Nat) ≤ 1048576) := by omega
 have q2 : ((x.sn : Int) + (sumL (lenS x.sS) x.sn : Nat) ≤ L1) ∧ L1 ≤ 1048576 := by omega
 have q3 : ((x.wn : Int) + (sumL x.wL x.wn : Nat) ≤ L2) ∧ L2 ≤ 1048576 := by omega
 have q4 : ((x.hn : Int) + (sumL x.hL x.hn : Nat) ≤ L3) ∧ L3 ≤ 1048576 := by omega
 have e4 : L3 - x.hn - (sumL x.hL x.hn : Nat) = 1048576 - (x.size : Nat) := by omega
 have E1 : Hid ((1048576 : Int) - x.pn - (sumL x.pL x.pn : Nat) = L1) := e1
 have E2 : Hid (L1 - x.sn - (sumL (lenS x.sS) x.sn : Nat) = L2) := e2
 have E3 : Hid (L2 - x.wn - (sumL x.wL x.wn : Nat) = L3) := e3
 have E4 : Hid (L3 - x.hn - (sumL x.hL x.hn : Nat) = 1048576 - (x.size : Nat)) := e4
 have Q : Hid (((x.pn : Int) + (sumL x.pL x.pn : Nat) ≤ 1048576) ∧ (((x.sn : Int) + (sumL (lenS x.sS) x.sn : Nat) ≤ L1) ∧ L1 ≤ 1048576) ∧ (((x.wn : Int) + (sumL x.wL x.wn : Nat) ≤ L2) ∧ L2 ≤ 1048576) ∧ (((x.hn : Int) + (sumL x.hL x.hn : Nat) ≤ L3) ∧ L3 ≤ 1048576)) := ⟨q1, q2, q3, q4⟩
 rw [e4] at n4
 clear hr h hh e1 e2 e3 e4 q1 q2 q3 q4
 go_enter Tryz.func21, Tryz.ntmps21
 go_wp2_with fail
 refine (szInsSS_small _ _ _ _ x.pL _ _ _ (HR.out.p.below (by go_grown)) Q.out.1 (Int.le_refl _)).mono ?_
 rintro e w1 ⟨rfl, rfl⟩
 rw [E1.out]
 go_wp2_with fail
 refine (szStateS_small _ _ _ x.sQ _ _ (HR.out.s.below (by go_grown)) Q.out.2.1.1 Q.out.2.1.2).mono ?_
 rintro e w2 ⟨rfl, b2⟩
 rw [show ((sumL (lenS fun i => (x.sQ i).s) x.sn : Nat) : Int) = (sumL (lenS x.sS) x.sn : Nat) from rfl, E2.out]
 have B2 : Hid (Below w.heap.size w w2) := below_up (by go_grown) b2 (by simp)
 have hw2 := b2.size
 obtain ⟨hc2, hf2⟩ := bcell b2
 clear b2
 go_wp2_with fail
 refine (szItemSS_small _ _ _ _ x.wL _ _ _ (HR.out.w.below B2.out) Q.out.2.2.1.1 Q.out.2.2.1.2).mono ?_
 rintro e w3 ⟨rfl, rfl⟩
 rw [E3.out]
 go_wp2_with fail
 refine (szEventSS_small _ _ _ _ x.hL _ _ _ (HR.out.h.below B2.out) Q.out.2.2.2.1 Q.out.2.2.2.2).mono ?_
 rintro e w4 ⟨rfl, rfl⟩
 rw [E4.out]
 go_wp2
 go_ret
 exact ⟨rfl, B2.out⟩
theorem szSys_great (x : SysIn) (w : World) (hr : x.Row w) (hm : x.Max) (h : 1048576 < x.size) :
  Calls Tryz.prog 21 #[sysV x.pa x.pn x.pc x.sa x.sn x.sc x.wa x.wn x.wc x.ha x.hn x.hc, .int .i64 1048576] w fun e w' => e = .returned (.int .i64 (-1)) ∧ Below w.heap.size w w' := by
 have HR : Hid (x.Row w) := hr
 have HM : Hid x.Max := hm
 have hh : x.size = x.pn + sumL x.pL x.pn + (x.sn + sumL (lenS x.sS) x.sn) + (x.wn + sumL x.wL x.wn) + (x.hn + sumL x.hL x.hn) := rfl
 have HH : Hid (1048576 < x.pn + sumL x.pL x.pn + (x.sn + sumL (lenS x.sS) x.sn) + (x.wn + sumL x.wL x.wn) + (x.hn + sumL x.hL x.hn)) := hh ▸ h
 clear hr h hh hm
 by_cases q1 : (x.pn : Int) + (sumL x.pL x.pn : Nat) ≤ 1048576
 case neg =>
  have Q1 : Hid (1048576 < (x.pn : Int) + (sumL x.pL x.pn : Nat)) := by show 1048576 < _; omega
  clear q1
  go_enter Tryz.func21, Tryz.ntmps21
  go_wp2_with fail
  refine (szInsSS_great _ _ _ _ x.pL _ _ _ (HR.out.p.below (by go_grown)) Q1.out (by omega) (Int.le_refl _) HM.out.p.1 HM.out.p.2).mono ?_
  rintro e w1 ⟨rfl, rfl⟩
  go_wp2
  go_ret
  exact ⟨rfl, by go_grown⟩
 generalize e1 : (1048576 : Int) - x.pn - (sumL x.pL x.pn : Nat) = L1
 have E1 : Hid ((1048576 : Int) - x.pn - (sumL x.pL x.pn : Nat) = L1) := e1
 have n1 : ¬ L1 < 0 := by omega
 have n1' : 0 ≤ L1 ∧ L1 ≤ 1048576 := by omega
 have N1 : Hid (0 ≤ L1 ∧ L1 ≤ 1048576) := n1'
 have Q1 : Hid ((x.pn : Int) + (sumL x.pL x.pn : Nat) ≤ 1048576) := q1
 by_cases q2 : (x.sn : Int) + (sumL (lenS x.sS) x.sn : Nat) ≤ L1
 case neg =>
  have Q2 : Hid (L1 < (x.sn : Int) + (sumL (lenS x.sS) x.sn : Nat)) := by show L1 < _; omega
  clear q1 q2 e1 n1'
  go_enter Tryz.func21, Tryz.ntmps21
  go_wp2_with fail
  refine (szInsSS_small _ _ _ _ x.pL _ _ _ (HR.out.p.below (by go_grown)) Q1.out (Int.le_refl _)).mono ?_
  rintro e w1 ⟨rfl, rfl⟩
  rw [E1.out]
  go_wp2_with fail
  refine (szStateS_great _ _ _ x.sQ _ _ (HR.out.s.below (by go_grown)) Q2.out N1.out.1 N1.out.2 HM.out.s.1 HM.out.s.2).mono ?_
  rintro e w2 ⟨rfl, b2⟩
  have B2 : Hid (Below w.heap.size w w2) := below_up (by go_grown) b2 (by simp)
  go_wp2
  go_ret
  exact ⟨rfl, B2.out⟩
 generalize e2 : L1 - x.sn - (sumL (lenS x.sS) x.sn : Nat) = L2
 have E2 : Hid (L1 - x.sn - (sumL (lenS x.sS) x.sn : Nat) = L2) := e2
 have n2 : ¬ L2 < 0 := by omega
 have n2' : 0 ≤ L2 ∧ L2 ≤ 1048576 := by omega
 have N2 : Hid (0 ≤ L2 ∧ L2 ≤ 1048576) := n2'
 have Q2 : Hid ((x.sn : Int) + (sumL (lenS x.sS) x.sn : Nat) ≤ L1) := q2
 by_cases q3 : (x.wn : Int) + (sumL x.wL x.wn : Nat) ≤ L2
 case neg =>
  have Q3 : Hid (L2 < (x.wn : Int) + (sumL x.wL x.wn : Nat)) := by show L2 < _; omega
  clear q1 q2 q3 e1 e2 n1' n2'
  go_enter Tryz.func21, Tryz.ntmps21
  go_wp2_with fail
  refine (szInsSS_small _ _ _ _ x.pL _ _ _ (HR.out.p.below (by go_grown)) Q1.out (Int.le_refl _)).mono ?_
  rintro e w1 ⟨rfl, rfl⟩
  rw [E1.out]
  go_wp2_with fail
  refine (szStateS_small _ _ _ x.sQ _ _ (HR.out.s.below (by go_grown)) Q2.out N1.out.2).mono ?_
  rintro e w2 ⟨rfl, b2⟩
  rw [show ((sumL (lenS fun i => (x.sQ i).s) x.sn : Nat) : Int) = (sumL (lenS x.sS) x.sn : Nat) from rfl, E2.out]
  have B2 : Hid (Below w.heap.size w w2) := below_up (by go_grown) b2 (by simp)
  have hw2 := b2.size
  obtain ⟨hc2, hf2⟩ := bcell b2
  clear b2
  go_wp2_with fail
  refine (szItemSS_great _ _ _ _ x.wL _ _ _ (HR.out.w.below B2.out) Q3.out N2.out.1 N2.out.2 HM.out.w.1 HM.out.w.2).mono ?_
  rintro e w3 ⟨rfl, rfl⟩
  go_wp2
  go_ret
  exact ⟨rfl, B2.out⟩
 generalize e3 : L2 - x.wn - (sumL x.wL x.wn : Nat) = L3
 have E3 : Hid (L2 - x.wn - (sumL x.wL x.wn : Nat) = L3) := e3
 have n3 : ¬ L3 < 0 := by omega
 have n3' : 0 ≤ L3 ∧ L3 ≤ 1048576 := by omega
 have N3 : Hid (0 ≤ L3 ∧ L3 ≤ 1048576) := n3'
 have Q3 : Hid ((x.wn : Int) + (sumL x.wL x.wn : Nat) ≤ L2) := q3
 have Q4 : Hid (L3 < (x.hn : Int) + (sumL x.hL x.hn : Nat)) := by
  show L3 < _
  have := HH.out
  omega
 clear q1 q2 q3 e1 e2 e3 n1' n2' n3' HH
 go_enter Tryz.func21, Tryz.ntmps21
 go_wp2_with fail
 refine (szInsSS_small _ _ _ _ x.pL _ _ _ (HR.out.p.below (by go_grown)) Q1.out (Int.le_refl _)).mono ?_
 rintro e w1 ⟨rfl, rfl⟩
 rw [E1.out]
 go_wp2_with fail
 refine (szStateS_small _ _ _ x.sQ _ _ (HR.out.s.below (by go_grown)) Q2.out N1.out.2).mono ?_
 rintro e w2 ⟨rfl, b2⟩
 rw [show ((sumL (lenS fun i => (x.sQ i).s) x.sn : Nat) : Int) = (sumL (lenS x.sS) x.sn : Nat) from rfl, E2.out]
 have B2 : Hid (Below w.heap.size w w2) := below_up (by go_grown) b2 (by simp)
 have hw2 := b2.size
 obtain ⟨hc2, hf2⟩ := bcell b2
 clear b2
 go_wp2_with fail
 refine (szItemSS_small _ _ _ _ x.wL _ _ _ (HR.out.w.below B2.out) Q3.out N2.out.2).mono ?_
 rintro e w3 ⟨rfl, rfl⟩
 rw [E3.out]
 go_wp2_with fail
 refine (szEventSS_great _ _ _ _ x.hL _ _ _ (HR.out.h.below B2.out) Q4.out N3.out.1 N3.out.2 HM.out.h.1 HM.out.h.2).mono ?_
 rintro e w4 ⟨rfl, rfl⟩
 go_wp2
 go_ret
 exact ⟨rfl, B2.out⟩
structure OutSys (w : World) (lo hi : Nat) (x : SysIn) (v : Value) (D1 D2 D3 D4 : Nat) (b1 : Nat → Nat) (vs : Nat → Value) (b3 b4 : Nat → Nat) (h1 h2 h3 : Nat) : Prop where
 val : v = sysV (some ⟨D1, 0, none⟩) x.pn x.pn (some ⟨D2, 0, none⟩) x.sn x.sn (some ⟨D3, 0, none⟩) x.wn x.wn (some ⟨D4, 0, none⟩) x.hn x.hn
 pp : OutIns w D1 h1 x.pn x.pL b1 x.pH
 ss : OutState w D2 h2 x.sn x.sS vs
 ww : OutItem w D3 h3 x.wn x.wL b3 x.wH
 hh : OutEvent w D4 hi x.hn x.hL b4 x.hH
 lo : lo ≤ D1
 o1 : h1 ≤ D2
 o2 : h2 ≤ D3
 o3 : h3 ≤ D4
def IsSys (w : World) (lo hi : Nat) (x : SysIn) (v : Value) : Prop := ∃ D1 D2 D3 D4 b1 vs b3 b4 h1 h2 h3, OutSys w lo hi x v D1 D2 D3 D4 b1 vs b3 b4 h1 h2 h3
theorem OutSys.hi {w : World} {lo hi : Nat} {x : SysIn} {v : Value} {D1 D2 D3 D4 : Nat} {b1 : Nat → Nat} {vs : Nat → Value} {b3 b4 : Nat → Nat} {h1 h2 h3 : Nat} (o : OutSys w lo hi x v D1 D2 D3 D4 b1 vs b3 b4 h1 h2 h3) : h1 ≤ hi ∧ h2 ≤ hi ∧ h3 ≤ hi ∧ hi ≤ w.heap.size ∧ lo < hi := by
 have := o.pp.lt
 have := o.ss.lt
 have := o.ww.lt
 have := o.hh.lt
 have := o.lo
 have := o.o1
 have := o.o2
 have := o.o3
 have := o.hh.le
 omega
theorem IsSys.below {w w' : World} {lo hi : Nat} {x : SysIn} {v : Value} {B : Nat} (o : IsSys w lo hi x v) (hb : Below B w w') (hB : hi ≤ B) : IsSys w' lo hi x v := by
 obtain ⟨D1, D2, D3, D4, b1, vs, b3, b4, h1, h2, h3, o⟩ := o
 obtain ⟨q1, q2, q3, -, -⟩ := o.hi
 exact ⟨D1, D2, D3, D4, b1, vs, b3, b4, h1, h2, h3, o.val, o.pp.below hb (by omega), o.ss.below hb (by omega), o.ww.below hb (by omega), o.hh.below hb hB, o.lo, o.o1, o.o2, o.o3⟩
open Go.Sort
theorem Touch.set {P : Nat → Prop} {w w' : World} (h : Touch P w w') {a : Addr} (ha : P a.block) (u : Value) : Touch P w (w'.setCell a u) := h.trans (Touch.of_set w' ha u)
theorem Touch.sets {P : Nat → Prop} {b : Nat} (hb : P b) : ∀ (vs : List Value) (o : Nat) {w w' : World}, Touch P w w' → Touch P w (w'.setCells b o vs)
 | [], _, _, _, h => h
 | v :: r, o, _, _, h => Touch.sets hb r (o + 1) (h.set (a := ⟨b, o, none⟩) hb v)
theorem infoHis : (Tryz.prog.info? 78).map (·.size) = some 21 := by kernel_rfl
theorem rowBack (X Bf Hb : Nat) (w : World) (cs : List Value) (hl : cs.length = 21) (h1 : ∀ v ∈ cs, v.oneCell' = true) (hB : w.rangeAt Bf 0 cs) (hT : w.there X 4 21) (hH : w.cell? ⟨Hb, 0, none⟩ = some (.pointer (some ⟨X, 4, none⟩))) (u : FrameMode) :
  CallsD Tryz.prog 122 #[.pointer (some ⟨Bf, 0, none⟩), .pointer (some ⟨Hb, 0, none⟩)] u w fun e u' w' => u' = u ∧ (e = .returned (.tuple #[]) ∧ Touch (fun b => b = X) w w') := by
 have HB : Hid (w.rangeAt Bf 0 cs) := hB
 have HT : Hid (w.there X 4 cs.toArray.size) := by rw [show cs.toArray.size = 21 by simp [hl]]; exact hT
 have HI : Hid ((Tryz.prog.info? 78).map (·.size) = some cs.length) := by rw [hl]; exact infoHis
 have HO : Hid (cs.toArray.all (·.oneCell') = true) := all_oneCell_toArray h1
 clear hB hT h1 hl
 go_enter_d Tryz.func122, Tryz.ntmps122
 go_wp2_with (first | (refine wpList_load_mid rfl 78 (.tmp 0) rfl Bf 0 rfl cs _ HB.out Tryz.underlying78 rfl HI.out ?_) | (refine wpList_store_mid rfl 78 (.tmp 4) (.tmp 3) rfl X 4 cs.toArray rfl rfl HT.out (by simpa using HI.out) HO.out ?_))
 go_end0
 exact ⟨rfl, Touch.sets (P := fun b => b = X) rfl _ _ (Touch.refl _ _)⟩
def hisL (ha : Option Addr) (hc : Nat) (y : Hs) (d : Nat → Nat) : List Value :=
 [.slice ha y.n hc, .int .i64 (d 0), .int .i64 (d 1), .int .i64 (d 2), .int .i64 (d 3),
  .int .i64 (y.opn d 0 0), .int .i64 (y.opn d 0 1), .int .i64 (y.opn d 0 2), .int .i64 (y.opn d 0 3), .int .i64 (y.opn d 1 0), .int .i64 (y.opn d 1 1), .int .i64 (y.opn d 1 2), .int .i64 (y.opn d 1 3),
  .int .i64 (y.opn d 2 0), .int .i64 (y.opn d 2 1), .int .i64 (y.opn d 2 2), .int .i64 (y.opn d 2 3), .int .i64 (y.opn d 3 0), .int .i64 (y.opn d 3 1), .int .i64 (y.opn d 3 2), .int .i64 (y.opn d 3 3)]
theorem HisP.range {w : World} {X : Nat} {ha : Option Addr} {hc : Nat} {y : Hs} {d : Nat → Nat} (h : HisP w X ha hc y d) : w.rangeAt X 4 (hisL ha hc y d) := by
 intro j v hj
 have hl : j < 21 := by
  have := (List.getElem?_eq_some_iff.1 hj).1
  simpa [hisL] using this
 match j, hl, hj with
 | 0, _, hj => rw [← hj]; exact h.c4
 | 1, _, hj => rw [← hj]; exact h.pt 0 (by omega)
 | 2, _, hj => rw [← hj]; exact h.pt 1 (by omega)
 | 3, _, hj => rw [← hj]; exact h.pt 2 (by omega)
 | 4, _, hj => rw [← hj]; exact h.pt 3 (by omega)
 | 5, _, hj => rw [← hj]; exact h.op 0 0 (by omega) (by omega)
 | 6, _, hj => rw [← hj]; exact h.op 0 1 (by omega) (by omega)
 | 7, _, hj => rw [← hj]; exact h.op 0 2 (by omega) (by omega)
 | 8, _, hj => rw [← hj]; exact h.op 0 3 (by omega) (by omega)
 | 9, _, hj => rw [← hj]; exact h.op 1 0 (by omega) (by omega)
 | 10, _, hj => rw [← hj]; exact h.op 1 1 (by omega) (by omega)
 | 11, _, hj => rw [← hj]; exact h.op 1 2 (by omega) (by omega)
 | 12, _, hj => rw [← hj]; exact h.op 1 3 (by omega) (by omega)
 | 13, _, hj => rw [← hj]; exact h.op 2 0 (by omega) (by omega)
 | 14, _, hj => rw [← hj]; exact h.op 2 1 (by omega) (by omega)
 | 15, _, hj => rw [← hj]; exact h.op 2 2 (by omega) (by omega)
 | 16, _, hj => rw [← hj]; exact h.op 2 3 (by omega) (by omega)
 | 17, _, hj => rw [← hj]; exact h.op 3 0 (by omega) (by omega)
 | 18, _, hj => rw [← hj]; exact h.op 3 1 (by omega) (by omega)
 | 19, _, hj => rw [← hj]; exact h.op 3 2 (by omega) (by omega)
 | 20, _, hj => rw [← hj]; exact h.op 3 3 (by omega) (by omega)
theorem hisL_one {ha : Option Addr} {hc : Nat} {y : Hs} {d : Nat → Nat} : ∀ v ∈ hisL ha hc y d, v.oneCell' = true := by
 intro v hv
 simp only [hisL, List.mem_cons, List.not_mem_nil, or_false] at hv
 rcases hv with rfl | rfl | rfl | rfl | rfl | rfl | rfl | rfl | rfl | rfl | rfl | rfl | rfl | rfl | rfl | rfl | rfl | rfl | rfl | rfl | rfl <;> rfl
theorem HisP.thereX {w : World} {X : Nat} {ha : Option Addr} {hc : Nat} {y : Hs} {d : Nat → Nat} (h : HisP w X ha hc y d) : w.there X 4 21 := fun j hj => ⟨h.range.isSome j (by simpa [hisL] using hj), h.fr _⟩
theorem sumL_same {d e : Nat → Nat} : ∀ {n : Nat}, (∀ i, i < n → d i = e i) → sumL d n = sumL e n
 | 0, _ => rfl
 | n + 1, h => by
  show sumL d n + d n = sumL e n + e n
  rw [sumL_same fun i hi => h i (by omega), h n (by omega)]
theorem sumL_zero : ∀ n, sumL (fun _ => 0) n = 0
 | 0 => rfl
 | n + 1 => sumL_zero n
theorem sumL_up {d : Nat → Nat} {k : Nat} : ∀ {n : Nat}, k < n → sumL (up d k) n = sumL d n + 1
 | 0, h => by omega
 | n + 1, h => by
  show sumL (up d k) n + up d k n = sumL d n + d n + 1
  by_cases e : k = n
  ·subst e
   rw [up_same]
   have : sumL (up d k) k = sumL d k := sumL_same fun i hi => up_other (by omega)
   omega
  ·rw [sumL_up (by omega), up_other (by omega)]
   omega
theorem sumL_le {d l : Nat → Nat} (h : ∀ i, d i ≤ l i) : ∀ n, sumL d n ≤ sumL l n
 | 0 => Nat.le_refl _
 | n + 1 => by
  have := sumL_le h n
  have := h n
  show sumL d n + d n ≤ sumL l n + l n
  omega
structure Rw (w0 W wr : World) (X Bf Hb : Nat) (ha : Option Addr) (hc : Nat) (y : Hs) (cs : List Value) (d : Nat → Nat) : Prop where
 pu : y.Put d
 hp : HisP wr X ha hc y d
 be : Below w0.heap.size w0 wr
 hb : wr.cell? ⟨Hb, 0, none⟩ = some (.pointer (some ⟨X, 4, none⟩))
 bf : wr.rangeAt Bf 0 cs
theorem rangeAt_touch {P : Nat → Prop} {w w' : World} {b o : Nat} {cs : List Value} (h : w.rangeAt b o cs) (t : Touch P w w') (hb : ¬ P b) : w'.rangeAt b o cs := fun j v hv => by
 have := h j v hv
 rw [t.cell (World.block_lt_of_cell? w _ this) hb]
 exact this
theorem Rw.touch {w0 W wr w' : World} {X Bf Hb : Nat} {ha : Option Addr} {hc : Nat} {y : Hs} {cs : List Value} {d d' : Nat → Nat} (h : Rw w0 W wr X Bf Hb ha hc y cs d) (t : Touch (fun b => b = X) wr w') (hX : w0.heap.size ≤ X) (hB : Bf ≠ X) (hH : Hb ≠ X) (pu : y.Put d') (hp : HisP w' X ha hc y d') : Rw w0 W w' X Bf Hb ha hc y cs d' :=
 ⟨pu, hp, h.be.trans (t.below h.be.size fun b e => by omega), (t.cell (World.block_lt_of_cell? wr _ h.hb) hH 0).trans h.hb, rangeAt_touch h.bf t hB⟩
theorem canRow_any (X : Nat) (ha : Option Addr) (hc : Nat) (hA : Nat → Option Addr) (hC : Nat → Nat) (y : Hs) (w0 w : World) (hE : HisE w0 ha hA hC y) (hb : Below w0.heap.size w0 w) (hX : w0.heap.size ≤ X) (hP : HisP w X ha hc y (fun _ => 0)) (h4 : y.n ≤ 4) (hp : y.Peers) (hl : ∀ i, i < y.n → y.l i ≤ 200) :
  Calls Tryz.prog 57 #[.pointer (some ⟨X, 4, none⟩)] w fun e w' => e = .returned (.bool (qB y.Row)) ∧ Below w0.heap.size w0 w' := by
 have HE : Hid (HisE w0 ha hA hC y) := hE
 have HH : Hid (y.Peers ∧ (∀ i, i < y.n → y.l i ≤ 200) ∧ w0.heap.size ≤ X) := ⟨hp, hl, hX⟩
 have zX := hP.lt
 obtain ⟨cs, hcs, hlen, hone⟩ : ∃ cs, w.rangeAt X 4 cs ∧ cs.length = 21 ∧ ∀ v ∈ cs, v.oneCell' = true := ⟨_, hP.range, rfl, hisL_one⟩
 have hsz : cs.toArray.size = 21 := by simpa using hlen
 have HL21 : Hid (cs.length = 21 ∧ ∀ v ∈ cs, v.oneCell' = true) := ⟨hlen, hone⟩
 have HI : Hid ((Tryz.prog.info? 78).map (·.size) = some cs.length) := by rw [hlen]; exact infoHis
 have HR : Hid ((w.alloc (.cells #[.pointer (some ⟨X, 4, none⟩)] 142)).rangeAt X 4 cs) := World.rangeAt_alloc hcs _
 have HO : Hid (cs.toArray.all (·.oneCell') = true) := all_oneCell_toArray hone
 have hmf : ∀ (fn : Fn) (first cap : Array Value) (w : World), (Instr.makeFunc fn first cap).run Tryz.prog w = .ok (.func fn first cap) w := fun _ _ _ _ => rfl
 have HT : Hid (((w.alloc (.cells #[.pointer (some ⟨X, 4, none⟩)] 142)).alloc (zQ1)).there (w.heap.size + 1) 0 cs.toArray.size) := fun j hj => by
  have hj' : j < 21 := by rw [← hsz]; exact hj
  refine ⟨?_, new_frozen _ _ _ _ (by simp)⟩
  rw [Nat.zero_add, new_cell _ _ _ j (by simp), Array.getElem?_eq_getElem (by simpa using hj')]
  rfl
 have tw : Touch (fun b => b = w.heap.size + 1) w (((w.alloc (.cells #[.pointer (some ⟨X, 4, none⟩)] 142)).alloc (zQ1)).setCells (w.heap.size + 1) 0 cs) := Touch.sets (P := fun b => b = w.heap.size + 1) rfl _ _ (Touch.of_below ((below_alloc _ _).trans ((below_alloc _ _).mono (by simp))))
 have HRw : Hid (Rw w0 w (((w.alloc (.cells #[.pointer (some ⟨X, 4, none⟩)] 142)).alloc (zQ1)).setCells (w.heap.size + 1) 0 cs) X (w.heap.size + 1) w.heap.size ha hc y cs (fun _ => 0)) := by
  refine ⟨.start, hP.blk (tw.block X zX (by omega)), hb.trans (tw.below hb.size fun b e => by have := hb.size; omega), ?_, World.rangeAt_setCells_same _ _ _ _ (by simpa using HT.out)⟩
  rw [World.cell?_setCells_out _ _ _ _ _ (fun e => absurd e (by simp)), World.cell?_alloc_lt _ _ _ (by simp)]
  exact new_cell _ _ _ 0 rfl
 have HX : Hid (X < w.heap.size) := zX
 clear hE hp hl hX tw hb hP zX hlen hsz hcs hone
 go_enter_defers Tryz.func57, Tryz.ntmps57
 have h0 := HRw.out.hb
 go_wp2_with (first | (refine wpList_load_mid rfl 78 (.tmp 6) rfl X 4 rfl cs _ HR.out Tryz.underlying78 rfl HI.out ?_) | (refine wpList_store_mid rfl 78 (.tmp 3) (.tmp 7) rfl (w.heap.size + 1) 0 cs.toArray rfl rfl HT.out (by simpa using HI.out) HO.out ?_))
 clear HR HT HI HO
 generalize ((w.alloc (.cells #[.pointer (some ⟨X, 4, none⟩)] 142)).alloc (zQ1)).setCells (w.heap.size + 1) 0 cs = W1 at *
 have nX : Hid (w.heap.size + 1 ≠ X ∧ w.heap.size ≠ X) := by
  have := HX.out
  exact ⟨by omega, by omega⟩
 refine (next_any X ha hc hA hC y (fun _ => 0) W1 (HE.out.below HRw.out.be) HRw.out.hp h4 HH.out.1 HH.out.2.1 HRw.out.pu.le).mono ?_
 rintro e w1 ⟨q1, hor⟩
 have HNx : Hid (Rw w0 w w1 X (w.heap.size + 1) w.heap.size ha hc y cs (fun _ => 0)) := HRw.out.touch (Touch.of_below q1) HH.out.2.2 nX.out.1 nX.out.2 HRw.out.pu (HRw.out.hp.below q1)
 obtain ⟨z, rfl, HOr⟩ : ∃ z : Int, e = .returned (.int .i64 z) ∧ Hid ((∃ k, k < y.n ∧ y.Can (fun _ => 0) k ∧ z = (k : Nat)) ∨ (z = -1 ∧ ∀ p, p < y.n → ¬ y.Can (fun _ => 0) p)) := by
  rcases hor with ⟨k, hk, hcan, rfl⟩ | ⟨rfl, hn⟩
  ·exact ⟨_, rfl, .inl ⟨k, hk, hcan, rfl⟩⟩
  ·exact ⟨_, rfl, .inr ⟨rfl, hn⟩⟩
 clear hor q1 h0 HRw
 go_wp2_with fail
 go_loopg [4] (sumL y.l y.n) (fun k p wr => ∃ d z, k = sumL y.l y.n - sumL d y.n ∧ p = .int .i64 z ∧ Rw w0 w wr X (w.heap.size + 1) w.heap.size ha hc y cs d ∧ Hid ((∃ k, k < y.n ∧ y.Can d k ∧ z = (k : Nat)) ∨ (z = -1 ∧ ∀ p, p < y.n → ¬ y.Can d p)))
 case atStart => exact ⟨_, z, by simp [sumL_zero], rfl, HNx.out, HOr.out⟩
 case round =>
  clear HNx HOr
  obtain ⟨d, zz, hgk, rfl, rw0, HOr⟩ := hrel
  have HRr : Hid (Rw w0 w wr X (w.heap.size + 1) w.heap.size ha hc y cs d) := rw0
  have h1 := rw0.hb
  have HG : Hid (gk = sumL y.l y.n - sumL d y.n) := hgk
  clear rw0 hgk
  rcases HOr.out with ⟨k, hk, hcan, rfl⟩ | ⟨rfl, hst⟩
  ·have HCn : Hid (y.Can d k) := hcan
   have hz : ¬ (k : Int) = -1 := by omega
   have hz' : ((k : Int) == -1) = false := by simp
   clear HOr hcan
   go_wp2_with fail
   refine (putOne_any X ha hc hA hC y d k wr (HE.out.below HRr.out.be) HRr.out.hp h4 hk HH.out.1 HH.out.2.1 HRr.out.pu.le HCn.out.1).mono ?_
   rintro e w1 ⟨rfl, hp1, t1⟩
   have hpu : y.Put (up d k) := .next HRr.out.pu hk HCn.out
   have HN : Hid (Rw w0 w w1 X (w.heap.size + 1) w.heap.size ha hc y cs (up d k)) := HRr.out.touch t1 HH.out.2.2 nX.out.1 nX.out.2 hpu hp1
   have HM : Hid (sumL y.l y.n - sumL (up d k) y.n < gk) := by
    have h2 := sumL_up (d := d) hk
    have h3 := sumL_le hpu.le y.n
    have h4 := HG.out
    show sumL y.l y.n - sumL (up d k) y.n < gk
    omega
   clear hp1 t1 hpu h1 HRr HG hz hz'
   generalize up d k = d2 at *
   have h1 := HN.out.hb
   go_wp2_with fail
   refine (next_any X ha hc hA hC y d2 w1 (HE.out.below HN.out.be) HN.out.hp h4 HH.out.1 HH.out.2.1 HN.out.pu.le).mono ?_
   rintro e w2 ⟨q2, hor⟩
   have HN2 : Hid (Rw w0 w w2 X (w.heap.size + 1) w.heap.size ha hc y cs d2) := HN.out.touch (Touch.of_below q2) HH.out.2.2 nX.out.1 nX.out.2 HN.out.pu (HN.out.hp.below q2)
   obtain ⟨z, rfl, HOr⟩ : ∃ z : Int, e = .returned (.int .i64 z) ∧ Hid ((∃ k, k < y.n ∧ y.Can d2 k ∧ z = (k : Nat)) ∨ (z = -1 ∧ ∀ p, p < y.n → ¬ y.Can d2 p)) := by
    rcases hor with ⟨k, hk, hcan, rfl⟩ | ⟨rfl, hn⟩
    ·exact ⟨_, rfl, .inl ⟨k, hk, hcan, rfl⟩⟩
    ·exact ⟨_, rfl, .inr ⟨rfl, hn⟩⟩
   clear hor q2 h1 HN
   go_wp2
   go_roundg (sumL y.l y.n - sumL d2 y.n)
   case measure => exact HM.out
   case rel => exact ⟨d2, z, rfl, rfl, HN2.out, HOr.out⟩
  ·have HRow : Hid (qB (y.All d) = qB y.Row) := by
    show qB (y.All d) = qB y.Row
    have hi := Hs.row_iff HRr.out.pu HH.out.1 hst
    by_cases hr : y.Row
    ·rw [qB_true hr, qB_true (hi.1 hr)]
    ·rw [qB_false hr, qB_false (fun h => hr (hi.2 h))]
   have HN : Hid (Rw w0 w wr X (w.heap.size + 1) w.heap.size ha hc y cs d) := HRr.out
   clear hst HG HOr HRr
   go_wp2_with fail
   refine (allPut_any X ha hc hA hC y d wr (HE.out.below HN.out.be) HN.out.hp h4 HH.out.2.1 HN.out.pu.le).mono ?_
   rintro e w2 ⟨rfl, b2⟩
   rw [HRow.out]
   have B2 : Hid (Below wr.heap.size wr w2) := b2
   clear b2 h1
   have HB2 : Hid (Below w0.heap.size w0 w2 ∧ w2.rangeAt (w.heap.size + 1) 0 cs ∧ w2.there X 4 21 ∧ w2.cell? ⟨w.heap.size, 0, none⟩ = some (.pointer (some ⟨X, 4, none⟩))) :=
    ⟨HN.out.be.trans (B2.out.mono HN.out.be.size), rangeAt_touch (P := fun _ => False) HN.out.bf (Touch.of_below B2.out) (fun h => h), (HN.out.hp.below B2.out).thereX, (B2.out.cell (p := ⟨w.heap.size, 0, none⟩) (World.block_lt_of_cell? wr _ HN.out.hb)).trans HN.out.hb⟩
   go_wp2
   refine leaves_cons (f := 122) (args := #[.pointer (some ⟨w.heap.size + 1, 0, none⟩), .pointer (some ⟨w.heap.size, 0, none⟩)]) (by simp) (by simp [go_sem]) ?_
   refine (rowBack X (w.heap.size + 1) w.heap.size w2 cs HL21.out.1 HL21.out.2 HB2.out.2.1 HB2.out.2.2.1 HB2.out.2.2.2 .returning).mono ?_
   rintro e u' w3 ⟨rfl, rfl, t3⟩
   exact ⟨_, results_tmp rfl _ _ _, rfl, HB2.out.1.trans (t3.below HB2.out.1.size fun b e => by have := HH.out.2.2; omega)⟩
theorem below_allocS (w : World) (o : Obj) : Below w.heap.size w (w.alloc o) := (Below.refl _ _).alloc (Nat.le_refl _) _
theorem sum_le {n : Nat} {ls : Nat → Nat} {N : Nat} (h : sumL ls n ≤ N) : ∀ i, i < n → ls i ≤ N := fun i hi => by
 have := sumL_at ls hi
 omega
theorem SysIn.lens {x : SysIn} (h : x.size ≤ 1048576) : (x.pn ≤ 1048576 ∧ sumL x.pL x.pn ≤ 1048576) ∧ (x.sn ≤ 1048576 ∧ sumL (lenS x.sS) x.sn ≤ 1048576) ∧ (x.wn ≤ 1048576 ∧ sumL x.wL x.wn ≤ 1048576) ∧ (x.hn ≤ 1048576 ∧ sumL x.hL x.hn ≤ 1048576) := by
 unfold SysIn.size at h
 omega
theorem SysIn.lensS {x : SysIn} (h : x.size ≤ 1048576) : ∀ i, i < x.sn → (x.sQ i).rs.length ≤ 1048576 ∧ (x.sQ i).os.length ≤ 1048576 := fun i hi => by
 have := sum_le (SysIn.lens h).2.1.2 i hi
 have e : lenS x.sS i = (x.sQ i).rs.length + (x.sQ i).os.length := rfl
 omega
structure TB (w wx : World) (a0 a1 a2 a3 o0 o1 o2 o3 : Value) : Prop where
 p : BoxC wx w.heap.size a0 a1 a2 a3
 r : BoxC wx (w.heap.size + 1) (.slice none 0 0) (.slice none 0 0) (.slice none 0 0) (.slice none 0 0)
 o : BoxC wx (w.heap.size + 1 + 1) o0 o1 o2 o3
 fr : ∀ j, wx.frozen? ⟨w.heap.size + 1, j, none⟩ = false
 fo : ∀ j, wx.frozen? ⟨w.heap.size + 1 + 1, j, none⟩ = false
 be : Below w.heap.size w wx
 le : w.heap.size + 3 ≤ wx.heap.size
theorem TB.below {w wx w' : World} {a0 a1 a2 a3 o0 o1 o2 o3 : Value} (h : TB w wx a0 a1 a2 a3 o0 o1 o2 o3) (hb : Below wx.heap.size wx w') : TB w w' a0 a1 a2 a3 o0 o1 o2 o3 :=
 ⟨h.p.below hb, h.r.below hb, h.o.below hb, fun j => (hb.frozen (p := ⟨w.heap.size + 1, j, none⟩) (by have := h.le; show w.heap.size + 1 < _; omega)).trans (h.fr j), fun j => (hb.frozen (p := ⟨w.heap.size + 1 + 1, j, none⟩) (by have := h.le; show w.heap.size + 1 + 1 < _; omega)).trans (h.fo j), h.be.trans (hb.mono h.be.size), Nat.le_trans h.le hb.size⟩
theorem TB.first {w : World} (a0 a1 a2 a3 : Value) (t1 t2 : TypeId) : TB w (((w.alloc (.cells #[a0, a1, a2, a3] t1)).alloc (.cells #[.slice none 0 0, .slice none 0 0, .slice none 0 0, .slice none 0 0] t2)).alloc (.cells #[.slice none 0 0, .slice none 0 0, .slice none 0 0, .slice none 0 0] t2)) a0 a1 a2 a3 (.slice none 0 0) (.slice none 0 0) (.slice none 0 0) (.slice none 0 0) := by
 have hb1 := below_allocS (w.alloc (.cells #[a0, a1, a2, a3] t1)) (.cells #[.slice none 0 0, .slice none 0 0, .slice none 0 0, .slice none 0 0] t2)
 have hb2 := below_allocS ((w.alloc (.cells #[a0, a1, a2, a3] t1)).alloc (.cells #[.slice none 0 0, .slice none 0 0, .slice none 0 0, .slice none 0 0] t2)) (.cells #[.slice none 0 0, .slice none 0 0, .slice none 0 0, .slice none 0 0] t2)
 have n0 := BoxC.new w a0 a1 a2 a3 t1
 have n1 := BoxC.new (w.alloc (.cells #[a0, a1, a2, a3] t1)) (.slice none 0 0) (.slice none 0 0) (.slice none 0 0) (.slice none 0 0) t2
 have n2 := BoxC.new ((w.alloc (.cells #[a0, a1, a2, a3] t1)).alloc (.cells #[.slice none 0 0, .slice none 0 0, .slice none 0 0, .slice none 0 0] t2)) (.slice none 0 0) (.slice none 0 0) (.slice none 0 0) (.slice none 0 0) t2
 have f1 := fun j => new_frozen (w.alloc (.cells #[a0, a1, a2, a3] t1)) #[.slice none 0 0, .slice none 0 0, .slice none 0 0, .slice none 0 0] t2 j rfl
 have f2 := fun j => new_frozen ((w.alloc (.cells #[a0, a1, a2, a3] t1)).alloc (.cells #[.slice none 0 0, .slice none 0 0, .slice none 0 0, .slice none 0 0] t2)) #[.slice none 0 0, .slice none 0 0, .slice none 0 0, .slice none 0 0] t2 j rfl
 simp only [World.size_alloc] at n1 n2 f1 f2
 refine ⟨(n0.below hb1).below hb2, n1.below hb2, n2, fun j => ?_, f2, ?_, by simp⟩
 ·exact (hb2.frozen (p := ⟨w.heap.size + 1, j, none⟩) (by simp)).trans (f1 j)
 ·exact (((Below.refl _ _).alloc (Nat.le_refl _) _).alloc (by simp) _).alloc (by simp; omega) _
theorem BoxC.setO {w : World} {N M j : Nat} {p a b c u : Value} (h : BoxC w N p a b c) (hne : M ≠ N) : BoxC (w.setCell ⟨M, j, none⟩ u) N p a b c := by
 obtain ⟨h0, h1, h2, h3⟩ := h
 have hc : ∀ i, (w.setCell ⟨M, j, none⟩ u).cell? ⟨N, i, none⟩ = w.cell? ⟨N, i, none⟩ := fun i => World.cell?_setCell_other _ _ _ _ fun e => hne (by injection e)
 exact ⟨(hc _).trans h0, (hc _).trans h1, (hc _).trans h2, (hc _).trans h3⟩
theorem TB.set0 {w wx : World} {a0 a1 a2 a3 o0 o1 o2 o3 : Value} (h : TB w wx a0 a1 a2 a3 o0 o1 o2 o3) (u : Value) : TB w (wx.setCell ⟨w.heap.size + 1 + 1, 0, none⟩ u) a0 a1 a2 a3 u o1 o2 o3 := by
 obtain ⟨q0, q1, q2, q3⟩ := h.o
 have hc : ∀ i, 0 ≠ i → (wx.setCell ⟨w.heap.size + 1 + 1, 0, none⟩ u).cell? ⟨w.heap.size + 1 + 1, i, none⟩ = wx.cell? ⟨w.heap.size + 1 + 1, i, none⟩ := fun i hi => World.cell?_setCell_other _ _ _ _ fun e => hi (by injection e)
 exact ⟨h.p.setO (by omega), h.r.setO (by omega), ⟨World.cell?_setCell_same _ _ _ q0, (hc _ (by omega)).trans q1, (hc _ (by omega)).trans q2, (hc _ (by omega)).trans q3⟩, fun j => by rw [World.frozen?_setCell]; exact h.fr j, fun j => by rw [World.frozen?_setCell]; exact h.fo j, h.be.setCell (by simp; omega) _, by simp; exact h.le⟩
theorem TB.set1 {w wx : World} {a0 a1 a2 a3 o0 o1 o2 o3 : Value} (h : TB w wx a0 a1 a2 a3 o0 o1 o2 o3) (u : Value) : TB w (wx.setCell ⟨w.heap.size + 1 + 1, 1, none⟩ u) a0 a1 a2 a3 o0 u o2 o3 := by
 obtain ⟨q0, q1, q2, q3⟩ := h.o
 have hc : ∀ i, 1 ≠ i → (wx.setCell ⟨w.heap.size + 1 + 1, 1, none⟩ u).cell? ⟨w.heap.size + 1 + 1, i, none⟩ = wx.cell? ⟨w.heap.size + 1 + 1, i, none⟩ := fun i hi => World.cell?_setCell_other _ _ _ _ fun e => hi (by injection e)
 exact ⟨h.p.setO (by omega), h.r.setO (by omega), ⟨(hc _ (by omega)).trans q0, World.cell?_setCell_same _ _ _ q1, (hc _ (by omega)).trans q2, (hc _ (by omega)).trans q3⟩, fun j => by rw [World.frozen?_setCell]; exact h.fr j, fun j => by rw [World.frozen?_setCell]; exact h.fo j, h.be.setCell (by simp; omega) _, by simp; exact h.le⟩
theorem TB.set2 {w wx : World} {a0 a1 a2 a3 o0 o1 o2 o3 : Value} (h : TB w wx a0 a1 a2 a3 o0 o1 o2 o3) (u : Value) : TB w (wx.setCell ⟨w.heap.size + 1 + 1, 2, none⟩ u) a0 a1 a2 a3 o0 o1 u o3 := by
 obtain ⟨q0, q1, q2, q3⟩ := h.o
 have hc : ∀ i, 2 ≠ i → (wx.setCell ⟨w.heap.size + 1 + 1, 2, none⟩ u).cell? ⟨w.heap.size + 1 + 1, i, none⟩ = wx.cell? ⟨w.heap.size + 1 + 1, i, none⟩ := fun i hi => World.cell?_setCell_other _ _ _ _ fun e => hi (by injection e)
 exact ⟨h.p.setO (by omega), h.r.setO (by omega), ⟨(hc _ (by omega)).trans q0, (hc _ (by omega)).trans q1, World.cell?_setCell_same _ _ _ q2, (hc _ (by omega)).trans q3⟩, fun j => by rw [World.frozen?_setCell]; exact h.fr j, fun j => by rw [World.frozen?_setCell]; exact h.fo j, h.be.setCell (by simp; omega) _, by simp; exact h.le⟩
theorem toSys_any (x : SysIn) (W w : World) (hs : x.size ≤ 1048576) (hA : x.Ok W) (hW : Below W.heap.size W w) :
  Calls Tryz.prog 23 #[sysV x.pa x.pn x.pc x.sa x.sn x.sc x.wa x.wn x.wc x.ha x.hn x.hc] w fun e w' => ∃ v, e = .returned v ∧ IsSys w' w.heap.size w'.heap.size x v ∧ Below w.heap.size w w' := by
 have HA : Hid (x.Ok W) := hA
 have HW : Hid (Below W.heap.size W w) := hW
 have HS : Hid (x.size ≤ 1048576) := hs
 have HWs : Hid (W.heap.size ≤ w.heap.size) := hW.size
 clear hA hW hs
 go_enter Tryz.func23, Tryz.ntmps23
 have T0 : Hid (TB w (((w.alloc (.cells #[.slice x.pa x.pn x.pc, .slice x.sa x.sn x.sc, .slice x.wa x.wn x.wc, .slice x.ha x.hn x.hc] 53)).alloc (oQ4 none 0 0 none 0 0 none 0 0 none 0 0)).alloc (oQ4 none 0 0 none 0 0 none 0 0 none 0 0)) (.slice x.pa x.pn x.pc) (.slice x.sa x.sn x.sc) (.slice x.wa x.wn x.wc) (.slice x.ha x.hn x.hc) (.slice none 0 0) (.slice none 0 0) (.slice none 0 0) (.slice none 0 0)) := TB.first _ _ _ _ _ _
 go_wp2_with fail
 generalize ((w.alloc (.cells #[.slice x.pa x.pn x.pc, .slice x.sa x.sn x.sc, .slice x.wa x.wn x.wc, .slice x.ha x.hn x.hc] 53)).alloc (oQ4 none 0 0 none 0 0 none 0 0 none 0 0)).alloc (oQ4 none 0 0 none 0 0 none 0 0 none 0 0) = wA at *
 refine (toInsSS_any _ _ _ _ x.pL _ x.pH W _ (SysIn.lens HS.out).1.1 HA.out.p (HW.out.trans (T0.out.be.mono HWs.out))).mono ?_
 rintro e w1 ⟨rfl, ⟨bs1, o1⟩, b1⟩
 have T1 : Hid (TB w w1 (.slice x.pa x.pn x.pc) (.slice x.sa x.sn x.sc) (.slice x.wa x.wn x.wc) (.slice x.ha x.hn x.hc) (.slice none 0 0) (.slice none 0 0) (.slice none 0 0) (.slice none 0 0)) := T0.out.below b1
 have O1 : Hid (OutIns w1 wA.heap.size w1.heap.size x.pn x.pL bs1 x.pH) := o1
 have zA : w.heap.size + 3 ≤ wA.heap.size := T0.out.le
 clear b1 T0 o1
 obtain ⟨⟨p0, p1, p2, p3⟩, -, ⟨q0, q1, q2, q3⟩, -, fo, -, le⟩ := T1.out
 go_wp2_with fail
 have T2 : Hid (TB w (w1.setCell ⟨w.heap.size + 1 + 1, 0, none⟩ (.slice (some ⟨wA.heap.size, 0, none⟩) x.pn x.pn)) (.slice x.pa x.pn x.pc) (.slice x.sa x.sn x.sc) (.slice x.wa x.wn x.wc) (.slice x.ha x.hn x.hc) (.slice (some ⟨wA.heap.size, 0, none⟩) x.pn x.pn) (.slice none 0 0) (.slice none 0 0) (.slice none 0 0)) := T1.out.set0 _
 have O2 : Hid (OutIns (w1.setCell ⟨w.heap.size + 1 + 1, 0, none⟩ (.slice (some ⟨wA.heap.size, 0, none⟩) x.pn x.pn)) wA.heap.size w1.heap.size x.pn x.pL bs1 x.pH) := O1.out.keep (by simp) fun k hk _ => Below.heap_setCell _ _ _ _ (by simp; omega)
 have h12 : w1.heap.size = (w1.setCell ⟨w.heap.size + 1 + 1, 0, none⟩ (.slice (some ⟨wA.heap.size, 0, none⟩) x.pn x.pn)).heap.size := by simp
 have l1 : wA.heap.size < w1.heap.size := O1.out.lt
 clear O1 T1 p0 p1 p2 p3 q0 q1 q2 q3 fo le
 generalize w1.setCell ⟨w.heap.size + 1 + 1, 0, none⟩ (.slice (some ⟨wA.heap.size, 0, none⟩) x.pn x.pn) = wB at *
 rw [h12] at O2 l1
 clear h12
 refine (toStateS_any _ _ _ x.sQ W wB (SysIn.lens HS.out).2.1.1 (SysIn.lensS HS.out) HA.out.s (HW.out.trans (T2.out.be.mono HWs.out))).mono ?_
 rintro e w2 ⟨rfl, ⟨vs, o2⟩, b2⟩
 have T3 : Hid (TB w w2 (.slice x.pa x.pn x.pc) (.slice x.sa x.sn x.sc) (.slice x.wa x.wn x.wc) (.slice x.ha x.hn x.hc) (.slice (some ⟨wA.heap.size, 0, none⟩) x.pn x.pn) (.slice none 0 0) (.slice none 0 0) (.slice none 0 0)) := T2.out.below b2
 have P3 : Hid (OutIns w2 wA.heap.size wB.heap.size x.pn x.pL bs1 x.pH) := O2.out.below b2 (Nat.le_refl _)
 have S3 : Hid (OutState w2 wB.heap.size w2.heap.size x.sn x.sS vs) := o2
 clear b2 T2 o2 O2
 obtain ⟨⟨p0, p1, p2, p3⟩, -, ⟨q0, q1, q2, q3⟩, -, fo, -, le⟩ := T3.out
 go_wp2_with fail
 have T4 : Hid (TB w (w2.setCell ⟨w.heap.size + 1 + 1, 1, none⟩ (.slice (some ⟨wB.heap.size, 0, none⟩) x.sn x.sn)) (.slice x.pa x.pn x.pc) (.slice x.sa x.sn x.sc) (.slice x.wa x.wn x.wc) (.slice x.ha x.hn x.hc) (.slice (some ⟨wA.heap.size, 0, none⟩) x.pn x.pn) (.slice (some ⟨wB.heap.size, 0, none⟩) x.sn x.sn) (.slice none 0 0) (.slice none 0 0)) := T3.out.set1 _
 have P4 : Hid (OutIns (w2.setCell ⟨w.heap.size + 1 + 1, 1, none⟩ (.slice (some ⟨wB.heap.size, 0, none⟩) x.sn x.sn)) wA.heap.size wB.heap.size x.pn x.pL bs1 x.pH) := P3.out.keep (by simp) fun k hk _ => Below.heap_setCell _ _ _ _ (by simp; omega)
 have S4' : Hid (OutState (w2.setCell ⟨w.heap.size + 1 + 1, 1, none⟩ (.slice (some ⟨wB.heap.size, 0, none⟩) x.sn x.sn)) wB.heap.size w2.heap.size x.sn x.sS vs) := S3.out.keep (by simp) fun k hk _ => Below.heap_setCell _ _ _ _ (by simp; omega)
 have h12 : w2.heap.size = (w2.setCell ⟨w.heap.size + 1 + 1, 1, none⟩ (.slice (some ⟨wB.heap.size, 0, none⟩) x.sn x.sn)).heap.size := by simp
 have l2 : wB.heap.size < w2.heap.size := S3.out.lt
 clear P3 S3 T3 p0 p1 p2 p3 q0 q1 q2 q3 fo le
 generalize w2.setCell ⟨w.heap.size + 1 + 1, 1, none⟩ (.slice (some ⟨wB.heap.size, 0, none⟩) x.sn x.sn) = wC at *
 rw [h12] at S4' l2
 clear h12
 refine (toItemSS_any _ _ _ _ x.wL _ x.wH W wC (SysIn.lens HS.out).2.2.1.1 HA.out.w (HW.out.trans (T4.out.be.mono HWs.out))).mono ?_
 rintro e w3 ⟨rfl, ⟨bs3, o3⟩, b3⟩
 have T5 : Hid (TB w w3 (.slice x.pa x.pn x.pc) (.slice x.sa x.sn x.sc) (.slice x.wa x.wn x.wc) (.slice x.ha x.hn x.hc) (.slice (some ⟨wA.heap.size, 0, none⟩) x.pn x.pn) (.slice (some ⟨wB.heap.size, 0, none⟩) x.sn x.sn) (.slice none 0 0) (.slice none 0 0)) := T4.out.below b3
 have P5 : Hid (OutIns w3 wA.heap.size wB.heap.size x.pn x.pL bs1 x.pH) := P4.out.below b3 (by omega)
 have S5 : Hid (OutState w3 wB.heap.size wC.heap.size x.sn x.sS vs) := S4'.out.below b3 (Nat.le_refl _)
 have W5 : Hid (OutItem w3 wC.heap.size w3.heap.size x.wn x.wL bs3 x.wH) := o3
 clear b3 T4 o3 P4 S4'
 obtain ⟨⟨p0, p1, p2, p3⟩, -, ⟨q0, q1, q2, q3⟩, -, fo, -, le⟩ := T5.out
 go_wp2_with fail
 have T6 : Hid (TB w (w3.setCell ⟨w.heap.size + 1 + 1, 2, none⟩ (.slice (some ⟨wC.heap.size, 0, none⟩) x.wn x.wn)) (.slice x.pa x.pn x.pc) (.slice x.sa x.sn x.sc) (.slice x.wa x.wn x.wc) (.slice x.ha x.hn x.hc) (.slice (some ⟨wA.heap.size, 0, none⟩) x.pn x.pn) (.slice (some ⟨wB.heap.size, 0, none⟩) x.sn x.sn) (.slice (some ⟨wC.heap.size, 0, none⟩) x.wn x.wn) (.slice none 0 0)) := T5.out.set2 _
 have P6 : Hid (OutIns (w3.setCell ⟨w.heap.size + 1 + 1, 2, none⟩ (.slice (some ⟨wC.heap.size, 0, none⟩) x.wn x.wn)) wA.heap.size wB.heap.size x.pn x.pL bs1 x.pH) := P5.out.keep (by simp) fun k hk _ => Below.heap_setCell _ _ _ _ (by simp; omega)
 have S6 : Hid (OutState (w3.setCell ⟨w.heap.size + 1 + 1, 2, none⟩ (.slice (some ⟨wC.heap.size, 0, none⟩) x.wn x.wn)) wB.heap.size wC.heap.size x.sn x.sS vs) := S5.out.keep (by simp) fun k hk _ => Below.heap_setCell _ _ _ _ (by simp; omega)
 have W6 : Hid (OutItem (w3.setCell ⟨w.heap.size + 1 + 1, 2, none⟩ (.slice (some ⟨wC.heap.size, 0, none⟩) x.wn x.wn)) wC.heap.size w3.heap.size x.wn x.wL bs3 x.wH) := W5.out.keep (by simp) fun k hk _ => Below.heap_setCell _ _ _ _ (by simp; omega)
 have h12 : w3.heap.size = (w3.setCell ⟨w.heap.size + 1 + 1, 2, none⟩ (.slice (some ⟨wC.heap.size, 0, none⟩) x.wn x.wn)).heap.size := by simp
 have l3 : wC.heap.size < w3.heap.size := W5.out.lt
 clear P5 S5 W5 T5 p0 p1 p2 p3 q0 q1 q2 q3 fo le
 generalize w3.setCell ⟨w.heap.size + 1 + 1, 2, none⟩ (.slice (some ⟨wC.heap.size, 0, none⟩) x.wn x.wn) = wD at *
 rw [h12] at W6 l3
 clear h12
 refine (toEventSS_any _ _ _ _ x.hL _ x.hH W wD (SysIn.lens HS.out).2.2.2.1 HA.out.h (HW.out.trans (T6.out.be.mono HWs.out))).mono ?_
 rintro e w4 ⟨rfl, ⟨bs4, o4⟩, b4⟩
 have T7 : Hid (TB w w4 (.slice x.pa x.pn x.pc) (.slice x.sa x.sn x.sc) (.slice x.wa x.wn x.wc) (.slice x.ha x.hn x.hc) (.slice (some ⟨wA.heap.size, 0, none⟩) x.pn x.pn) (.slice (some ⟨wB.heap.size, 0, none⟩) x.sn x.sn) (.slice (some ⟨wC.heap.size, 0, none⟩) x.wn x.wn) (.slice none 0 0)) := T6.out.below b4
 have HO : Hid (∀ W9 : World, (∀ k, w.heap.size + 3 ≤ k → W9.heap[k]? = w4.heap[k]?) → W9.heap.size = w4.heap.size → IsSys W9 w.heap.size W9.heap.size x (sysV (some ⟨wA.heap.size, 0, none⟩) x.pn x.pn (some ⟨wB.heap.size, 0, none⟩) x.sn x.sn (some ⟨wC.heap.size, 0, none⟩) x.wn x.wn (some ⟨wD.heap.size, 0, none⟩) x.hn x.hn)) := by
  intro W9 hk hz
  have o4' : OutEvent w4 wD.heap.size W9.heap.size x.hn x.hL bs4 x.hH := hz ▸ o4
  exact ⟨_, _, _, _, bs1, vs, bs3, bs4, wB.heap.size, wC.heap.size, wD.heap.size, rfl, (P6.out.below b4 (by omega)).keep (by omega) fun k h1 _ => hk k (by omega), (S6.out.below b4 (by omega)).keep (by omega) fun k h1 _ => hk k (by omega), (W6.out.below b4 (Nat.le_refl _)).keep (by omega) fun k h1 _ => hk k (by omega), o4'.keep (by omega) fun k h1 _ => hk k (by omega), by omega, Nat.le_refl _, Nat.le_refl _, Nat.le_refl _⟩
 clear b4 T6 o4 P6 S6 W6
 obtain ⟨-, ⟨r0, r1, r2, r3⟩, ⟨q0, q1, q2, q3⟩, fr, fo, be, le⟩ := T7.out
 have BE : Hid (Below w.heap.size w w4) := be
 clear be T7
 go_wp2
 refine bodyPost_ret (v := sysV (some ⟨wA.heap.size, 0, none⟩) x.pn x.pn (some ⟨wB.heap.size, 0, none⟩) x.sn x.sn (some ⟨wC.heap.size, 0, none⟩) x.wn x.wn (some ⟨wD.heap.size, 0, none⟩) x.hn x.hn) (by simp [results, Tryz.results23, go_sem, r0, r1, r2, r3]) rfl ⟨_, rfl, HO.out _ ?_ ?_, ?_⟩
 ·intro k hk
  repeat (rw [Below.heap_setCell _ _ _ _ (by simp; omega)])
 ·simp
 ·have := BE.out
  go_grown
end Go.Proofs.YtnfdnnmddadmkaaGreatDoor
