/- The one listed variable: what the condition gives a walk, and a world that meets it. -/
import Derived.Test.YtdfhpimdgfemjaaGreatDoorLa25
import Derived.Test.YtdfhpimdgfemjaaGreatDoorLa26
import Derived.Test.YtdfhpimdgfemjaaGreatDoorLa16
import Derived.Test.YtdfhpimdgfemjaaGreatDoorLa22
import Derived.Test.YtdfhpimdgfemjaaGreatDoorLa23
import Derived.Test.YtdfhpimdgfemjaaGreatDoorLa14
import Derived.Test.YtdfhpimdgfemjaaGreatDoorLa13
import Derived.Test.YtdfhpimdgfemjaaGreatDoorRows
import Derived.Test.YtdfhpimdgfemjaaGreatDoorTie
import Derived.ChangeSame
import Derived.ChangeVars
import Derived.JoinedOf
import Derived.RowKit
import Derived.RowKitTokens
import Derived.LaidLaws
import Derived.LaidHandle
import Derived.Stop.Joined
namespace Go.Proofs.YtdfhpimdgfemjaaGreatDoor
open Go.ChangeShapes Go.WideShapes Go.ChangeAt Go.RowKit Go.Deep

/-- A system that came in, with where its parts lie. -/
structure SysIn where
  pa : Option Addr
  pn : Nat
  pc : Nat
  pA : Nat → Option Addr
  pL : Nat → Nat
  pC : Nat → Nat
  pH : Nat → Nat → I5
  sa : Option Addr
  sn : Nat
  sc : Nat
  sQ : Nat → St8
  wa : Option Addr
  wn : Nat
  wc : Nat
  wA : Nat → Option Addr
  wL : Nat → Nat
  wC : Nat → Nat
  wH : Nat → Nat → I2
  ha : Option Addr
  hn : Nat
  hc : Nat
  hA : Nat → Option Addr
  hL : Nat → Nat
  hC : Nat → Nat
  hH : Nat → Nat → E3
def SysIn.sS (x : SysIn) : Nat → S4 := fun i => (x.sQ i).s
def SysIn.size (x : SysIn) : Nat := x.pn + sumL x.pL x.pn + (x.sn + sumL (lenS x.sS) x.sn) + (x.wn + sumL x.wL x.wn) + (x.hn + sumL x.hL x.hn)
abbrev sysV (pa : Option Addr) (pn pc : Nat) (sa : Option Addr) (sn sc : Nat) (wa : Option Addr) (wn wc : Nat) (ha : Option Addr) (hn hc : Nat) : Value := .agg #[.slice pa pn pc, .slice sa sn sc, .slice wa wn wc, .slice ha hn hc]

/-- Its parts stand in memory. -/
structure SysIn.Row (W : World) (x : SysIn) : Prop where
  p : RowS W x.pa x.pn fun i => .slice (x.pA i) (x.pL i) (x.pC i)
  s : AllState W x.sa x.sn x.sQ
  w : RowS W x.wa x.wn fun i => .slice (x.wA i) (x.wL i) (x.wC i)
  h : RowS W x.ha x.hn fun i => .slice (x.hA i) (x.hL i) (x.hC i)
structure SysIn.Max (x : SysIn) : Prop where
  p : x.pn ≤ maxLen ∧ ∀ i, i < x.pn → x.pL i ≤ maxLen
  s : x.sn ≤ maxLen ∧ ∀ i, i < x.sn → (x.sQ i).rs.length ≤ maxLen ∧ (x.sQ i).os.length ≤ maxLen
  w : x.wn ≤ maxLen ∧ ∀ i, i < x.wn → x.wL i ≤ maxLen
  h : x.hn ≤ maxLen ∧ ∀ i, i < x.hn → x.hL i ≤ maxLen
structure SysIn.Ok (W : World) (x : SysIn) : Prop where
  p : AllIns W x.pa x.pn x.pA x.pL x.pC x.pH
  s : AllState W x.sa x.sn x.sQ
  w : AllItem W x.wa x.wn x.wA x.wL x.wC x.wH
  h : AllEvent W x.ha x.hn x.hA x.hL x.hC x.hH
theorem SysIn.Ok.row {W : World} {x : SysIn} (h : x.Ok W) : x.Row W := ⟨h.p.row, h.s, h.w.row, h.h.row⟩
theorem SysIn.Row.below {W w : World} {x : SysIn} (h : x.Row W) (hb : Below W.heap.size W w) : x.Row w := ⟨h.p.below hb, h.s.below hb, h.w.below hb, h.h.below hb⟩

set_option maxRecDepth 100000 in
set_option maxHeartbeats 1000000 in
theorem szSys_small (x : SysIn) (w : World) (hr : x.Row w) (h : x.size ≤ 1048576) :
    Calls Tryz.prog 9 #[sysV x.pa x.pn x.pc x.sa x.sn x.sc x.wa x.wn x.wc x.ha x.hn x.hc, .int .i64 1048576] w fun e w' => e = .returned (.int .i64 (1048576 - (x.size : Nat))) ∧ Below w.heap.size w w' := by
  have HR : Hid (x.Row w) := hr
  have hh : x.size = x.pn + sumL x.pL x.pn + (x.sn + sumL (lenS x.sS) x.sn) + (x.wn + sumL x.wL x.wn) + (x.hn + sumL x.hL x.hn) := rfl
  generalize e1 : (1048576 : Int) - x.pn - (sumL x.pL x.pn : Nat) = L1
  generalize e2 : L1 - x.sn - (sumL (lenS x.sS) x.sn : Nat) = L2
  generalize e3 : L2 - x.wn - (sumL x.wL x.wn : Nat) = L3
  have n1 : ¬ L1 < 0 := by omega
  have n2 : ¬ L2 < 0 := by omega
  have n3 : ¬ L3 < 0 := by omega
  have n4 : ¬ L3 - x.hn - (sumL x.hL x.hn : Nat) < 0 := by omega
  have q1 : ((x.pn : Int) + (sumL x.pL x.pn : Nat) ≤ 1048576) := by omega
  have q2 : ((x.sn : Int) + (sumL (lenS x.sS) x.sn : Nat) ≤ L1) ∧ L1 ≤ 1048576 := by omega
  have q3 : ((x.wn : Int) + (sumL x.wL x.wn : Nat) ≤ L2) ∧ L2 ≤ 1048576 := by omega
  have q4 : ((x.hn : Int) + (sumL x.hL x.hn : Nat) ≤ L3) ∧ L3 ≤ 1048576 := by omega
  have e4 : L3 - x.hn - (sumL x.hL x.hn : Nat) = 1048576 - (x.size : Nat) := by omega
  have E1 : Hid ((1048576 : Int) - x.pn - (sumL x.pL x.pn : Nat) = L1) := e1
  have E2 : Hid (L1 - x.sn - (sumL (lenS x.sS) x.sn : Nat) = L2) := e2
  have E3 : Hid (L2 - x.wn - (sumL x.wL x.wn : Nat) = L3) := e3
  have E4 : Hid (L3 - x.hn - (sumL x.hL x.hn : Nat) = 1048576 - (x.size : Nat)) := e4
  have Q : Hid (((x.pn : Int) + (sumL x.pL x.pn : Nat) ≤ 1048576) ∧ (((x.sn : Int) + (sumL (lenS x.sS) x.sn : Nat) ≤ L1) ∧ L1 ≤ 1048576) ∧ (((x.wn : Int) + (sumL x.wL x.wn : Nat) ≤ L2) ∧ L2 ≤ 1048576) ∧ (((x.hn : Int) + (sumL x.hL x.hn : Nat) ≤ L3) ∧ L3 ≤ 1048576)) := ⟨q1, q2, q3, q4⟩
  rw [e4] at n4
  clear hr h hh e1 e2 e3 e4 q1 q2 q3 q4
  go_enter Tryz.func9, Tryz.ntmps9
  go_wp2_with fail
  refine (szInsSS_small _ _ _ _ x.pL _ _ _ (HR.out.p.below (by go_grown)) Q.out.1 (Int.le_refl _)).mono ?_
  rintro e w1 ⟨rfl, rfl⟩
  rw [E1.out]
  go_wp2_with fail
  refine (szStateS_small _ _ _ x.sQ _ _ (HR.out.s.below (by go_grown)) Q.out.2.1.1 Q.out.2.1.2).mono ?_
  rintro e w2 ⟨rfl, b2⟩
  rw [show ((sumL (lenS fun i => (x.sQ i).s) x.sn : Nat) : Int) = (sumL (lenS x.sS) x.sn : Nat) from rfl, E2.out]
  have B2 : Hid (Below w.heap.size w w2) := below_up (by go_grown) b2 (by simp)
  have hw2 := b2.size
  obtain ⟨hc2, hf2⟩ := bcell b2
  clear b2
  go_wp2_with fail
  refine (szItemSS_small _ _ _ _ x.wL _ _ _ (HR.out.w.below B2.out) Q.out.2.2.1.1 Q.out.2.2.1.2).mono ?_
  rintro e w3 ⟨rfl, rfl⟩
  rw [E3.out]
  go_wp2_with fail
  refine (szEventSS_small _ _ _ _ x.hL _ _ _ (HR.out.h.below B2.out) Q.out.2.2.2.1 Q.out.2.2.2.2).mono ?_
  rintro e w4 ⟨rfl, rfl⟩
  rw [E4.out]
  go_wp2
  go_ret
  exact ⟨rfl, B2.out⟩

set_option maxRecDepth 100000 in
set_option maxHeartbeats 1000000 in
theorem szSys_great (x : SysIn) (w : World) (hr : x.Row w) (hm : x.Max) (h : 1048576 < x.size) :
    Calls Tryz.prog 9 #[sysV x.pa x.pn x.pc x.sa x.sn x.sc x.wa x.wn x.wc x.ha x.hn x.hc, .int .i64 1048576] w fun e w' => e = .returned (.int .i64 (-1)) ∧ Below w.heap.size w w' := by
  have HR : Hid (x.Row w) := hr
  have HM : Hid x.Max := hm
  have hh : x.size = x.pn + sumL x.pL x.pn + (x.sn + sumL (lenS x.sS) x.sn) + (x.wn + sumL x.wL x.wn) + (x.hn + sumL x.hL x.hn) := rfl
  have HH : Hid (1048576 < x.pn + sumL x.pL x.pn + (x.sn + sumL (lenS x.sS) x.sn) + (x.wn + sumL x.wL x.wn) + (x.hn + sumL x.hL x.hn)) := hh ▸ h
  clear hr h hh hm
  by_cases q1 : (x.pn : Int) + (sumL x.pL x.pn : Nat) ≤ 1048576
  case neg =>
    have Q1 : Hid (1048576 < (x.pn : Int) + (sumL x.pL x.pn : Nat)) := by show 1048576 < _; omega
    clear q1
    go_enter Tryz.func9, Tryz.ntmps9
    go_wp2_with fail
    refine (szInsSS_great _ _ _ _ x.pL _ _ _ (HR.out.p.below (by go_grown)) Q1.out (by omega) (Int.le_refl _) HM.out.p.1 HM.out.p.2).mono ?_
    rintro e w1 ⟨rfl, rfl⟩
    go_wp2
    go_ret
    exact ⟨rfl, by go_grown⟩
  generalize e1 : (1048576 : Int) - x.pn - (sumL x.pL x.pn : Nat) = L1
  have E1 : Hid ((1048576 : Int) - x.pn - (sumL x.pL x.pn : Nat) = L1) := e1
  have n1 : ¬ L1 < 0 := by omega
  have n1' : 0 ≤ L1 ∧ L1 ≤ 1048576 := by omega
  have N1 : Hid (0 ≤ L1 ∧ L1 ≤ 1048576) := n1'
  have Q1 : Hid ((x.pn : Int) + (sumL x.pL x.pn : Nat) ≤ 1048576) := q1
  by_cases q2 : (x.sn : Int) + (sumL (lenS x.sS) x.sn : Nat) ≤ L1
  case neg =>
    have Q2 : Hid (L1 < (x.sn : Int) + (sumL (lenS x.sS) x.sn : Nat)) := by show L1 < _; omega
    clear q1 q2 e1 n1'
    go_enter Tryz.func9, Tryz.ntmps9
    go_wp2_with fail
    refine (szInsSS_small _ _ _ _ x.pL _ _ _ (HR.out.p.below (by go_grown)) Q1.out (Int.le_refl _)).mono ?_
    rintro e w1 ⟨rfl, rfl⟩
    rw [E1.out]
    go_wp2_with fail
    refine (szStateS_great _ _ _ x.sQ _ _ (HR.out.s.below (by go_grown)) Q2.out N1.out.1 N1.out.2 HM.out.s.1 HM.out.s.2).mono ?_
    rintro e w2 ⟨rfl, b2⟩
    have B2 : Hid (Below w.heap.size w w2) := below_up (by go_grown) b2 (by simp)
    go_wp2
    go_ret
    exact ⟨rfl, B2.out⟩
  generalize e2 : L1 - x.sn - (sumL (lenS x.sS) x.sn : Nat) = L2
  have E2 : Hid (L1 - x.sn - (sumL (lenS x.sS) x.sn : Nat) = L2) := e2
  have n2 : ¬ L2 < 0 := by omega
  have n2' : 0 ≤ L2 ∧ L2 ≤ 1048576 := by omega
  have N2 : Hid (0 ≤ L2 ∧ L2 ≤ 1048576) := n2'
  have Q2 : Hid ((x.sn : Int) + (sumL (lenS x.sS) x.sn : Nat) ≤ L1) := q2
  by_cases q3 : (x.wn : Int) + (sumL x.wL x.wn : Nat) ≤ L2
  case neg =>
    have Q3 : Hid (L2 < (x.wn : Int) + (sumL x.wL x.wn : Nat)) := by show L2 < _; omega
    clear q1 q2 q3 e1 e2 n1' n2'
    go_enter Tryz.func9, Tryz.ntmps9
    go_wp2_with fail
    refine (szInsSS_small _ _ _ _ x.pL _ _ _ (HR.out.p.below (by go_grown)) Q1.out (Int.le_refl _)).mono ?_
    rintro e w1 ⟨rfl, rfl⟩
    rw [E1.out]
    go_wp2_with fail
    refine (szStateS_small _ _ _ x.sQ _ _ (HR.out.s.below (by go_grown)) Q2.out N1.out.2).mono ?_
    rintro e w2 ⟨rfl, b2⟩
    rw [show ((sumL (lenS fun i => (x.sQ i).s) x.sn : Nat) : Int) = (sumL (lenS x.sS) x.sn : Nat) from rfl, E2.out]
    have B2 : Hid (Below w.heap.size w w2) := below_up (by go_grown) b2 (by simp)
    have hw2 := b2.size
    obtain ⟨hc2, hf2⟩ := bcell b2
    clear b2
    go_wp2_with fail
    refine (szItemSS_great _ _ _ _ x.wL _ _ _ (HR.out.w.below B2.out) Q3.out N2.out.1 N2.out.2 HM.out.w.1 HM.out.w.2).mono ?_
    rintro e w3 ⟨rfl, rfl⟩
    go_wp2
    go_ret
    exact ⟨rfl, B2.out⟩
  generalize e3 : L2 - x.wn - (sumL x.wL x.wn : Nat) = L3
  have E3 : Hid (L2 - x.wn - (sumL x.wL x.wn : Nat) = L3) := e3
  have n3 : ¬ L3 < 0 := by omega
  have n3' : 0 ≤ L3 ∧ L3 ≤ 1048576 := by omega
  have N3 : Hid (0 ≤ L3 ∧ L3 ≤ 1048576) := n3'
  have Q3 : Hid ((x.wn : Int) + (sumL x.wL x.wn : Nat) ≤ L2) := q3
  have Q4 : Hid (L3 < (x.hn : Int) + (sumL x.hL x.hn : Nat)) := by
    show L3 < _
    have := HH.out
    omega
  clear q1 q2 q3 e1 e2 e3 n1' n2' n3' HH
  go_enter Tryz.func9, Tryz.ntmps9
  go_wp2_with fail
  refine (szInsSS_small _ _ _ _ x.pL _ _ _ (HR.out.p.below (by go_grown)) Q1.out (Int.le_refl _)).mono ?_
  rintro e w1 ⟨rfl, rfl⟩
  rw [E1.out]
  go_wp2_with fail
  refine (szStateS_small _ _ _ x.sQ _ _ (HR.out.s.below (by go_grown)) Q2.out N1.out.2).mono ?_
  rintro e w2 ⟨rfl, b2⟩
  rw [show ((sumL (lenS fun i => (x.sQ i).s) x.sn : Nat) : Int) = (sumL (lenS x.sS) x.sn : Nat) from rfl, E2.out]
  have B2 : Hid (Below w.heap.size w w2) := below_up (by go_grown) b2 (by simp)
  have hw2 := b2.size
  obtain ⟨hc2, hf2⟩ := bcell b2
  clear b2
  go_wp2_with fail
  refine (szItemSS_small _ _ _ _ x.wL _ _ _ (HR.out.w.below B2.out) Q3.out N2.out.2).mono ?_
  rintro e w3 ⟨rfl, rfl⟩
  rw [E3.out]
  go_wp2_with fail
  refine (szEventSS_great _ _ _ _ x.hL _ _ _ (HR.out.h.below B2.out) Q4.out N3.out.1 N3.out.2 HM.out.h.1 HM.out.h.2).mono ?_
  rintro e w4 ⟨rfl, rfl⟩
  go_wp2
  go_ret
  exact ⟨rfl, B2.out⟩

/-- A copy of a system: four lists, each behind the last. -/
structure OutSys (w : World) (lo hi : Nat) (x : SysIn) (v : Value) (D1 D2 D3 D4 : Nat) (b1 : Nat → Nat) (vs : Nat → Value) (b3 b4 : Nat → Nat) (h1 h2 h3 : Nat) : Prop where
  val : v = sysV (some ⟨D1, 0, none⟩) x.pn x.pn (some ⟨D2, 0, none⟩) x.sn x.sn (some ⟨D3, 0, none⟩) x.wn x.wn (some ⟨D4, 0, none⟩) x.hn x.hn
  pp : OutIns w D1 h1 x.pn x.pL b1 x.pH
  ss : OutState w D2 h2 x.sn x.sS vs
  ww : OutItem w D3 h3 x.wn x.wL b3 x.wH
  hh : OutEvent w D4 hi x.hn x.hL b4 x.hH
  lo : lo ≤ D1
  o1 : h1 ≤ D2
  o2 : h2 ≤ D3
  o3 : h3 ≤ D4
def IsSys (w : World) (lo hi : Nat) (x : SysIn) (v : Value) : Prop := ∃ D1 D2 D3 D4 b1 vs b3 b4 h1 h2 h3, OutSys w lo hi x v D1 D2 D3 D4 b1 vs b3 b4 h1 h2 h3
theorem OutSys.hi {w : World} {lo hi : Nat} {x : SysIn} {v : Value} {D1 D2 D3 D4 : Nat} {b1 : Nat → Nat} {vs : Nat → Value} {b3 b4 : Nat → Nat} {h1 h2 h3 : Nat} (o : OutSys w lo hi x v D1 D2 D3 D4 b1 vs b3 b4 h1 h2 h3) : h1 ≤ hi ∧ h2 ≤ hi ∧ h3 ≤ hi ∧ hi ≤ w.heap.size ∧ lo < hi := by
  have := o.pp.lt
  have := o.ss.lt
  have := o.ww.lt
  have := o.hh.lt
  have := o.lo
  have := o.o1
  have := o.o2
  have := o.o3
  have := o.hh.le
  omega
theorem IsSys.below {w w' : World} {lo hi : Nat} {x : SysIn} {v : Value} {B : Nat} (o : IsSys w lo hi x v) (hb : Below B w w') (hB : hi ≤ B) : IsSys w' lo hi x v := by
  obtain ⟨D1, D2, D3, D4, b1, vs, b3, b4, h1, h2, h3, o⟩ := o
  obtain ⟨q1, q2, q3, -, -⟩ := o.hi
  exact ⟨D1, D2, D3, D4, b1, vs, b3, b4, h1, h2, h3, o.val, o.pp.below hb (by omega), o.ss.below hb (by omega), o.ww.below hb (by omega), o.hh.below hb hB, o.lo, o.o1, o.o2, o.o3⟩

end Go.Proofs.YtdfhpimdgfemjaaGreatDoor

namespace Go.Proofs.YtdfhpimdgfemjaaGreatDoor
open Go.ChangeShapes Go.WideShapes Go.ChangeAt Go.RowKit Go.Deep

theorem below_allocS (w : World) (o : Obj) : Below w.heap.size w (w.alloc o) := (Below.refl _ _).alloc (Nat.le_refl _) _
theorem sum_le {n : Nat} {ls : Nat → Nat} {N : Nat} (h : sumL ls n ≤ N) : ∀ i, i < n → ls i ≤ N := fun i hi => by
  have := sumL_at ls hi
  omega
theorem SysIn.lens {x : SysIn} (h : x.size ≤ 1048576) : (x.pn ≤ 1048576 ∧ sumL x.pL x.pn ≤ 1048576) ∧ (x.sn ≤ 1048576 ∧ sumL (lenS x.sS) x.sn ≤ 1048576) ∧ (x.wn ≤ 1048576 ∧ sumL x.wL x.wn ≤ 1048576) ∧ (x.hn ≤ 1048576 ∧ sumL x.hL x.hn ≤ 1048576) := by
  unfold SysIn.size at h
  omega
theorem SysIn.lensS {x : SysIn} (h : x.size ≤ 1048576) : ∀ i, i < x.sn → (x.sQ i).rs.length ≤ 1048576 ∧ (x.sQ i).os.length ≤ 1048576 := fun i hi => by
  have := sum_le (SysIn.lens h).2.1.2 i hi
  have e : lenS x.sS i = (x.sQ i).rs.length + (x.sQ i).os.length := rfl
  omega

/-- The three boxes of a copy that is being made: what came in, the answer's, the copy's. -/
structure TB (w wx : World) (a0 a1 a2 a3 o0 o1 o2 o3 : Value) : Prop where
  p : BoxC wx w.heap.size a0 a1 a2 a3
  r : BoxC wx (w.heap.size + 1) (.slice none 0 0) (.slice none 0 0) (.slice none 0 0) (.slice none 0 0)
  o : BoxC wx (w.heap.size + 1 + 1) o0 o1 o2 o3
  fr : ∀ j, wx.frozen? ⟨w.heap.size + 1, j, none⟩ = false
  fo : ∀ j, wx.frozen? ⟨w.heap.size + 1 + 1, j, none⟩ = false
  be : Below w.heap.size w wx
  le : w.heap.size + 3 ≤ wx.heap.size
theorem TB.below {w wx w' : World} {a0 a1 a2 a3 o0 o1 o2 o3 : Value} (h : TB w wx a0 a1 a2 a3 o0 o1 o2 o3) (hb : Below wx.heap.size wx w') : TB w w' a0 a1 a2 a3 o0 o1 o2 o3 :=
  ⟨h.p.below hb, h.r.below hb, h.o.below hb, fun j => (hb.frozen (p := ⟨w.heap.size + 1, j, none⟩) (by have := h.le; show w.heap.size + 1 < _; omega)).trans (h.fr j), fun j => (hb.frozen (p := ⟨w.heap.size + 1 + 1, j, none⟩) (by have := h.le; show w.heap.size + 1 + 1 < _; omega)).trans (h.fo j), h.be.trans (hb.mono h.be.size), Nat.le_trans h.le hb.size⟩
theorem TB.first {w : World} (a0 a1 a2 a3 : Value) (t1 t2 : TypeId) : TB w (((w.alloc (.cells #[a0, a1, a2, a3] t1)).alloc (.cells #[.slice none 0 0, .slice none 0 0, .slice none 0 0, .slice none 0 0] t2)).alloc (.cells #[.slice none 0 0, .slice none 0 0, .slice none 0 0, .slice none 0 0] t2)) a0 a1 a2 a3 (.slice none 0 0) (.slice none 0 0) (.slice none 0 0) (.slice none 0 0) := by
  have hb1 := below_allocS (w.alloc (.cells #[a0, a1, a2, a3] t1)) (.cells #[.slice none 0 0, .slice none 0 0, .slice none 0 0, .slice none 0 0] t2)
  have hb2 := below_allocS ((w.alloc (.cells #[a0, a1, a2, a3] t1)).alloc (.cells #[.slice none 0 0, .slice none 0 0, .slice none 0 0, .slice none 0 0] t2)) (.cells #[.slice none 0 0, .slice none 0 0, .slice none 0 0, .slice none 0 0] t2)
  have n0 := BoxC.new w a0 a1 a2 a3 t1
  have n1 := BoxC.new (w.alloc (.cells #[a0, a1, a2, a3] t1)) (.slice none 0 0) (.slice none 0 0) (.slice none 0 0) (.slice none 0 0) t2
  have n2 := BoxC.new ((w.alloc (.cells #[a0, a1, a2, a3] t1)).alloc (.cells #[.slice none 0 0, .slice none 0 0, .slice none 0 0, .slice none 0 0] t2)) (.slice none 0 0) (.slice none 0 0) (.slice none 0 0) (.slice none 0 0) t2
  have f1 := fun j => new_frozen (w.alloc (.cells #[a0, a1, a2, a3] t1)) #[.slice none 0 0, .slice none 0 0, .slice none 0 0, .slice none 0 0] t2 j rfl
  have f2 := fun j => new_frozen ((w.alloc (.cells #[a0, a1, a2, a3] t1)).alloc (.cells #[.slice none 0 0, .slice none 0 0, .slice none 0 0, .slice none 0 0] t2)) #[.slice none 0 0, .slice none 0 0, .slice none 0 0, .slice none 0 0] t2 j rfl
  simp only [World.size_alloc] at n1 n2 f1 f2
  refine ⟨(n0.below hb1).below hb2, n1.below hb2, n2, fun j => ?_, f2, ?_, by simp⟩
  · exact (hb2.frozen (p := ⟨w.heap.size + 1, j, none⟩) (by simp)).trans (f1 j)
  · exact (((Below.refl _ _).alloc (Nat.le_refl _) _).alloc (by simp) _).alloc (by simp; omega) _
theorem BoxC.setO {w : World} {N M j : Nat} {p a b c u : Value} (h : BoxC w N p a b c) (hne : M ≠ N) : BoxC (w.setCell ⟨M, j, none⟩ u) N p a b c := by
  obtain ⟨h0, h1, h2, h3⟩ := h
  have hc : ∀ i, (w.setCell ⟨M, j, none⟩ u).cell? ⟨N, i, none⟩ = w.cell? ⟨N, i, none⟩ := fun i => World.cell?_setCell_other _ _ _ _ fun e => hne (by injection e)
  exact ⟨(hc _).trans h0, (hc _).trans h1, (hc _).trans h2, (hc _).trans h3⟩
theorem TB.set0 {w wx : World} {a0 a1 a2 a3 o0 o1 o2 o3 : Value} (h : TB w wx a0 a1 a2 a3 o0 o1 o2 o3) (u : Value) : TB w (wx.setCell ⟨w.heap.size + 1 + 1, 0, none⟩ u) a0 a1 a2 a3 u o1 o2 o3 := by
  obtain ⟨q0, q1, q2, q3⟩ := h.o
  have hc : ∀ i, 0 ≠ i → (wx.setCell ⟨w.heap.size + 1 + 1, 0, none⟩ u).cell? ⟨w.heap.size + 1 + 1, i, none⟩ = wx.cell? ⟨w.heap.size + 1 + 1, i, none⟩ := fun i hi => World.cell?_setCell_other _ _ _ _ fun e => hi (by injection e)
  exact ⟨h.p.setO (by omega), h.r.setO (by omega), ⟨World.cell?_setCell_same _ _ _ q0, (hc _ (by omega)).trans q1, (hc _ (by omega)).trans q2, (hc _ (by omega)).trans q3⟩, fun j => by rw [World.frozen?_setCell]; exact h.fr j, fun j => by rw [World.frozen?_setCell]; exact h.fo j, h.be.setCell (by simp; omega) _, by simp; exact h.le⟩
theorem TB.set1 {w wx : World} {a0 a1 a2 a3 o0 o1 o2 o3 : Value} (h : TB w wx a0 a1 a2 a3 o0 o1 o2 o3) (u : Value) : TB w (wx.setCell ⟨w.heap.size + 1 + 1, 1, none⟩ u) a0 a1 a2 a3 o0 u o2 o3 := by
  obtain ⟨q0, q1, q2, q3⟩ := h.o
  have hc : ∀ i, 1 ≠ i → (wx.setCell ⟨w.heap.size + 1 + 1, 1, none⟩ u).cell? ⟨w.heap.size + 1 + 1, i, none⟩ = wx.cell? ⟨w.heap.size + 1 + 1, i, none⟩ := fun i hi => World.cell?_setCell_other _ _ _ _ fun e => hi (by injection e)
  exact ⟨h.p.setO (by omega), h.r.setO (by omega), ⟨(hc _ (by omega)).trans q0, World.cell?_setCell_same _ _ _ q1, (hc _ (by omega)).trans q2, (hc _ (by omega)).trans q3⟩, fun j => by rw [World.frozen?_setCell]; exact h.fr j, fun j => by rw [World.frozen?_setCell]; exact h.fo j, h.be.setCell (by simp; omega) _, by simp; exact h.le⟩
theorem TB.set2 {w wx : World} {a0 a1 a2 a3 o0 o1 o2 o3 : Value} (h : TB w wx a0 a1 a2 a3 o0 o1 o2 o3) (u : Value) : TB w (wx.setCell ⟨w.heap.size + 1 + 1, 2, none⟩ u) a0 a1 a2 a3 o0 o1 u o3 := by
  obtain ⟨q0, q1, q2, q3⟩ := h.o
  have hc : ∀ i, 2 ≠ i → (wx.setCell ⟨w.heap.size + 1 + 1, 2, none⟩ u).cell? ⟨w.heap.size + 1 + 1, i, none⟩ = wx.cell? ⟨w.heap.size + 1 + 1, i, none⟩ := fun i hi => World.cell?_setCell_other _ _ _ _ fun e => hi (by injection e)
  exact ⟨h.p.setO (by omega), h.r.setO (by omega), ⟨(hc _ (by omega)).trans q0, (hc _ (by omega)).trans q1, World.cell?_setCell_same _ _ _ q2, (hc _ (by omega)).trans q3⟩, fun j => by rw [World.frozen?_setCell]; exact h.fr j, fun j => by rw [World.frozen?_setCell]; exact h.fo j, h.be.setCell (by simp; omega) _, by simp; exact h.le⟩

set_option maxRecDepth 100000 in
set_option maxHeartbeats 2000000 in
theorem toSys_any (x : SysIn) (W w : World) (hs : x.size ≤ 1048576) (hA : x.Ok W) (hW : Below W.heap.size W w) :
    Calls Tryz.prog 11 #[sysV x.pa x.pn x.pc x.sa x.sn x.sc x.wa x.wn x.wc x.ha x.hn x.hc] w fun e w' => ∃ v, e = .returned v ∧ IsSys w' w.heap.size w'.heap.size x v ∧ Below w.heap.size w w' := by
  have HA : Hid (x.Ok W) := hA
  have HW : Hid (Below W.heap.size W w) := hW
  have HS : Hid (x.size ≤ 1048576) := hs
  have HWs : Hid (W.heap.size ≤ w.heap.size) := hW.size
  clear hA hW hs
  go_enter Tryz.func11, Tryz.ntmps11
  have T0 : Hid (TB w (((w.alloc (.cells #[.slice x.pa x.pn x.pc, .slice x.sa x.sn x.sc, .slice x.wa x.wn x.wc, .slice x.ha x.hn x.hc] 27)).alloc (.cells #[.slice none 0 0, .slice none 0 0, .slice none 0 0, .slice none 0 0] 34)).alloc (.cells #[.slice none 0 0, .slice none 0 0, .slice none 0 0, .slice none 0 0] 34)) (.slice x.pa x.pn x.pc) (.slice x.sa x.sn x.sc) (.slice x.wa x.wn x.wc) (.slice x.ha x.hn x.hc) (.slice none 0 0) (.slice none 0 0) (.slice none 0 0) (.slice none 0 0)) := TB.first _ _ _ _ _ _
  go_wp2_with fail
  generalize ((w.alloc (.cells #[.slice x.pa x.pn x.pc, .slice x.sa x.sn x.sc, .slice x.wa x.wn x.wc, .slice x.ha x.hn x.hc] 27)).alloc (.cells #[.slice none 0 0, .slice none 0 0, .slice none 0 0, .slice none 0 0] 34)).alloc (.cells #[.slice none 0 0, .slice none 0 0, .slice none 0 0, .slice none 0 0] 34) = wA at *
  refine (toInsSS_any _ _ _ _ x.pL _ x.pH W _ (SysIn.lens HS.out).1.1 HA.out.p (HW.out.trans (T0.out.be.mono HWs.out))).mono ?_
  rintro e w1 ⟨rfl, ⟨bs1, o1⟩, b1⟩
  have T1 : Hid (TB w w1 (.slice x.pa x.pn x.pc) (.slice x.sa x.sn x.sc) (.slice x.wa x.wn x.wc) (.slice x.ha x.hn x.hc) (.slice none 0 0) (.slice none 0 0) (.slice none 0 0) (.slice none 0 0)) := T0.out.below b1
  have O1 : Hid (OutIns w1 wA.heap.size w1.heap.size x.pn x.pL bs1 x.pH) := o1
  have zA : w.heap.size + 3 ≤ wA.heap.size := T0.out.le
  clear b1 T0 o1
  obtain ⟨⟨p0, p1, p2, p3⟩, -, ⟨q0, q1, q2, q3⟩, -, fo, -, le⟩ := T1.out
  go_wp2_with fail
  have T2 : Hid (TB w (w1.setCell ⟨w.heap.size + 1 + 1, 0, none⟩ (.slice (some ⟨wA.heap.size, 0, none⟩) x.pn x.pn)) (.slice x.pa x.pn x.pc) (.slice x.sa x.sn x.sc) (.slice x.wa x.wn x.wc) (.slice x.ha x.hn x.hc) (.slice (some ⟨wA.heap.size, 0, none⟩) x.pn x.pn) (.slice none 0 0) (.slice none 0 0) (.slice none 0 0)) := T1.out.set0 _
  have O2 : Hid (OutIns (w1.setCell ⟨w.heap.size + 1 + 1, 0, none⟩ (.slice (some ⟨wA.heap.size, 0, none⟩) x.pn x.pn)) wA.heap.size w1.heap.size x.pn x.pL bs1 x.pH) := O1.out.keep (by simp) fun k hk _ => Below.heap_setCell _ _ _ _ (by simp; omega)
  have h12 : w1.heap.size = (w1.setCell ⟨w.heap.size + 1 + 1, 0, none⟩ (.slice (some ⟨wA.heap.size, 0, none⟩) x.pn x.pn)).heap.size := by simp
  have l1 : wA.heap.size < w1.heap.size := O1.out.lt
  clear O1 T1 p0 p1 p2 p3 q0 q1 q2 q3 fo le
  generalize w1.setCell ⟨w.heap.size + 1 + 1, 0, none⟩ (.slice (some ⟨wA.heap.size, 0, none⟩) x.pn x.pn) = wB at *
  rw [h12] at O2 l1
  clear h12
  refine (toStateS_any _ _ _ x.sQ W wB (SysIn.lens HS.out).2.1.1 (SysIn.lensS HS.out) HA.out.s (HW.out.trans (T2.out.be.mono HWs.out))).mono ?_
  rintro e w2 ⟨rfl, ⟨vs, o2⟩, b2⟩
  have T3 : Hid (TB w w2 (.slice x.pa x.pn x.pc) (.slice x.sa x.sn x.sc) (.slice x.wa x.wn x.wc) (.slice x.ha x.hn x.hc) (.slice (some ⟨wA.heap.size, 0, none⟩) x.pn x.pn) (.slice none 0 0) (.slice none 0 0) (.slice none 0 0)) := T2.out.below b2
  have P3 : Hid (OutIns w2 wA.heap.size wB.heap.size x.pn x.pL bs1 x.pH) := O2.out.below b2 (Nat.le_refl _)
  have S3 : Hid (OutState w2 wB.heap.size w2.heap.size x.sn x.sS vs) := o2
  clear b2 T2 o2 O2
  obtain ⟨⟨p0, p1, p2, p3⟩, -, ⟨q0, q1, q2, q3⟩, -, fo, -, le⟩ := T3.out
  go_wp2_with fail
  have T4 : Hid (TB w (w2.setCell ⟨w.heap.size + 1 + 1, 1, none⟩ (.slice (some ⟨wB.heap.size, 0, none⟩) x.sn x.sn)) (.slice x.pa x.pn x.pc) (.slice x.sa x.sn x.sc) (.slice x.wa x.wn x.wc) (.slice x.ha x.hn x.hc) (.slice (some ⟨wA.heap.size, 0, none⟩) x.pn x.pn) (.slice (some ⟨wB.heap.size, 0, none⟩) x.sn x.sn) (.slice none 0 0) (.slice none 0 0)) := T3.out.set1 _
  have P4 : Hid (OutIns (w2.setCell ⟨w.heap.size + 1 + 1, 1, none⟩ (.slice (some ⟨wB.heap.size, 0, none⟩) x.sn x.sn)) wA.heap.size wB.heap.size x.pn x.pL bs1 x.pH) := P3.out.keep (by simp) fun k hk _ => Below.heap_setCell _ _ _ _ (by simp; omega)
  have S4' : Hid (OutState (w2.setCell ⟨w.heap.size + 1 + 1, 1, none⟩ (.slice (some ⟨wB.heap.size, 0, none⟩) x.sn x.sn)) wB.heap.size w2.heap.size x.sn x.sS vs) := S3.out.keep (by simp) fun k hk _ => Below.heap_setCell _ _ _ _ (by simp; omega)
  have h12 : w2.heap.size = (w2.setCell ⟨w.heap.size + 1 + 1, 1, none⟩ (.slice (some ⟨wB.heap.size, 0, none⟩) x.sn x.sn)).heap.size := by simp
  have l2 : wB.heap.size < w2.heap.size := S3.out.lt
  clear P3 S3 T3 p0 p1 p2 p3 q0 q1 q2 q3 fo le
  generalize w2.setCell ⟨w.heap.size + 1 + 1, 1, none⟩ (.slice (some ⟨wB.heap.size, 0, none⟩) x.sn x.sn) = wC at *
  rw [h12] at S4' l2
  clear h12
  refine (toItemSS_any _ _ _ _ x.wL _ x.wH W wC (SysIn.lens HS.out).2.2.1.1 HA.out.w (HW.out.trans (T4.out.be.mono HWs.out))).mono ?_
  rintro e w3 ⟨rfl, ⟨bs3, o3⟩, b3⟩
  have T5 : Hid (TB w w3 (.slice x.pa x.pn x.pc) (.slice x.sa x.sn x.sc) (.slice x.wa x.wn x.wc) (.slice x.ha x.hn x.hc) (.slice (some ⟨wA.heap.size, 0, none⟩) x.pn x.pn) (.slice (some ⟨wB.heap.size, 0, none⟩) x.sn x.sn) (.slice none 0 0) (.slice none 0 0)) := T4.out.below b3
  have P5 : Hid (OutIns w3 wA.heap.size wB.heap.size x.pn x.pL bs1 x.pH) := P4.out.below b3 (by omega)
  have S5 : Hid (OutState w3 wB.heap.size wC.heap.size x.sn x.sS vs) := S4'.out.below b3 (Nat.le_refl _)
  have W5 : Hid (OutItem w3 wC.heap.size w3.heap.size x.wn x.wL bs3 x.wH) := o3
  clear b3 T4 o3 P4 S4'
  obtain ⟨⟨p0, p1, p2, p3⟩, -, ⟨q0, q1, q2, q3⟩, -, fo, -, le⟩ := T5.out
  go_wp2_with fail
  have T6 : Hid (TB w (w3.setCell ⟨w.heap.size + 1 + 1, 2, none⟩ (.slice (some ⟨wC.heap.size, 0, none⟩) x.wn x.wn)) (.slice x.pa x.pn x.pc) (.slice x.sa x.sn x.sc) (.slice x.wa x.wn x.wc) (.slice x.ha x.hn x.hc) (.slice (some ⟨wA.heap.size, 0, none⟩) x.pn x.pn) (.slice (some ⟨wB.heap.size, 0, none⟩) x.sn x.sn) (.slice (some ⟨wC.heap.size, 0, none⟩) x.wn x.wn) (.slice none 0 0)) := T5.out.set2 _
  have P6 : Hid (OutIns (w3.setCell ⟨w.heap.size + 1 + 1, 2, none⟩ (.slice (some ⟨wC.heap.size, 0, none⟩) x.wn x.wn)) wA.heap.size wB.heap.size x.pn x.pL bs1 x.pH) := P5.out.keep (by simp) fun k hk _ => Below.heap_setCell _ _ _ _ (by simp; omega)
  have S6 : Hid (OutState (w3.setCell ⟨w.heap.size + 1 + 1, 2, none⟩ (.slice (some ⟨wC.heap.size, 0, none⟩) x.wn x.wn)) wB.heap.size wC.heap.size x.sn x.sS vs) := S5.out.keep (by simp) fun k hk _ => Below.heap_setCell _ _ _ _ (by simp; omega)
  have W6 : Hid (OutItem (w3.setCell ⟨w.heap.size + 1 + 1, 2, none⟩ (.slice (some ⟨wC.heap.size, 0, none⟩) x.wn x.wn)) wC.heap.size w3.heap.size x.wn x.wL bs3 x.wH) := W5.out.keep (by simp) fun k hk _ => Below.heap_setCell _ _ _ _ (by simp; omega)
  have h12 : w3.heap.size = (w3.setCell ⟨w.heap.size + 1 + 1, 2, none⟩ (.slice (some ⟨wC.heap.size, 0, none⟩) x.wn x.wn)).heap.size := by simp
  have l3 : wC.heap.size < w3.heap.size := W5.out.lt
  clear P5 S5 W5 T5 p0 p1 p2 p3 q0 q1 q2 q3 fo le
  generalize w3.setCell ⟨w.heap.size + 1 + 1, 2, none⟩ (.slice (some ⟨wC.heap.size, 0, none⟩) x.wn x.wn) = wD at *
  rw [h12] at W6 l3
  clear h12
  refine (toEventSS_any _ _ _ _ x.hL _ x.hH W wD (SysIn.lens HS.out).2.2.2.1 HA.out.h (HW.out.trans (T6.out.be.mono HWs.out))).mono ?_
  rintro e w4 ⟨rfl, ⟨bs4, o4⟩, b4⟩
  have T7 : Hid (TB w w4 (.slice x.pa x.pn x.pc) (.slice x.sa x.sn x.sc) (.slice x.wa x.wn x.wc) (.slice x.ha x.hn x.hc) (.slice (some ⟨wA.heap.size, 0, none⟩) x.pn x.pn) (.slice (some ⟨wB.heap.size, 0, none⟩) x.sn x.sn) (.slice (some ⟨wC.heap.size, 0, none⟩) x.wn x.wn) (.slice none 0 0)) := T6.out.below b4
  have HO : Hid (∀ W9 : World, (∀ k, w.heap.size + 3 ≤ k → W9.heap[k]? = w4.heap[k]?) → W9.heap.size = w4.heap.size → IsSys W9 w.heap.size W9.heap.size x (sysV (some ⟨wA.heap.size, 0, none⟩) x.pn x.pn (some ⟨wB.heap.size, 0, none⟩) x.sn x.sn (some ⟨wC.heap.size, 0, none⟩) x.wn x.wn (some ⟨wD.heap.size, 0, none⟩) x.hn x.hn)) := by
    intro W9 hk hz
    have o4' : OutEvent w4 wD.heap.size W9.heap.size x.hn x.hL bs4 x.hH := hz ▸ o4
    exact ⟨_, _, _, _, bs1, vs, bs3, bs4, wB.heap.size, wC.heap.size, wD.heap.size, rfl, (P6.out.below b4 (by omega)).keep (by omega) fun k h1 _ => hk k (by omega), (S6.out.below b4 (by omega)).keep (by omega) fun k h1 _ => hk k (by omega), (W6.out.below b4 (Nat.le_refl _)).keep (by omega) fun k h1 _ => hk k (by omega), o4'.keep (by omega) fun k h1 _ => hk k (by omega), by omega, Nat.le_refl _, Nat.le_refl _, Nat.le_refl _⟩
  clear b4 T6 o4 P6 S6 W6
  obtain ⟨-, ⟨r0, r1, r2, r3⟩, ⟨q0, q1, q2, q3⟩, fr, fo, be, le⟩ := T7.out
  have BE : Hid (Below w.heap.size w w4) := be
  clear be T7
  go_wp2
  refine bodyPost_ret (v := sysV (some ⟨wA.heap.size, 0, none⟩) x.pn x.pn (some ⟨wB.heap.size, 0, none⟩) x.sn x.sn (some ⟨wC.heap.size, 0, none⟩) x.wn x.wn (some ⟨wD.heap.size, 0, none⟩) x.hn x.hn) (by simp [results, Tryz.results11, go_sem, r0, r1, r2, r3]) rfl ⟨_, rfl, HO.out _ ?_ ?_, ?_⟩
  · intro k hk
    repeat (rw [Below.heap_setCell _ _ _ _ (by simp; omega)])
  · simp
  · have := BE.out
    go_grown

end Go.Proofs.YtdfhpimdgfemjaaGreatDoor

namespace Go.Proofs.YtdfhpimdgfemjaaGreatDoor
open Go.ChangeShapes Go.WideShapes Go.ChangeAt Go.RowKit Go.Deep

/-- A shot that came in, with where its parts lie. -/
structure ShIn where
  on : Bool
  ca : Option Addr
  cn : Nat
  cc : Nat
  cH : Nat → Int
  oa : Option Addr
  ol : Nat
  oc : Nat
  oH : Nat → Bool
  ka : Option Addr
  kn : Nat
  kc : Nat
  kA : Nat → Option Addr
  kL : Nat → Nat
  kC : Nat → Nat
  kH : Nat → Nat → Int
def ShIn.size (x : ShIn) : Nat := x.cn + x.ol + (x.kn + sumL x.kL x.kn)
abbrev shV (on : Bool) (ca : Option Addr) (cn cc : Nat) (oa : Option Addr) (ol oc : Nat) (ka : Option Addr) (kn kc : Nat) : Value := .agg #[.bool on, .slice ca cn cc, .slice oa ol oc, .slice ka kn kc]
abbrev ShIn.v (x : ShIn) : Value := shV x.on x.ca x.cn x.cc x.oa x.ol x.oc x.ka x.kn x.kc
/-- Its lists of numbers stand in memory. -/
def ShIn.Row (W : World) (x : ShIn) : Prop := RowS W x.ka x.kn fun i => .slice (x.kA i) (x.kL i) (x.kC i)
structure ShIn.Max (x : ShIn) : Prop where
  c : x.cn ≤ maxLen
  o : x.ol ≤ maxLen
  k : x.kn ≤ maxLen ∧ ∀ i, i < x.kn → x.kL i ≤ maxLen
structure ShIn.Ok (W : World) (x : ShIn) : Prop where
  c : CopiesZ W x.ca x.cn x.cc x.cH
  o : CopiesB W x.oa x.ol x.oc x.oH
  k : AllInt W x.ka x.kn x.kA x.kL x.kC x.kH
theorem ShIn.Ok.row {W : World} {x : ShIn} (h : x.Ok W) : x.Row W := h.k.row
theorem ShIn.Row.below {W w : World} {x : ShIn} (h : x.Row W) (hb : Below W.heap.size W w) : x.Row w := RowS.below h hb

/-- A live system that came in. -/
structure LvIn where
  s : SysIn
  h : ShIn
def LvIn.size (x : LvIn) : Nat := x.s.size + x.h.size
abbrev LvIn.v (x : LvIn) : Value := .agg #[.slice x.s.pa x.s.pn x.s.pc, .slice x.s.sa x.s.sn x.s.sc, .slice x.s.wa x.s.wn x.s.wc, .slice x.s.ha x.s.hn x.s.hc, .bool x.h.on, .slice x.h.ca x.h.cn x.h.cc, .slice x.h.oa x.h.ol x.h.oc, .slice x.h.ka x.h.kn x.h.kc]
structure LvIn.Row (W : World) (x : LvIn) : Prop where
  s : x.s.Row W
  h : x.h.Row W
structure LvIn.Max (x : LvIn) : Prop where
  s : x.s.Max
  h : x.h.Max
structure LvIn.Ok (W : World) (x : LvIn) : Prop where
  s : x.s.Ok W
  h : x.h.Ok W
theorem LvIn.Ok.row {W : World} {x : LvIn} (h : x.Ok W) : x.Row W := ⟨h.s.row, h.h.row⟩
theorem LvIn.Row.below {W w : World} {x : LvIn} (h : x.Row W) (hb : Below W.heap.size W w) : x.Row w := ⟨h.s.below hb, h.h.below hb⟩

set_option maxRecDepth 100000 in
set_option maxHeartbeats 1000000 in
theorem szShot_small (x : ShIn) (L : Int) (w : World) (hr : x.Row w) (h : (x.size : Int) ≤ L) (hL : L ≤ 1048576) :
    Calls Tryz.prog 55 #[shV x.on x.ca x.cn x.cc x.oa x.ol x.oc x.ka x.kn x.kc, .int .i64 L] w fun e w' => e = .returned (.int .i64 (L - (x.size : Nat))) ∧ Below w.heap.size w w' := by
  have HR : Hid (x.Row w) := hr
  have hh : x.size = x.cn + x.ol + (x.kn + sumL x.kL x.kn) := rfl
  have q1 : (x.cn : Int) ≤ L := by omega
  have q2 : (x.ol : Int) ≤ L - x.cn := by omega
  have q3 : (x.kn : Int) + (sumL x.kL x.kn : Nat) ≤ L - x.cn - x.ol := by omega
  have n1 : ¬ L - (x.cn : Int) < 0 := by omega
  have n2 : ¬ L - (x.cn : Int) - (x.ol : Int) < 0 := by omega
  have e3 : L - (x.cn : Int) - (x.ol : Int) - x.kn - (sumL x.kL x.kn : Nat) = L - (x.size : Nat) := by omega
  have n3 : ¬ L - (x.size : Int) < 0 := by omega
  have l1 : L - (x.cn : Int) ≤ 1048576 := by omega
  have l2 : L - (x.cn : Int) - (x.ol : Int) ≤ 1048576 := by omega
  have E3' : Hid (L - (x.cn : Int) - (x.ol : Int) - x.kn - (sumL x.kL x.kn : Nat) = L - (x.size : Nat)) := e3
  clear hr h hh e3
  go_enter Tryz.func55, Tryz.ntmps55
  go_wp2_with fail
  refine (szIntS_smallL _ _ _ _ _ q1 hL).mono ?_
  rintro e w1 ⟨rfl, rfl⟩
  go_wp2_with fail
  refine (szBoolS_smallL _ _ _ _ _ q2 l1).mono ?_
  rintro e w2 ⟨rfl, rfl⟩
  go_wp2_with fail
  refine (szIntSS_small _ _ _ _ x.kL _ _ _ (HR.out.below (below_allocS _ _)) q3 l2).mono ?_
  rintro e w3 ⟨rfl, rfl⟩
  rw [E3'.out]
  go_wp2
  go_ret
  exact ⟨rfl, by go_grown⟩

set_option maxRecDepth 100000 in
set_option maxHeartbeats 1000000 in
theorem szShot_great (x : ShIn) (L : Int) (w : World) (hr : x.Row w) (hm : x.Max) (h : L < (x.size : Int)) (h0 : 0 ≤ L) (hL : L ≤ 1048576) :
    Calls Tryz.prog 55 #[shV x.on x.ca x.cn x.cc x.oa x.ol x.oc x.ka x.kn x.kc, .int .i64 L] w fun e w' => e = .returned (.int .i64 (-1)) ∧ Below w.heap.size w w' := by
  have HR : Hid (x.Row w) := hr
  have HM : Hid x.Max := hm
  have hh : x.size = x.cn + x.ol + (x.kn + sumL x.kL x.kn) := rfl
  by_cases q1 : (x.cn : Int) ≤ L
  case neg =>
    have q1' : L < (x.cn : Int) := by omega
    clear hr h hh hm q1
    go_enter Tryz.func55, Tryz.ntmps55
    go_wp2_with fail
    refine (szIntS_greatL _ _ _ _ _ q1' h0 hL HM.out.c).mono ?_
    rintro e w1 ⟨rfl, rfl⟩
    go_wp2
    go_ret
    exact ⟨rfl, by go_grown⟩
  have n1 : ¬ L - (x.cn : Int) < 0 := by omega
  have l0 : 0 ≤ L - (x.cn : Int) := by omega
  have l1 : L - (x.cn : Int) ≤ 1048576 := by omega
  by_cases q2 : (x.ol : Int) ≤ L - x.cn
  case neg =>
    have q2' : L - x.cn < (x.ol : Int) := by omega
    clear hr h hh hm q2
    go_enter Tryz.func55, Tryz.ntmps55
    go_wp2_with fail
    refine (szIntS_smallL _ _ _ _ _ q1 hL).mono ?_
    rintro e w1 ⟨rfl, rfl⟩
    go_wp2_with fail
    refine (szBoolS_greatL _ _ _ _ _ q2' l0 l1 HM.out.o).mono ?_
    rintro e w2 ⟨rfl, rfl⟩
    go_wp2
    go_ret
    exact ⟨rfl, by go_grown⟩
  have n2 : ¬ L - (x.cn : Int) - (x.ol : Int) < 0 := by omega
  have l2 : L - (x.cn : Int) - (x.ol : Int) ≤ 1048576 := by omega
  have l3 : 0 ≤ L - (x.cn : Int) - (x.ol : Int) := by omega
  have q3 : L - x.cn - x.ol < (x.kn : Int) + (sumL x.kL x.kn : Nat) := by omega
  clear hr h hh hm
  go_enter Tryz.func55, Tryz.ntmps55
  go_wp2_with fail
  refine (szIntS_smallL _ _ _ _ _ q1 hL).mono ?_
  rintro e w1 ⟨rfl, rfl⟩
  go_wp2_with fail
  refine (szBoolS_smallL _ _ _ _ _ q2 l1).mono ?_
  rintro e w2 ⟨rfl, rfl⟩
  go_wp2_with fail
  refine (szIntSS_great _ _ _ _ x.kL _ _ _ (HR.out.below (below_allocS _ _)) q3 l3 l2 HM.out.k.1 HM.out.k.2).mono ?_
  rintro e w3 ⟨rfl, rfl⟩
  go_wp2
  go_ret
  exact ⟨rfl, by go_grown⟩

/-- A box of eight cells. -/
def BoxH (w : World) (b : Nat) (c0 c1 c2 c3 c4 c5 c6 c7 : Value) : Prop := w.cell? ⟨b, 0, none⟩ = some c0 ∧ w.cell? ⟨b, 1, none⟩ = some c1 ∧ w.cell? ⟨b, 2, none⟩ = some c2 ∧ w.cell? ⟨b, 3, none⟩ = some c3 ∧ w.cell? ⟨b, 4, none⟩ = some c4 ∧ w.cell? ⟨b, 5, none⟩ = some c5 ∧ w.cell? ⟨b, 6, none⟩ = some c6 ∧ w.cell? ⟨b, 7, none⟩ = some c7
section
variable {w w' : World} {b : Nat} {c0 c1 c2 c3 c4 c5 c6 c7 : Value}
theorem BoxH.blk (h : BoxH w b c0 c1 c2 c3 c4 c5 c6 c7) (hb : w'.heap[b]? = w.heap[b]?) : BoxH w' b c0 c1 c2 c3 c4 c5 c6 c7 := by
  obtain ⟨h0, h1, h2, h3, h4, h5, h6, h7⟩ := h
  have hc : ∀ i, w'.cell? ⟨b, i, none⟩ = w.cell? ⟨b, i, none⟩ := fun i => World.cell?_of_block hb
  exact ⟨(hc _).trans h0, (hc _).trans h1, (hc _).trans h2, (hc _).trans h3, (hc _).trans h4, (hc _).trans h5, (hc _).trans h6, (hc _).trans h7⟩
theorem BoxH.lt (h : BoxH w b c0 c1 c2 c3 c4 c5 c6 c7) : b < w.heap.size := World.block_lt_of_cell? w _ h.1
theorem BoxH.below (h : BoxH w b c0 c1 c2 c3 c4 c5 c6 c7) (hb : Below w.heap.size w w') : BoxH w' b c0 c1 c2 c3 c4 c5 c6 c7 := h.blk (hb.block b h.lt)
theorem BoxH.new (w : World) (c0 c1 c2 c3 c4 c5 c6 c7 : Value) (t : TypeId) : BoxH (w.alloc (.cells #[c0, c1, c2, c3, c4, c5, c6, c7] t)) w.heap.size c0 c1 c2 c3 c4 c5 c6 c7 :=
  ⟨new_cell _ _ _ 0 rfl, new_cell _ _ _ 1 rfl, new_cell _ _ _ 2 rfl, new_cell _ _ _ 3 rfl, new_cell _ _ _ 4 rfl, new_cell _ _ _ 5 rfl, new_cell _ _ _ 6 rfl, new_cell _ _ _ 7 rfl⟩
end

set_option maxRecDepth 100000 in
set_option maxHeartbeats 1000000 in
theorem szLive_small (x : LvIn) (w : World) (hr : x.Row w) (h : x.size ≤ 1048576) :
    Calls Tryz.prog 18 #[x.v, .int .i64 1048576] w fun e w' => e = .returned (.int .i64 (1048576 - (x.size : Nat))) ∧ Below w.heap.size w w' := by
  have HR : Hid (x.Row w) := hr
  have hh : x.size = x.s.size + x.h.size := rfl
  have q1 : x.s.size ≤ 1048576 := by omega
  have q2 : (x.h.size : Int) ≤ 1048576 - (x.s.size : Nat) := by omega
  have n1 : ¬ (1048576 : Int) - (x.s.size : Nat) < 0 := by omega
  have n2 : ¬ (1048576 : Int) - (x.size : Nat) < 0 := by omega
  have l2 : (1048576 : Int) - (x.s.size : Nat) ≤ 1048576 := by omega
  have E2 : Hid ((1048576 : Int) - (x.s.size : Nat) - (x.h.size : Nat) = 1048576 - (x.size : Nat)) := by
    show (1048576 : Int) - (x.s.size : Nat) - (x.h.size : Nat) = 1048576 - (x.size : Nat)
    omega
  have BA : Hid (Below w.heap.size w (w.alloc (.cells #[.slice x.s.pa x.s.pn x.s.pc, .slice x.s.sa x.s.sn x.s.sc, .slice x.s.wa x.s.wn x.s.wc, .slice x.s.ha x.s.hn x.s.hc, .bool x.h.on, .slice x.h.ca x.h.cn x.h.cc, .slice x.h.oa x.h.ol x.h.oc, .slice x.h.ka x.h.kn x.h.kc] 51)) ∧ BoxH (w.alloc (.cells #[.slice x.s.pa x.s.pn x.s.pc, .slice x.s.sa x.s.sn x.s.sc, .slice x.s.wa x.s.wn x.s.wc, .slice x.s.ha x.s.hn x.s.hc, .bool x.h.on, .slice x.h.ca x.h.cn x.h.cc, .slice x.h.oa x.h.ol x.h.oc, .slice x.h.ka x.h.kn x.h.kc] 51)) w.heap.size (.slice x.s.pa x.s.pn x.s.pc) (.slice x.s.sa x.s.sn x.s.sc) (.slice x.s.wa x.s.wn x.s.wc) (.slice x.s.ha x.s.hn x.s.hc) (.bool x.h.on) (.slice x.h.ca x.h.cn x.h.cc) (.slice x.h.oa x.h.ol x.h.oc) (.slice x.h.ka x.h.kn x.h.kc)) := ⟨below_allocS _ _, BoxH.new _ _ _ _ _ _ _ _ _ _⟩
  clear hr h hh
  go_enter Tryz.func18, Tryz.ntmps18
  go_wp2_with fail
  generalize w.alloc (.cells #[.slice x.s.pa x.s.pn x.s.pc, .slice x.s.sa x.s.sn x.s.sc, .slice x.s.wa x.s.wn x.s.wc, .slice x.s.ha x.s.hn x.s.hc, .bool x.h.on, .slice x.h.ca x.h.cn x.h.cc, .slice x.h.oa x.h.ol x.h.oc, .slice x.h.ka x.h.kn x.h.kc] 51) = wA at *
  refine (szSys_small x.s wA (HR.out.s.below BA.out.1) q1).mono ?_
  rintro e w1 ⟨rfl, b1⟩
  have B1 : Hid (Below w.heap.size w w1 ∧ BoxH w1 w.heap.size (.slice x.s.pa x.s.pn x.s.pc) (.slice x.s.sa x.s.sn x.s.sc) (.slice x.s.wa x.s.wn x.s.wc) (.slice x.s.ha x.s.hn x.s.hc) (.bool x.h.on) (.slice x.h.ca x.h.cn x.h.cc) (.slice x.h.oa x.h.ol x.h.oc) (.slice x.h.ka x.h.kn x.h.kc)) := ⟨BA.out.1.trans (b1.mono BA.out.1.size), BA.out.2.below b1⟩
  clear b1 BA
  obtain ⟨p0, p1, p2, p3, p4, p5, p6, p7⟩ := B1.out.2
  go_wp2_with fail
  clear p0 p1 p2 p3 p4 p5 p6 p7
  refine (szShot_small x.h _ w1 (HR.out.h.below B1.out.1) q2 l2).mono ?_
  rintro e w2 ⟨rfl, b2⟩
  rw [E2.out]
  have B2 : Hid (Below w.heap.size w w2) := B1.out.1.trans (b2.mono B1.out.1.size)
  clear b2 B1
  go_wp2
  go_ret
  exact ⟨rfl, B2.out⟩

set_option maxRecDepth 100000 in
set_option maxHeartbeats 1000000 in
theorem szLive_great (x : LvIn) (w : World) (hr : x.Row w) (hm : x.Max) (h : 1048576 < x.size) :
    Calls Tryz.prog 18 #[x.v, .int .i64 1048576] w fun e w' => e = .returned (.int .i64 (-1)) ∧ Below w.heap.size w w' := by
  have HR : Hid (x.Row w) := hr
  have HM : Hid x.Max := hm
  have hh : x.size = x.s.size + x.h.size := rfl
  have BA : Hid (Below w.heap.size w (w.alloc (.cells #[.slice x.s.pa x.s.pn x.s.pc, .slice x.s.sa x.s.sn x.s.sc, .slice x.s.wa x.s.wn x.s.wc, .slice x.s.ha x.s.hn x.s.hc, .bool x.h.on, .slice x.h.ca x.h.cn x.h.cc, .slice x.h.oa x.h.ol x.h.oc, .slice x.h.ka x.h.kn x.h.kc] 51)) ∧ BoxH (w.alloc (.cells #[.slice x.s.pa x.s.pn x.s.pc, .slice x.s.sa x.s.sn x.s.sc, .slice x.s.wa x.s.wn x.s.wc, .slice x.s.ha x.s.hn x.s.hc, .bool x.h.on, .slice x.h.ca x.h.cn x.h.cc, .slice x.h.oa x.h.ol x.h.oc, .slice x.h.ka x.h.kn x.h.kc] 51)) w.heap.size (.slice x.s.pa x.s.pn x.s.pc) (.slice x.s.sa x.s.sn x.s.sc) (.slice x.s.wa x.s.wn x.s.wc) (.slice x.s.ha x.s.hn x.s.hc) (.bool x.h.on) (.slice x.h.ca x.h.cn x.h.cc) (.slice x.h.oa x.h.ol x.h.oc) (.slice x.h.ka x.h.kn x.h.kc)) := ⟨below_allocS _ _, BoxH.new _ _ _ _ _ _ _ _ _ _⟩
  by_cases q1 : x.s.size ≤ 1048576
  case neg =>
    have Q1 : Hid (1048576 < x.s.size) := by show 1048576 < x.s.size; omega
    clear hr h hh hm q1
    go_enter Tryz.func18, Tryz.ntmps18
    go_wp2_with fail
    generalize w.alloc (.cells #[.slice x.s.pa x.s.pn x.s.pc, .slice x.s.sa x.s.sn x.s.sc, .slice x.s.wa x.s.wn x.s.wc, .slice x.s.ha x.s.hn x.s.hc, .bool x.h.on, .slice x.h.ca x.h.cn x.h.cc, .slice x.h.oa x.h.ol x.h.oc, .slice x.h.ka x.h.kn x.h.kc] 51) = wA at *
    refine (szSys_great x.s wA (HR.out.s.below BA.out.1) HM.out.s Q1.out).mono ?_
    rintro e w1 ⟨rfl, b1⟩
    have B1 : Hid (Below w.heap.size w w1) := BA.out.1.trans (b1.mono BA.out.1.size)
    clear b1 BA
    go_wp2
    go_ret
    exact ⟨rfl, B1.out⟩
  have q2 : (1048576 : Int) - (x.s.size : Nat) < (x.h.size : Int) := by omega
  have n1 : ¬ (1048576 : Int) - (x.s.size : Nat) < 0 := by omega
  have l1 : 0 ≤ (1048576 : Int) - (x.s.size : Nat) := by omega
  have l2 : (1048576 : Int) - (x.s.size : Nat) ≤ 1048576 := by omega
  clear hr h hh hm
  go_enter Tryz.func18, Tryz.ntmps18
  go_wp2_with fail
  generalize w.alloc (.cells #[.slice x.s.pa x.s.pn x.s.pc, .slice x.s.sa x.s.sn x.s.sc, .slice x.s.wa x.s.wn x.s.wc, .slice x.s.ha x.s.hn x.s.hc, .bool x.h.on, .slice x.h.ca x.h.cn x.h.cc, .slice x.h.oa x.h.ol x.h.oc, .slice x.h.ka x.h.kn x.h.kc] 51) = wA at *
  refine (szSys_small x.s wA (HR.out.s.below BA.out.1) q1).mono ?_
  rintro e w1 ⟨rfl, b1⟩
  have B1 : Hid (Below w.heap.size w w1 ∧ BoxH w1 w.heap.size (.slice x.s.pa x.s.pn x.s.pc) (.slice x.s.sa x.s.sn x.s.sc) (.slice x.s.wa x.s.wn x.s.wc) (.slice x.s.ha x.s.hn x.s.hc) (.bool x.h.on) (.slice x.h.ca x.h.cn x.h.cc) (.slice x.h.oa x.h.ol x.h.oc) (.slice x.h.ka x.h.kn x.h.kc)) := ⟨BA.out.1.trans (b1.mono BA.out.1.size), BA.out.2.below b1⟩
  clear b1 BA
  obtain ⟨p0, p1, p2, p3, p4, p5, p6, p7⟩ := B1.out.2
  go_wp2_with fail
  clear p0 p1 p2 p3 p4 p5 p6 p7
  refine (szShot_great x.h _ w1 (HR.out.h.below B1.out.1) HM.out.h q2 l1 l2).mono ?_
  rintro e w2 ⟨rfl, b2⟩
  have B2 : Hid (Below w.heap.size w w2) := B1.out.1.trans (b2.mono B1.out.1.size)
  clear b2 B1
  go_wp2
  go_ret
  exact ⟨rfl, B2.out⟩

end Go.Proofs.YtdfhpimdgfemjaaGreatDoor

namespace Go.Proofs.YtdfhpimdgfemjaaGreatDoor
open Go.ChangeShapes Go.WideShapes Go.ChangeAt Go.RowKit Go.Deep

set_option maxRecDepth 100000 in
set_option maxHeartbeats 2000000 in
theorem eqSys_same (x : SysIn) (l1 u1 l2 u2 : Nat) (v1 v2 : Value) (w : World) (hs : x.size ≤ 1048576) (o1 : IsSys w l1 u1 x v1) (o2 : IsSys w l2 u2 x v2) :
    Calls Tryz.prog 14 #[v1, v2] w fun e w' => e = .returned (.bool true) ∧ Below w.heap.size w w' := by
  obtain ⟨D1, D2, D3, D4, b1, vs, b3, b4, h1, h2, h3, o1⟩ := o1
  obtain ⟨E1, E2, E3, E4, c1, us, c3, c4, g1, g2, g3, o2⟩ := o2
  have HS : Hid (x.size ≤ 1048576) := hs
  obtain ⟨rfl, p1, s1, w1, i1, -, -, -, -⟩ := o1
  obtain ⟨rfl, p2, s2, w2, i2, -, -, -, -⟩ := o2
  have P1 : Hid (OutIns w D1 h1 x.pn x.pL b1 x.pH) := p1
  have P2 : Hid (OutIns w E1 g1 x.pn x.pL c1 x.pH) := p2
  have S1 : Hid (OutState w D2 h2 x.sn x.sS vs) := s1
  have S2 : Hid (OutState w E2 g2 x.sn x.sS us) := s2
  have W1 : Hid (OutItem w D3 h3 x.wn x.wL b3 x.wH) := w1
  have W2 : Hid (OutItem w E3 g3 x.wn x.wL c3 x.wH) := w2
  have I1 : Hid (OutEvent w D4 u1 x.hn x.hL b4 x.hH) := i1
  have I2 : Hid (OutEvent w E4 u2 x.hn x.hL c4 x.hH) := i2
  clear p1 p2 s1 s2 w1 w2 i1 i2 hs
  go_enter Tryz.func14, Tryz.ntmps14
  have X0 : Hid (BoxC ((w.alloc (.cells #[.slice (some ⟨D1, 0, none⟩) x.pn x.pn, .slice (some ⟨D2, 0, none⟩) x.sn x.sn, .slice (some ⟨D3, 0, none⟩) x.wn x.wn, .slice (some ⟨D4, 0, none⟩) x.hn x.hn] 34)).alloc (.cells #[.slice (some ⟨E1, 0, none⟩) x.pn x.pn, .slice (some ⟨E2, 0, none⟩) x.sn x.sn, .slice (some ⟨E3, 0, none⟩) x.wn x.wn, .slice (some ⟨E4, 0, none⟩) x.hn x.hn] 34)) w.heap.size (.slice (some ⟨D1, 0, none⟩) x.pn x.pn) (.slice (some ⟨D2, 0, none⟩) x.sn x.sn) (.slice (some ⟨D3, 0, none⟩) x.wn x.wn) (.slice (some ⟨D4, 0, none⟩) x.hn x.hn) ∧ BoxC ((w.alloc (.cells #[.slice (some ⟨D1, 0, none⟩) x.pn x.pn, .slice (some ⟨D2, 0, none⟩) x.sn x.sn, .slice (some ⟨D3, 0, none⟩) x.wn x.wn, .slice (some ⟨D4, 0, none⟩) x.hn x.hn] 34)).alloc (.cells #[.slice (some ⟨E1, 0, none⟩) x.pn x.pn, .slice (some ⟨E2, 0, none⟩) x.sn x.sn, .slice (some ⟨E3, 0, none⟩) x.wn x.wn, .slice (some ⟨E4, 0, none⟩) x.hn x.hn] 34)) (w.heap.size + 1) (.slice (some ⟨E1, 0, none⟩) x.pn x.pn) (.slice (some ⟨E2, 0, none⟩) x.sn x.sn) (.slice (some ⟨E3, 0, none⟩) x.wn x.wn) (.slice (some ⟨E4, 0, none⟩) x.hn x.hn) ∧ Below w.heap.size w ((w.alloc (.cells #[.slice (some ⟨D1, 0, none⟩) x.pn x.pn, .slice (some ⟨D2, 0, none⟩) x.sn x.sn, .slice (some ⟨D3, 0, none⟩) x.wn x.wn, .slice (some ⟨D4, 0, none⟩) x.hn x.hn] 34)).alloc (.cells #[.slice (some ⟨E1, 0, none⟩) x.pn x.pn, .slice (some ⟨E2, 0, none⟩) x.sn x.sn, .slice (some ⟨E3, 0, none⟩) x.wn x.wn, .slice (some ⟨E4, 0, none⟩) x.hn x.hn] 34)) ∧ w.heap.size + 2 ≤ ((w.alloc (.cells #[.slice (some ⟨D1, 0, none⟩) x.pn x.pn, .slice (some ⟨D2, 0, none⟩) x.sn x.sn, .slice (some ⟨D3, 0, none⟩) x.wn x.wn, .slice (some ⟨D4, 0, none⟩) x.hn x.hn] 34)).alloc (.cells #[.slice (some ⟨E1, 0, none⟩) x.pn x.pn, .slice (some ⟨E2, 0, none⟩) x.sn x.sn, .slice (some ⟨E3, 0, none⟩) x.wn x.wn, .slice (some ⟨E4, 0, none⟩) x.hn x.hn] 34)).heap.size) := by
    have n1 := BoxC.new w (.slice (some ⟨D1, 0, none⟩) x.pn x.pn) (.slice (some ⟨D2, 0, none⟩) x.sn x.sn) (.slice (some ⟨D3, 0, none⟩) x.wn x.wn) (.slice (some ⟨D4, 0, none⟩) x.hn x.hn) 34
    have n2 := BoxC.new (w.alloc (.cells #[.slice (some ⟨D1, 0, none⟩) x.pn x.pn, .slice (some ⟨D2, 0, none⟩) x.sn x.sn, .slice (some ⟨D3, 0, none⟩) x.wn x.wn, .slice (some ⟨D4, 0, none⟩) x.hn x.hn] 34)) (.slice (some ⟨E1, 0, none⟩) x.pn x.pn) (.slice (some ⟨E2, 0, none⟩) x.sn x.sn) (.slice (some ⟨E3, 0, none⟩) x.wn x.wn) (.slice (some ⟨E4, 0, none⟩) x.hn x.hn) 34
    simp only [World.size_alloc] at n2
    exact ⟨n1.below (below_allocS _ _), n2, ((Below.refl _ _).alloc (Nat.le_refl _) _).alloc (by simp) _, by simp⟩
  go_wp2_with fail
  generalize (w.alloc (.cells #[.slice (some ⟨D1, 0, none⟩) x.pn x.pn, .slice (some ⟨D2, 0, none⟩) x.sn x.sn, .slice (some ⟨D3, 0, none⟩) x.wn x.wn, .slice (some ⟨D4, 0, none⟩) x.hn x.hn] 34)).alloc (.cells #[.slice (some ⟨E1, 0, none⟩) x.pn x.pn, .slice (some ⟨E2, 0, none⟩) x.sn x.sn, .slice (some ⟨E3, 0, none⟩) x.wn x.wn, .slice (some ⟨E4, 0, none⟩) x.hn x.hn] 34) = wA at *
  refine (eqInsSS_same D1 h1 E1 g1 x.pn _ _ x.pL b1 c1 x.pH _ (SysIn.lens HS.out).1.1 (sum_le (SysIn.lens HS.out).1.2) (P1.out.below X0.out.2.2.1 P1.out.le) (P2.out.below X0.out.2.2.1 P2.out.le)).mono ?_
  rintro e w1 ⟨rfl, b1'⟩
  have X1 : Hid (BoxC w1 w.heap.size (.slice (some ⟨D1, 0, none⟩) x.pn x.pn) (.slice (some ⟨D2, 0, none⟩) x.sn x.sn) (.slice (some ⟨D3, 0, none⟩) x.wn x.wn) (.slice (some ⟨D4, 0, none⟩) x.hn x.hn) ∧ BoxC w1 (w.heap.size + 1) (.slice (some ⟨E1, 0, none⟩) x.pn x.pn) (.slice (some ⟨E2, 0, none⟩) x.sn x.sn) (.slice (some ⟨E3, 0, none⟩) x.wn x.wn) (.slice (some ⟨E4, 0, none⟩) x.hn x.hn) ∧ Below w.heap.size w w1 ∧ w.heap.size + 2 ≤ w1.heap.size) := ⟨X0.out.1.below b1', X0.out.2.1.below b1', X0.out.2.2.1.trans (b1'.mono X0.out.2.2.1.size), Nat.le_trans X0.out.2.2.2 b1'.size⟩
  have BE1 : Hid (Below w.heap.size w w1) := X1.out.2.2.1
  clear X0 b1'
  obtain ⟨⟨p0, p1, p2, p3⟩, ⟨q0, q1, q2, q3⟩, -, le⟩ := X1.out
  go_wp2_with fail
  clear p0 p1 p2 p3 q0 q1 q2 q3 le
  refine (eqStateS_same D2 h2 E2 g2 x.sn _ _ x.sS vs us _ (SysIn.lens HS.out).2.1.1 (SysIn.lensS HS.out) (S1.out.below BE1.out S1.out.le) (S2.out.below BE1.out S2.out.le)).mono ?_
  rintro e w2 ⟨rfl, b2'⟩
  have X2 : Hid (BoxC w2 w.heap.size (.slice (some ⟨D1, 0, none⟩) x.pn x.pn) (.slice (some ⟨D2, 0, none⟩) x.sn x.sn) (.slice (some ⟨D3, 0, none⟩) x.wn x.wn) (.slice (some ⟨D4, 0, none⟩) x.hn x.hn) ∧ BoxC w2 (w.heap.size + 1) (.slice (some ⟨E1, 0, none⟩) x.pn x.pn) (.slice (some ⟨E2, 0, none⟩) x.sn x.sn) (.slice (some ⟨E3, 0, none⟩) x.wn x.wn) (.slice (some ⟨E4, 0, none⟩) x.hn x.hn) ∧ Below w.heap.size w w2 ∧ w.heap.size + 2 ≤ w2.heap.size) := ⟨X1.out.1.below b2', X1.out.2.1.below b2', X1.out.2.2.1.trans (b2'.mono X1.out.2.2.1.size), Nat.le_trans X1.out.2.2.2 b2'.size⟩
  have BE2 : Hid (Below w.heap.size w w2) := X2.out.2.2.1
  clear X1 b2' BE1
  obtain ⟨⟨p0, p1, p2, p3⟩, ⟨q0, q1, q2, q3⟩, -, le⟩ := X2.out
  go_wp2_with fail
  clear p0 p1 p2 p3 q0 q1 q2 q3 le
  refine (eqItemSS_same D3 h3 E3 g3 x.wn _ _ x.wL b3 c3 x.wH _ (SysIn.lens HS.out).2.2.1.1 (sum_le (SysIn.lens HS.out).2.2.1.2) (W1.out.below BE2.out W1.out.le) (W2.out.below BE2.out W2.out.le)).mono ?_
  rintro e w3 ⟨rfl, b3'⟩
  have X3 : Hid (BoxC w3 w.heap.size (.slice (some ⟨D1, 0, none⟩) x.pn x.pn) (.slice (some ⟨D2, 0, none⟩) x.sn x.sn) (.slice (some ⟨D3, 0, none⟩) x.wn x.wn) (.slice (some ⟨D4, 0, none⟩) x.hn x.hn) ∧ BoxC w3 (w.heap.size + 1) (.slice (some ⟨E1, 0, none⟩) x.pn x.pn) (.slice (some ⟨E2, 0, none⟩) x.sn x.sn) (.slice (some ⟨E3, 0, none⟩) x.wn x.wn) (.slice (some ⟨E4, 0, none⟩) x.hn x.hn) ∧ Below w.heap.size w w3 ∧ w.heap.size + 2 ≤ w3.heap.size) := ⟨X2.out.1.below b3', X2.out.2.1.below b3', X2.out.2.2.1.trans (b3'.mono X2.out.2.2.1.size), Nat.le_trans X2.out.2.2.2 b3'.size⟩
  have BE3 : Hid (Below w.heap.size w w3) := X3.out.2.2.1
  clear X2 b3' BE2
  obtain ⟨⟨p0, p1, p2, p3⟩, ⟨q0, q1, q2, q3⟩, -, le⟩ := X3.out
  go_wp2_with fail
  clear p0 p1 p2 p3 q0 q1 q2 q3 le
  refine (eqEventSS_same D4 u1 E4 u2 x.hn _ _ x.hL b4 c4 x.hH _ (SysIn.lens HS.out).2.2.2.1 (sum_le (SysIn.lens HS.out).2.2.2.2) (I1.out.below BE3.out I1.out.le) (I2.out.below BE3.out I2.out.le)).mono ?_
  rintro e w4 ⟨rfl, b4'⟩
  have X4 : Hid (BoxC w4 w.heap.size (.slice (some ⟨D1, 0, none⟩) x.pn x.pn) (.slice (some ⟨D2, 0, none⟩) x.sn x.sn) (.slice (some ⟨D3, 0, none⟩) x.wn x.wn) (.slice (some ⟨D4, 0, none⟩) x.hn x.hn) ∧ BoxC w4 (w.heap.size + 1) (.slice (some ⟨E1, 0, none⟩) x.pn x.pn) (.slice (some ⟨E2, 0, none⟩) x.sn x.sn) (.slice (some ⟨E3, 0, none⟩) x.wn x.wn) (.slice (some ⟨E4, 0, none⟩) x.hn x.hn) ∧ Below w.heap.size w w4 ∧ w.heap.size + 2 ≤ w4.heap.size) := ⟨X3.out.1.below b4', X3.out.2.1.below b4', X3.out.2.2.1.trans (b4'.mono X3.out.2.2.1.size), Nat.le_trans X3.out.2.2.2 b4'.size⟩
  have BE4 : Hid (Below w.heap.size w w4) := X4.out.2.2.1
  clear X3 b4' BE3
  go_wp2
  go_ret
  exact ⟨rfl, BE4.out⟩

/-- Between the four parts of marking a system. -/
structure MkY (w wx : World) (lo hi D1 D2 D3 D4 : Nat) (x : SysIn) : Prop where
  tch : Touch (fun b => lo ≤ b ∧ b < hi) w wx
  bx : BoxC wx w.heap.size (.slice (some ⟨D1, 0, none⟩) x.pn x.pn) (.slice (some ⟨D2, 0, none⟩) x.sn x.sn) (.slice (some ⟨D3, 0, none⟩) x.wn x.wn) (.slice (some ⟨D4, 0, none⟩) x.hn x.hn)
  lt : w.heap.size < wx.heap.size
theorem MkY.step {w wx w' : World} {lo hi D1 D2 D3 D4 : Nat} {x : SysIn} (h : MkY w wx lo hi D1 D2 D3 D4 x) (hh : hi ≤ w.heap.size) {P : Nat → Prop} (ht : Touch P wx w') (hp : ∀ b, P b → lo ≤ b ∧ b < hi) : MkY w w' lo hi D1 D2 D3 D4 x := by
  refine ⟨h.tch.trans (ht.mono hp), ?_, Nat.lt_of_lt_of_le h.lt ht.size⟩
  obtain ⟨h0, h1, h2, h3⟩ := h.bx
  have hc : ∀ i, w'.cell? ⟨w.heap.size, i, none⟩ = wx.cell? ⟨w.heap.size, i, none⟩ := fun i => ht.cell h.lt (fun e => by have := hp _ e; omega) i
  exact ⟨(hc _).trans h0, (hc _).trans h1, (hc _).trans h2, (hc _).trans h3⟩

set_option maxRecDepth 100000 in
set_option maxHeartbeats 2000000 in
theorem markSys_any (x : SysIn) (lo hi : Nat) (v : Value) (w : World) (hs : x.size ≤ 1048576) (o : IsSys w lo hi x v) :
    Calls Tryz.prog 15 #[v, .int .i64 1] w fun e w' => (∃ z : Int, e = .returned (.int .i64 z) ∧ ¬ z < 0) ∧ Touch (fun b => lo ≤ b ∧ b < hi) w w' := by
  obtain ⟨D1, D2, D3, D4, b1, vs, b3, b4, h1, h2, h3, o⟩ := o
  have HS : Hid (x.size ≤ 1048576) := hs
  obtain ⟨q1, q2, q3, q4, -⟩ := o.hi
  have OO : Hid (OutSys w lo hi x v D1 D2 D3 D4 b1 vs b3 b4 h1 h2 h3) := o
  have QQ : Hid (h1 ≤ hi ∧ h2 ≤ hi ∧ h3 ≤ hi ∧ hi ≤ w.heap.size) := ⟨q1, q2, q3, q4⟩
  obtain ⟨rfl, p1, s1, w1, i1, y1, y2, y3, y4⟩ := o
  have Y : Hid (lo ≤ D1 ∧ h1 ≤ D2 ∧ h2 ≤ D3 ∧ h3 ≤ D4 ∧ D1 < h1 ∧ D2 < h2 ∧ D3 < h3 ∧ D4 < hi) := ⟨y1, y2, y3, y4, p1.lt, s1.lt, w1.lt, i1.lt⟩
  have P1 : Hid (OutIns w D1 h1 x.pn x.pL b1 x.pH) := p1
  have S1 : Hid (OutState w D2 h2 x.sn x.sS vs) := s1
  have W1 : Hid (OutItem w D3 h3 x.wn x.wL b3 x.wH) := w1
  have I1 : Hid (OutEvent w D4 hi x.hn x.hL b4 x.hH) := i1
  clear p1 s1 w1 i1 y1 y2 y3 y4 q1 q2 q3 q4 hs OO
  have X0 : Hid (MkY w (w.alloc (.cells #[.slice (some ⟨D1, 0, none⟩) x.pn x.pn, .slice (some ⟨D2, 0, none⟩) x.sn x.sn, .slice (some ⟨D3, 0, none⟩) x.wn x.wn, .slice (some ⟨D4, 0, none⟩) x.hn x.hn] 34)) lo hi D1 D2 D3 D4 x) := ⟨Touch.of_below (below_allocS _ _), BoxC.new w (.slice (some ⟨D1, 0, none⟩) x.pn x.pn) (.slice (some ⟨D2, 0, none⟩) x.sn x.sn) (.slice (some ⟨D3, 0, none⟩) x.wn x.wn) (.slice (some ⟨D4, 0, none⟩) x.hn x.hn) 34, by simp⟩
  have BA : Hid (Below w.heap.size w (w.alloc (.cells #[.slice (some ⟨D1, 0, none⟩) x.pn x.pn, .slice (some ⟨D2, 0, none⟩) x.sn x.sn, .slice (some ⟨D3, 0, none⟩) x.wn x.wn, .slice (some ⟨D4, 0, none⟩) x.hn x.hn] 34))) := below_allocS _ _
  go_enter Tryz.func15, Tryz.ntmps15
  go_wp2_with fail
  generalize w.alloc (.cells #[.slice (some ⟨D1, 0, none⟩) x.pn x.pn, .slice (some ⟨D2, 0, none⟩) x.sn x.sn, .slice (some ⟨D3, 0, none⟩) x.wn x.wn, .slice (some ⟨D4, 0, none⟩) x.hn x.hn] 34) = wA at *
  refine (markInsSS_any D1 h1 x.pn x.pn x.pL b1 x.pH 1 wA (SysIn.lens HS.out).1.1 (SysIn.lens HS.out).1.2 (by omega) (by omega) (P1.out.below BA.out (by have := QQ.out; omega))).mono ?_
  rintro e w1 ⟨rfl, t1⟩
  have X1 : Hid (MkY w w1 lo hi D1 D2 D3 D4 x) := X0.out.step (by have := QQ.out; omega) t1 fun b hb => by have := QQ.out; have := Y.out; omega
  have KS : Hid (OutState w1 D2 h2 x.sn x.sS vs) := (S1.out.below BA.out (by have := QQ.out; omega)).keep t1.size fun k hk1 hk2 => t1.block k (by have := BA.out.size; have := QQ.out; omega) (fun e => by have := Y.out; omega)
  have KW : Hid (OutItem w1 D3 h3 x.wn x.wL b3 x.wH) := (W1.out.below BA.out (by have := QQ.out; omega)).keep t1.size fun k hk1 hk2 => t1.block k (by have := BA.out.size; have := QQ.out; omega) (fun e => by have := Y.out; omega)
  have KI : Hid (OutEvent w1 D4 hi x.hn x.hL b4 x.hH) := (I1.out.below BA.out (by have := QQ.out; omega)).keep t1.size fun k hk1 hk2 => t1.block k (by have := BA.out.size; have := QQ.out; omega) (fun e => by have := Y.out; omega)
  have z1 : 0 ≤ (1 : Int) + 5 * (sumL x.pL x.pn : Nat) ∧ (1 : Int) + 5 * (sumL x.pL x.pn : Nat) ≤ 6000000 := by have := (SysIn.lens HS.out).1.2; omega
  generalize (1 : Int) + 5 * (sumL x.pL x.pn : Nat) = Z1 at *
  have HZ1 : Hid (0 ≤ Z1 ∧ Z1 ≤ 6000000) := z1
  clear t1 X0 P1 S1 W1 I1 BA z1
  obtain ⟨-, ⟨p0, p1, p2, p3⟩, lt⟩ := X1.out
  go_wp2_with fail
  clear p0 p1 p2 p3 lt
  refine (markStateS_any D2 h2 x.sn x.sn x.sS vs Z1 w1 (SysIn.lens HS.out).2.1.1 (SysIn.lens HS.out).2.1.2 HZ1.out.1 (by have := HZ1.out; omega) KS.out).mono ?_
  rintro e w2 ⟨rfl, t2⟩
  have X2 : Hid (MkY w w2 lo hi D1 D2 D3 D4 x) := X1.out.step (by have := QQ.out; omega) t2 fun b hb => by have := QQ.out; have := Y.out; omega
  have KW2 : Hid (OutItem w2 D3 h3 x.wn x.wL b3 x.wH) := KW.out.keep t2.size fun k hk1 hk2 => t2.block k (Nat.lt_of_lt_of_le hk2 KW.out.le) (fun e => by have := Y.out; omega)
  have KI2 : Hid (OutEvent w2 D4 hi x.hn x.hL b4 x.hH) := KI.out.keep t2.size fun k hk1 hk2 => t2.block k (Nat.lt_of_lt_of_le hk2 KI.out.le) (fun e => by have := Y.out; omega)
  have z2 : 0 ≤ Z1 + (2 * x.sn + sumL (lenS x.sS) x.sn : Nat) ∧ Z1 + (2 * x.sn + sumL (lenS x.sS) x.sn : Nat) ≤ 12000000 := by have := (SysIn.lens HS.out).2.1; have := HZ1.out; omega
  generalize Z1 + (2 * x.sn + sumL (lenS x.sS) x.sn : Nat) = Z2 at *
  have HZ2 : Hid (0 ≤ Z2 ∧ Z2 ≤ 12000000) := z2
  clear t2 X1 KS KW KI z2 HZ1
  obtain ⟨-, ⟨p0, p1, p2, p3⟩, lt⟩ := X2.out
  go_wp2_with fail
  clear p0 p1 p2 p3 lt
  refine (markItemSS_any D3 h3 x.wn x.wn x.wL b3 x.wH Z2 w2 (SysIn.lens HS.out).2.2.1.1 (SysIn.lens HS.out).2.2.1.2 HZ2.out.1 (by have := HZ2.out; omega) KW2.out).mono ?_
  rintro e w3 ⟨rfl, t3⟩
  have X3 : Hid (MkY w w3 lo hi D1 D2 D3 D4 x) := X2.out.step (by have := QQ.out; omega) t3 fun b hb => by have := QQ.out; have := Y.out; omega
  have KI3 : Hid (OutEvent w3 D4 hi x.hn x.hL b4 x.hH) := KI2.out.keep t3.size fun k hk1 hk2 => t3.block k (Nat.lt_of_lt_of_le hk2 KI2.out.le) (fun e => by have := Y.out; omega)
  have z3 : 0 ≤ Z2 + 2 * (sumL x.wL x.wn : Nat) ∧ Z2 + 2 * (sumL x.wL x.wn : Nat) ≤ 18000000 := by have := (SysIn.lens HS.out).2.2.1; have := HZ2.out; omega
  generalize Z2 + 2 * (sumL x.wL x.wn : Nat) = Z3 at *
  have HZ3 : Hid (0 ≤ Z3 ∧ Z3 ≤ 18000000) := z3
  clear t3 X2 KW2 KI2 z3 HZ2
  obtain ⟨-, ⟨p0, p1, p2, p3⟩, lt⟩ := X3.out
  go_wp2_with fail
  clear p0 p1 p2 p3 lt
  refine (markEventSS_any D4 hi x.hn x.hn x.hL b4 x.hH Z3 w3 (SysIn.lens HS.out).2.2.2.1 (SysIn.lens HS.out).2.2.2.2 HZ3.out.1 (by have := HZ3.out; omega) KI3.out).mono ?_
  rintro e w4 ⟨rfl, t4⟩
  have X4 : Hid (MkY w w4 lo hi D1 D2 D3 D4 x) := X3.out.step (by have := QQ.out; omega) t4 fun b hb => by have := QQ.out; have := Y.out; omega
  have HZ4 : Hid (¬ Z3 + 3 * (sumL x.hL x.hn : Nat) < 0) := by
    show ¬ Z3 + 3 * (sumL x.hL x.hn : Nat) < 0
    have := HZ3.out
    omega
  generalize Z3 + 3 * (sumL x.hL x.hn : Nat) = Z4 at *
  clear t4 X3 KI3 HZ3
  go_wp2
  go_ret
  exact ⟨⟨_, rfl, HZ4.out⟩, X4.out.tch⟩

set_option maxRecDepth 100000 in
/-- A system that came in. -/
theorem open_sysE {H : Type} {enc : TypeId × Value → H} {w : World} {base b0 : Nat} {held : Bool} {rc : Reach} {v : Value} {d : DataW H} {p : List MemPlace}
    (hv : Value.okWide Tryz.prog w rc b0 27 v) (h : DataW.Trod enc Tryz.prog w base (fun _ => true) held 27 v d p) :
    ∃ x : SysIn, v = sysV x.pa x.pn x.pc x.sa x.sn x.sc x.wa x.wn x.wc x.ha x.hn x.hc ∧ x.Row w ∧ x.Max ∧ (x.size ≤ 1048576 → ∃ y : SysIn, v = sysV y.pa y.pn y.pc y.sa y.sn y.sc y.wa y.wn y.wc y.ha y.hn y.hc ∧ y.Ok w ∧ y.size = x.size) := by
  obtain ⟨cs, rfl, hsz⟩ := okWide_struct Tryz.underlying27 hv
  have h4 : Tryz.prog.cellsOf 27 = 4 := by kernel_rfl
  obtain ⟨c0, c1, c2, c3, rfl⟩ := array4 (hsz.trans h4)
  obtain ⟨fuel, hf⟩ := h
  have hf' : DataW.trod enc Tryz.prog w base (fun _ => true) held fuel 27 [c0, c1, c2, c3] = some (d, p) := by simpa [Value.cells] using hf
  obtain ⟨xs, m, -, -, -, hl, hx⟩ := DataW.trod_struct Tryz.underlying27 hf'
  have hl : xs.length = 4 := hl
  have k0 : Tryz.prog.cellsOf 22 = 1 := by kernel_rfl
  have k1 : Tryz.prog.cellsOf 23 = 1 := by kernel_rfl
  have k2 : Tryz.prog.cellsOf 24 = 1 := by kernel_rfl
  have k3 : Tryz.prog.cellsOf 25 = 1 := by kernel_rfl
  have q0 : DataW.trod enc Tryz.prog w base (fun _ => true) held m 22 [c0] = xs[0]? := by simpa [k0] using hx 0 _ rfl
  have q1 : DataW.trod enc Tryz.prog w base (fun _ => true) held m 23 [c1] = xs[1]? := by simpa [k1] using hx 1 _ rfl
  have q2 : DataW.trod enc Tryz.prog w base (fun _ => true) held m 24 [c2] = xs[2]? := by simpa [k2] using hx 2 _ rfl
  have q3 : DataW.trod enc Tryz.prog w base (fun _ => true) held m 25 [c3] = xs[3]? := by simpa [k3] using hx 3 _ rfl
  rw [List.getElem?_eq_getElem (by omega)] at q0 q1 q2 q3
  have sl : ∀ {t el : TypeId} {c : Value} {y : DataW H × List MemPlace}, Tryz.prog.underlying t = some (.slice el) → DataW.trod enc Tryz.prog w base (fun _ => true) held m t [c] = some y → ∃ a l k, c = .slice a l k := by
    intro t el c y hu hy
    rcases Go.Deep.open_slice hu hy with ⟨hcs, _⟩ | ⟨a, len', cap', m, n, D, Pl, hcs, _⟩
    · simp at hcs
      exact ⟨_, _, _, hcs⟩
    · simp at hcs
      exact ⟨_, _, _, hcs⟩
  obtain ⟨pa, pn, pc, rfl⟩ := sl Tryz.underlying22 q0
  obtain ⟨sa, sn, sc, rfl⟩ := sl Tryz.underlying23 q1
  obtain ⟨wa, wn, wc, rfl⟩ := sl Tryz.underlying24 q2
  obtain ⟨ha, hn, hc, rfl⟩ := sl Tryz.underlying25 q3
  obtain ⟨m0, pA, pL, pC, r0, x0, g0⟩ := open_InsSS (d := (xs[0]'(by omega)).1) (p := (xs[0]'(by omega)).2) ⟨m, by simpa [Value.cells] using q0⟩
  obtain ⟨m1, sQ, r1, x1⟩ := open_StateS (d := (xs[1]'(by omega)).1) (p := (xs[1]'(by omega)).2) ⟨m, by simpa [Value.cells] using q1⟩
  obtain ⟨m2, wA, wL, wC, r2, x2, g2⟩ := open_ItemSS (d := (xs[2]'(by omega)).1) (p := (xs[2]'(by omega)).2) ⟨m, by simpa [Value.cells] using q2⟩
  obtain ⟨m3, hA, hL, hC, r3, x3, g3⟩ := open_EventSS (d := (xs[3]'(by omega)).1) (p := (xs[3]'(by omega)).2) ⟨m, by simpa [Value.cells] using q3⟩
  refine ⟨⟨pa, pn, pc, pA, pL, pC, fun _ _ => ⟨0, 0, 0, 0, 0⟩, sa, sn, sc, sQ, wa, wn, wc, wA, wL, wC, fun _ _ => ⟨false, 0⟩, ha, hn, hc, hA, hL, hC, fun _ _ => ⟨0, 0, 0⟩⟩, rfl, ⟨r0, r1, r2, r3⟩, ⟨⟨m0, x0⟩, ⟨m1, x1⟩, ⟨m2, x2⟩, ⟨m3, x3⟩⟩, fun hs => ?_⟩
  have hl := SysIn.lens hs
  obtain ⟨pH, a0⟩ := g0 (sum_le hl.1.2)
  obtain ⟨wH, a2⟩ := g2 (sum_le hl.2.2.1.2)
  obtain ⟨hH, a3⟩ := g3 (sum_le hl.2.2.2.2)
  exact ⟨⟨pa, pn, pc, pA, pL, pC, pH, sa, sn, sc, sQ, wa, wn, wc, wA, wL, wC, wH, ha, hn, hc, hA, hL, hC, hH⟩, rfl, ⟨a0, r1, a2, a3⟩, rfl⟩
set_option maxRecDepth 100000 in
theorem open_sys {H : Type} {enc : TypeId × Value → H} {w : World} {base b0 : Nat} {held : Bool} {rc : Reach} {v : Value} {d : DataW H} {p : List MemPlace}
    (hv : Value.okWide Tryz.prog w rc b0 27 v) (h : DataW.Trod enc Tryz.prog w base (fun _ => true) held 27 v d p) :
    ∃ x : SysIn, v = sysV x.pa x.pn x.pc x.sa x.sn x.sc x.wa x.wn x.wc x.ha x.hn x.hc ∧ x.Row w ∧ x.Max ∧ (x.size ≤ 1048576 → ∃ y : SysIn, v = sysV y.pa y.pn y.pc y.sa y.sn y.sc y.wa y.wn y.wc y.ha y.hn y.hc ∧ y.Ok w ∧ y.size ≤ 1048576) := by
  obtain ⟨x, e, hr, hm, hy⟩ := open_sysE hv h
  refine ⟨x, e, hr, hm, fun hs => ?_⟩
  obtain ⟨y, ey, ho, hz⟩ := hy hs
  exact ⟨y, ey, ho, hz ▸ hs⟩

end Go.Proofs.YtdfhpimdgfemjaaGreatDoor

namespace Go.Proofs.YtdfhpimdgfemjaaGreatDoor
open Go.ChangeShapes Go.WideShapes Go.ChangeAt Go.RowKit Go.Deep

set_option maxRecDepth 100000 in
set_option maxHeartbeats 2000000 in
theorem markSys_le (x : SysIn) (lo hi : Nat) (v : Value) (w : World) (hs : x.size ≤ 1048576) (o : IsSys w lo hi x v) :
    Calls Tryz.prog 15 #[v, .int .i64 1] w fun e w' => (∃ z : Int, e = .returned (.int .i64 z) ∧ ¬ z < 0 ∧ z ≤ 30000000) ∧ Touch (fun b => lo ≤ b ∧ b < hi) w w' := by
  obtain ⟨D1, D2, D3, D4, b1, vs, b3, b4, h1, h2, h3, o⟩ := o
  have HS : Hid (x.size ≤ 1048576) := hs
  obtain ⟨q1, q2, q3, q4, -⟩ := o.hi
  have OO : Hid (OutSys w lo hi x v D1 D2 D3 D4 b1 vs b3 b4 h1 h2 h3) := o
  have QQ : Hid (h1 ≤ hi ∧ h2 ≤ hi ∧ h3 ≤ hi ∧ hi ≤ w.heap.size) := ⟨q1, q2, q3, q4⟩
  obtain ⟨rfl, p1, s1, w1, i1, y1, y2, y3, y4⟩ := o
  have Y : Hid (lo ≤ D1 ∧ h1 ≤ D2 ∧ h2 ≤ D3 ∧ h3 ≤ D4 ∧ D1 < h1 ∧ D2 < h2 ∧ D3 < h3 ∧ D4 < hi) := ⟨y1, y2, y3, y4, p1.lt, s1.lt, w1.lt, i1.lt⟩
  have P1 : Hid (OutIns w D1 h1 x.pn x.pL b1 x.pH) := p1
  have S1 : Hid (OutState w D2 h2 x.sn x.sS vs) := s1
  have W1 : Hid (OutItem w D3 h3 x.wn x.wL b3 x.wH) := w1
  have I1 : Hid (OutEvent w D4 hi x.hn x.hL b4 x.hH) := i1
  clear p1 s1 w1 i1 y1 y2 y3 y4 q1 q2 q3 q4 hs OO
  have X0 : Hid (MkY w (w.alloc (.cells #[.slice (some ⟨D1, 0, none⟩) x.pn x.pn, .slice (some ⟨D2, 0, none⟩) x.sn x.sn, .slice (some ⟨D3, 0, none⟩) x.wn x.wn, .slice (some ⟨D4, 0, none⟩) x.hn x.hn] 34)) lo hi D1 D2 D3 D4 x) := ⟨Touch.of_below (below_allocS _ _), BoxC.new w (.slice (some ⟨D1, 0, none⟩) x.pn x.pn) (.slice (some ⟨D2, 0, none⟩) x.sn x.sn) (.slice (some ⟨D3, 0, none⟩) x.wn x.wn) (.slice (some ⟨D4, 0, none⟩) x.hn x.hn) 34, by simp⟩
  have BA : Hid (Below w.heap.size w (w.alloc (.cells #[.slice (some ⟨D1, 0, none⟩) x.pn x.pn, .slice (some ⟨D2, 0, none⟩) x.sn x.sn, .slice (some ⟨D3, 0, none⟩) x.wn x.wn, .slice (some ⟨D4, 0, none⟩) x.hn x.hn] 34))) := below_allocS _ _
  go_enter Tryz.func15, Tryz.ntmps15
  go_wp2_with fail
  generalize w.alloc (.cells #[.slice (some ⟨D1, 0, none⟩) x.pn x.pn, .slice (some ⟨D2, 0, none⟩) x.sn x.sn, .slice (some ⟨D3, 0, none⟩) x.wn x.wn, .slice (some ⟨D4, 0, none⟩) x.hn x.hn] 34) = wA at *
  refine (markInsSS_any D1 h1 x.pn x.pn x.pL b1 x.pH 1 wA (SysIn.lens HS.out).1.1 (SysIn.lens HS.out).1.2 (by omega) (by omega) (P1.out.below BA.out (by have := QQ.out; omega))).mono ?_
  rintro e w1 ⟨rfl, t1⟩
  have X1 : Hid (MkY w w1 lo hi D1 D2 D3 D4 x) := X0.out.step (by have := QQ.out; omega) t1 fun b hb => by have := QQ.out; have := Y.out; omega
  have KS : Hid (OutState w1 D2 h2 x.sn x.sS vs) := (S1.out.below BA.out (by have := QQ.out; omega)).keep t1.size fun k hk1 hk2 => t1.block k (by have := BA.out.size; have := QQ.out; omega) (fun e => by have := Y.out; omega)
  have KW : Hid (OutItem w1 D3 h3 x.wn x.wL b3 x.wH) := (W1.out.below BA.out (by have := QQ.out; omega)).keep t1.size fun k hk1 hk2 => t1.block k (by have := BA.out.size; have := QQ.out; omega) (fun e => by have := Y.out; omega)
  have KI : Hid (OutEvent w1 D4 hi x.hn x.hL b4 x.hH) := (I1.out.below BA.out (by have := QQ.out; omega)).keep t1.size fun k hk1 hk2 => t1.block k (by have := BA.out.size; have := QQ.out; omega) (fun e => by have := Y.out; omega)
  have z1 : 0 ≤ (1 : Int) + 5 * (sumL x.pL x.pn : Nat) ∧ (1 : Int) + 5 * (sumL x.pL x.pn : Nat) ≤ 6000000 := by have := (SysIn.lens HS.out).1.2; omega
  generalize (1 : Int) + 5 * (sumL x.pL x.pn : Nat) = Z1 at *
  have HZ1 : Hid (0 ≤ Z1 ∧ Z1 ≤ 6000000) := z1
  clear t1 X0 P1 S1 W1 I1 BA z1
  obtain ⟨-, ⟨p0, p1, p2, p3⟩, lt⟩ := X1.out
  go_wp2_with fail
  clear p0 p1 p2 p3 lt
  refine (markStateS_any D2 h2 x.sn x.sn x.sS vs Z1 w1 (SysIn.lens HS.out).2.1.1 (SysIn.lens HS.out).2.1.2 HZ1.out.1 (by have := HZ1.out; omega) KS.out).mono ?_
  rintro e w2 ⟨rfl, t2⟩
  have X2 : Hid (MkY w w2 lo hi D1 D2 D3 D4 x) := X1.out.step (by have := QQ.out; omega) t2 fun b hb => by have := QQ.out; have := Y.out; omega
  have KW2 : Hid (OutItem w2 D3 h3 x.wn x.wL b3 x.wH) := KW.out.keep t2.size fun k hk1 hk2 => t2.block k (Nat.lt_of_lt_of_le hk2 KW.out.le) (fun e => by have := Y.out; omega)
  have KI2 : Hid (OutEvent w2 D4 hi x.hn x.hL b4 x.hH) := KI.out.keep t2.size fun k hk1 hk2 => t2.block k (Nat.lt_of_lt_of_le hk2 KI.out.le) (fun e => by have := Y.out; omega)
  have z2 : 0 ≤ Z1 + (2 * x.sn + sumL (lenS x.sS) x.sn : Nat) ∧ Z1 + (2 * x.sn + sumL (lenS x.sS) x.sn : Nat) ≤ 12000000 := by have := (SysIn.lens HS.out).2.1; have := HZ1.out; omega
  generalize Z1 + (2 * x.sn + sumL (lenS x.sS) x.sn : Nat) = Z2 at *
  have HZ2 : Hid (0 ≤ Z2 ∧ Z2 ≤ 12000000) := z2
  clear t2 X1 KS KW KI z2 HZ1
  obtain ⟨-, ⟨p0, p1, p2, p3⟩, lt⟩ := X2.out
  go_wp2_with fail
  clear p0 p1 p2 p3 lt
  refine (markItemSS_any D3 h3 x.wn x.wn x.wL b3 x.wH Z2 w2 (SysIn.lens HS.out).2.2.1.1 (SysIn.lens HS.out).2.2.1.2 HZ2.out.1 (by have := HZ2.out; omega) KW2.out).mono ?_
  rintro e w3 ⟨rfl, t3⟩
  have X3 : Hid (MkY w w3 lo hi D1 D2 D3 D4 x) := X2.out.step (by have := QQ.out; omega) t3 fun b hb => by have := QQ.out; have := Y.out; omega
  have KI3 : Hid (OutEvent w3 D4 hi x.hn x.hL b4 x.hH) := KI2.out.keep t3.size fun k hk1 hk2 => t3.block k (Nat.lt_of_lt_of_le hk2 KI2.out.le) (fun e => by have := Y.out; omega)
  have z3 : 0 ≤ Z2 + 2 * (sumL x.wL x.wn : Nat) ∧ Z2 + 2 * (sumL x.wL x.wn : Nat) ≤ 18000000 := by have := (SysIn.lens HS.out).2.2.1; have := HZ2.out; omega
  generalize Z2 + 2 * (sumL x.wL x.wn : Nat) = Z3 at *
  have HZ3 : Hid (0 ≤ Z3 ∧ Z3 ≤ 18000000) := z3
  clear t3 X2 KW2 KI2 z3 HZ2
  obtain ⟨-, ⟨p0, p1, p2, p3⟩, lt⟩ := X3.out
  go_wp2_with fail
  clear p0 p1 p2 p3 lt
  refine (markEventSS_any D4 hi x.hn x.hn x.hL b4 x.hH Z3 w3 (SysIn.lens HS.out).2.2.2.1 (SysIn.lens HS.out).2.2.2.2 HZ3.out.1 (by have := HZ3.out; omega) KI3.out).mono ?_
  rintro e w4 ⟨rfl, t4⟩
  have X4 : Hid (MkY w w4 lo hi D1 D2 D3 D4 x) := X3.out.step (by have := QQ.out; omega) t4 fun b hb => by have := QQ.out; have := Y.out; omega
  have HZ4 : Hid (¬ Z3 + 3 * (sumL x.hL x.hn : Nat) < 0 ∧ Z3 + 3 * (sumL x.hL x.hn : Nat) ≤ 30000000) := by
    show ¬ Z3 + 3 * (sumL x.hL x.hn : Nat) < 0 ∧ Z3 + 3 * (sumL x.hL x.hn : Nat) ≤ 30000000
    have := HZ3.out
    have := (SysIn.lens HS.out).2.2.2.2
    omega
  generalize Z3 + 3 * (sumL x.hL x.hn : Nat) = Z4 at *
  clear t4 X3 KI3 HZ3
  go_wp2
  go_ret
  exact ⟨⟨_, rfl, HZ4.out⟩, X4.out.tch⟩


end Go.Proofs.YtdfhpimdgfemjaaGreatDoor

namespace Go.Proofs.YtdfhpimdgfemjaaGreatDoor
open Go.ChangeShapes Go.WideShapes Go.ChangeAt Go.RowKit Go.Deep

theorem ZAt.blk {w w' : World} {b off len : Nat} {h : Nat → Int} (hh : ZAt w b off len h) (hb : w'.heap[b]? = w.heap[b]?) : ZAt w' b off len h := fun i hi => (World.cell?_of_block hb).trans (hh i hi)
theorem BlAt.blk {w w' : World} {b off len : Nat} {h : Nat → Bool} (hh : BlAt w b off len h) (hb : w'.heap[b]? = w.heap[b]?) : BlAt w' b off len h := fun i hi => (World.cell?_of_block hb).trans (hh i hi)
/-- A copy of a shot: three lists, each behind the last. -/
structure OutSh (w : World) (lo hi : Nat) (x : ShIn) (v : Value) (D1 D2 D3 : Nat) (bs : Nat → Nat) : Prop where
  val : v = shV x.on (some ⟨D1, 0, none⟩) x.cn x.cn (some ⟨D2, 0, none⟩) x.ol x.ol (some ⟨D3, 0, none⟩) x.kn x.kn
  cc : ZAt w D1 0 x.cn x.cH
  cf : ∀ j, w.frozen? ⟨D1, j, none⟩ = false
  oo : BlAt w D2 0 x.ol x.oH
  fo : ∀ j, w.frozen? ⟨D2, j, none⟩ = false
  kk : OutInt w D3 hi x.kn x.kL bs x.kH
  lo : lo ≤ D1
  o1 : D1 < D2
  o2 : D2 < D3
def IsSh (w : World) (lo hi : Nat) (x : ShIn) (v : Value) : Prop := ∃ D1 D2 D3 bs, OutSh w lo hi x v D1 D2 D3 bs
theorem IsSh.hi {w : World} {lo hi : Nat} {x : ShIn} {v : Value} (o : IsSh w lo hi x v) : lo < hi ∧ hi ≤ w.heap.size := by
  obtain ⟨D1, D2, D3, bs, o⟩ := o
  have := o.lo
  have := o.o1
  have := o.o2
  have := o.kk.lt
  have := o.kk.le
  omega
theorem IsSh.keep {w w' : World} {lo hi : Nat} {x : ShIn} {v : Value} (o : IsSh w lo hi x v) (hs : w.heap.size ≤ w'.heap.size) (hb : ∀ k, lo ≤ k → k < hi → w'.heap[k]? = w.heap[k]?) : IsSh w' lo hi x v := by
  obtain ⟨D1, D2, D3, bs, o⟩ := o
  have q0 := o.lo
  have q1 := o.o1
  have q2 := o.o2
  have q3 := o.kk.lt
  exact ⟨D1, D2, D3, bs, o.val, o.cc.blk (hb D1 (by omega) (by omega)), fun j => (World.frozen?_of_block (hb D1 (by omega) (by omega))).trans (o.cf j), o.oo.blk (hb D2 (by omega) (by omega)), fun j => (World.frozen?_of_block (hb D2 (by omega) (by omega))).trans (o.fo j), o.kk.keep hs fun k h1 h2 => hb k (by omega) h2, o.lo, o.o1, o.o2⟩
theorem IsSh.below {w w' : World} {lo hi : Nat} {x : ShIn} {v : Value} {B : Nat} (o : IsSh w lo hi x v) (hb : Below B w w') (hB : hi ≤ B) : IsSh w' lo hi x v := o.keep hb.size fun k _ h2 => hb.block k (by omega)
theorem IsSys.keep {w w' : World} {lo hi : Nat} {x : SysIn} {v : Value} (o : IsSys w lo hi x v) (hs : w.heap.size ≤ w'.heap.size) (hb : ∀ k, lo ≤ k → k < hi → w'.heap[k]? = w.heap[k]?) : IsSys w' lo hi x v := by
  obtain ⟨D1, D2, D3, D4, b1, vs, b3, b4, h1, h2, h3, o⟩ := o
  obtain ⟨q1, q2, q3, q4, q5⟩ := o.hi
  have := o.lo
  have := o.o1
  have := o.o2
  have := o.o3
  have := o.pp.lt
  have := o.ss.lt
  have := o.ww.lt
  exact ⟨D1, D2, D3, D4, b1, vs, b3, b4, h1, h2, h3, o.val, o.pp.keep hs fun k _ _ => hb k (by omega) (by omega), o.ss.keep hs fun k _ _ => hb k (by omega) (by omega), o.ww.keep hs fun k _ _ => hb k (by omega) (by omega), o.hh.keep hs fun k _ _ => hb k (by omega) (by omega), o.lo, o.o1, o.o2, o.o3⟩

theorem hb_frozen {w w' : World} {B b : Nat} (hb : Below B w w') (h : b < B) (j : Nat) : w'.frozen? ⟨b, j, none⟩ = w.frozen? ⟨b, j, none⟩ := hb.frozen (p := ⟨b, j, none⟩) h
/-- The three boxes of a copy that is being made: what came in, the answer's, the copy's. -/
structure TC (w wx : World) (a0 a1 a2 a3 r0 r1 r2 r3 o0 o1 o2 o3 : Value) : Prop where
  p : BoxC wx w.heap.size a0 a1 a2 a3
  r : BoxC wx (w.heap.size + 1) r0 r1 r2 r3
  o : BoxC wx (w.heap.size + 1 + 1) o0 o1 o2 o3
  fr : ∀ j, wx.frozen? ⟨w.heap.size + 1, j, none⟩ = false
  fo : ∀ j, wx.frozen? ⟨w.heap.size + 1 + 1, j, none⟩ = false
  be : Below w.heap.size w wx
  le : w.heap.size + 3 ≤ wx.heap.size
section
variable {w wx w' : World} {a0 a1 a2 a3 r0 r1 r2 r3 o0 o1 o2 o3 : Value}
theorem TC.below (h : TC w wx a0 a1 a2 a3 r0 r1 r2 r3 o0 o1 o2 o3) (hb : Below wx.heap.size wx w') : TC w w' a0 a1 a2 a3 r0 r1 r2 r3 o0 o1 o2 o3 :=
  ⟨h.p.below hb, h.r.below hb, h.o.below hb, fun j => (hb.frozen (p := ⟨w.heap.size + 1, j, none⟩) (by have := h.le; show w.heap.size + 1 < _; omega)).trans (h.fr j), fun j => (hb.frozen (p := ⟨w.heap.size + 1 + 1, j, none⟩) (by have := h.le; show w.heap.size + 1 + 1 < _; omega)).trans (h.fo j), h.be.trans (hb.mono h.be.size), Nat.le_trans h.le hb.size⟩
theorem TC.first (a0 a1 a2 a3 r0 r1 r2 r3 o0 o1 o2 o3 : Value) (t1 t2 : TypeId) : TC w (((w.alloc (.cells #[a0, a1, a2, a3] t1)).alloc (.cells #[r0, r1, r2, r3] t2)).alloc (.cells #[o0, o1, o2, o3] t2)) a0 a1 a2 a3 r0 r1 r2 r3 o0 o1 o2 o3 := by
  have hb1 := below_allocS (w.alloc (.cells #[a0, a1, a2, a3] t1)) (.cells #[r0, r1, r2, r3] t2)
  have hb2 := below_allocS ((w.alloc (.cells #[a0, a1, a2, a3] t1)).alloc (.cells #[r0, r1, r2, r3] t2)) (.cells #[o0, o1, o2, o3] t2)
  have n0 := BoxC.new w a0 a1 a2 a3 t1
  have n1 := BoxC.new (w.alloc (.cells #[a0, a1, a2, a3] t1)) r0 r1 r2 r3 t2
  have n2 := BoxC.new ((w.alloc (.cells #[a0, a1, a2, a3] t1)).alloc (.cells #[r0, r1, r2, r3] t2)) o0 o1 o2 o3 t2
  have f1 := fun j => new_frozen (w.alloc (.cells #[a0, a1, a2, a3] t1)) #[r0, r1, r2, r3] t2 j rfl
  have f2 := fun j => new_frozen ((w.alloc (.cells #[a0, a1, a2, a3] t1)).alloc (.cells #[r0, r1, r2, r3] t2)) #[o0, o1, o2, o3] t2 j rfl
  simp only [World.size_alloc] at n1 n2 f1 f2
  refine ⟨(n0.below hb1).below hb2, n1.below hb2, n2, fun j => ?_, f2, ?_, by simp⟩
  · exact (hb2.frozen (p := ⟨w.heap.size + 1, j, none⟩) (by simp)).trans (f1 j)
  · exact (((Below.refl _ _).alloc (Nat.le_refl _) _).alloc (by simp) _).alloc (by simp; omega) _
theorem TC.set0 (h : TC w wx a0 a1 a2 a3 r0 r1 r2 r3 o0 o1 o2 o3) (u : Value) : TC w (wx.setCell ⟨w.heap.size + 1 + 1, 0, none⟩ u) a0 a1 a2 a3 r0 r1 r2 r3 u o1 o2 o3 := by
  obtain ⟨q0, q1, q2, q3⟩ := h.o
  have hc : ∀ i, 0 ≠ i → (wx.setCell ⟨w.heap.size + 1 + 1, 0, none⟩ u).cell? ⟨w.heap.size + 1 + 1, i, none⟩ = wx.cell? ⟨w.heap.size + 1 + 1, i, none⟩ := fun i hi => World.cell?_setCell_other _ _ _ _ fun e => hi (by injection e)
  exact ⟨h.p.setO (by omega), h.r.setO (by omega), ⟨World.cell?_setCell_same _ _ _ q0, (hc _ (by omega)).trans q1, (hc _ (by omega)).trans q2, (hc _ (by omega)).trans q3⟩, fun j => by rw [World.frozen?_setCell]; exact h.fr j, fun j => by rw [World.frozen?_setCell]; exact h.fo j, h.be.setCell (by simp; omega) _, by simp; exact h.le⟩
theorem TC.set1 (h : TC w wx a0 a1 a2 a3 r0 r1 r2 r3 o0 o1 o2 o3) (u : Value) : TC w (wx.setCell ⟨w.heap.size + 1 + 1, 1, none⟩ u) a0 a1 a2 a3 r0 r1 r2 r3 o0 u o2 o3 := by
  obtain ⟨q0, q1, q2, q3⟩ := h.o
  have hc : ∀ i, 1 ≠ i → (wx.setCell ⟨w.heap.size + 1 + 1, 1, none⟩ u).cell? ⟨w.heap.size + 1 + 1, i, none⟩ = wx.cell? ⟨w.heap.size + 1 + 1, i, none⟩ := fun i hi => World.cell?_setCell_other _ _ _ _ fun e => hi (by injection e)
  exact ⟨h.p.setO (by omega), h.r.setO (by omega), ⟨(hc _ (by omega)).trans q0, World.cell?_setCell_same _ _ _ q1, (hc _ (by omega)).trans q2, (hc _ (by omega)).trans q3⟩, fun j => by rw [World.frozen?_setCell]; exact h.fr j, fun j => by rw [World.frozen?_setCell]; exact h.fo j, h.be.setCell (by simp; omega) _, by simp; exact h.le⟩
theorem TC.set2 (h : TC w wx a0 a1 a2 a3 r0 r1 r2 r3 o0 o1 o2 o3) (u : Value) : TC w (wx.setCell ⟨w.heap.size + 1 + 1, 2, none⟩ u) a0 a1 a2 a3 r0 r1 r2 r3 o0 o1 u o3 := by
  obtain ⟨q0, q1, q2, q3⟩ := h.o
  have hc : ∀ i, 2 ≠ i → (wx.setCell ⟨w.heap.size + 1 + 1, 2, none⟩ u).cell? ⟨w.heap.size + 1 + 1, i, none⟩ = wx.cell? ⟨w.heap.size + 1 + 1, i, none⟩ := fun i hi => World.cell?_setCell_other _ _ _ _ fun e => hi (by injection e)
  exact ⟨h.p.setO (by omega), h.r.setO (by omega), ⟨(hc _ (by omega)).trans q0, (hc _ (by omega)).trans q1, World.cell?_setCell_same _ _ _ q2, (hc _ (by omega)).trans q3⟩, fun j => by rw [World.frozen?_setCell]; exact h.fr j, fun j => by rw [World.frozen?_setCell]; exact h.fo j, h.be.setCell (by simp; omega) _, by simp; exact h.le⟩
theorem TC.set3 (h : TC w wx a0 a1 a2 a3 r0 r1 r2 r3 o0 o1 o2 o3) (u : Value) : TC w (wx.setCell ⟨w.heap.size + 1 + 1, 3, none⟩ u) a0 a1 a2 a3 r0 r1 r2 r3 o0 o1 o2 u := by
  obtain ⟨q0, q1, q2, q3⟩ := h.o
  have hc : ∀ i, 3 ≠ i → (wx.setCell ⟨w.heap.size + 1 + 1, 3, none⟩ u).cell? ⟨w.heap.size + 1 + 1, i, none⟩ = wx.cell? ⟨w.heap.size + 1 + 1, i, none⟩ := fun i hi => World.cell?_setCell_other _ _ _ _ fun e => hi (by injection e)
  exact ⟨h.p.setO (by omega), h.r.setO (by omega), ⟨(hc _ (by omega)).trans q0, (hc _ (by omega)).trans q1, (hc _ (by omega)).trans q2, World.cell?_setCell_same _ _ _ q3⟩, fun j => by rw [World.frozen?_setCell]; exact h.fr j, fun j => by rw [World.frozen?_setCell]; exact h.fo j, h.be.setCell (by simp; omega) _, by simp; exact h.le⟩
end

set_option maxRecDepth 100000 in
set_option maxHeartbeats 2000000 in
theorem toShot_any (x : ShIn) (W w : World) (hs : x.size ≤ 1048576) (hA : x.Ok W) (hW : Below W.heap.size W w) :
    Calls Tryz.prog 58 #[shV x.on x.ca x.cn x.cc x.oa x.ol x.oc x.ka x.kn x.kc] w fun e w' => ∃ v, e = .returned v ∧ IsSh w' w.heap.size w'.heap.size x v ∧ Below w.heap.size w w' := by
  have hkn : x.kn ≤ 1048576 := by unfold ShIn.size at hs; omega
  have HA : Hid (x.Ok W) := hA
  have HW : Hid (Below W.heap.size W w) := hW
  have HWs : Hid (W.heap.size ≤ w.heap.size) := hW.size
  clear hA hW hs
  go_enter Tryz.func58, Tryz.ntmps58
  have T1 : Hid (TC w (((w.alloc (.cells #[.bool x.on, .slice x.ca x.cn x.cc, .slice x.oa x.ol x.oc, .slice x.ka x.kn x.kc] 49)).alloc (.cells #[.bool false, .slice none 0 0, .slice none 0 0, .slice none 0 0] 39)).alloc (.cells #[.bool x.on, .slice none 0 0, .slice none 0 0, .slice none 0 0] 39)) (.bool x.on) (.slice x.ca x.cn x.cc) (.slice x.oa x.ol x.oc) (.slice x.ka x.kn x.kc) (.bool false) (.slice none 0 0) (.slice none 0 0) (.slice none 0 0) (.bool x.on) (.slice none 0 0) (.slice none 0 0) (.slice none 0 0)) := TC.first _ _ _ _ _ _ _ _ _ _ _ _ _ _
  go_wp2_with fail
  generalize ((w.alloc (.cells #[.bool x.on, .slice x.ca x.cn x.cc, .slice x.oa x.ol x.oc, .slice x.ka x.kn x.kc] 49)).alloc (.cells #[.bool false, .slice none 0 0, .slice none 0 0, .slice none 0 0] 39)).alloc (.cells #[.bool x.on, .slice none 0 0, .slice none 0 0, .slice none 0 0] 39) = wA at *
  refine (HA.out.c wA (HW.out.trans (T1.out.be.mono HWs.out))).mono ?_
  rintro e w1 ⟨rfl, i1, z1, b1, f1⟩
  have zA : w.heap.size + 3 ≤ wA.heap.size := T1.out.le
  have T2 : Hid (TC w w1 (.bool x.on) (.slice x.ca x.cn x.cc) (.slice x.oa x.ol x.oc) (.slice x.ka x.kn x.kc) (.bool false) (.slice none 0 0) (.slice none 0 0) (.slice none 0 0) (.bool x.on) (.slice none 0 0) (.slice none 0 0) (.slice none 0 0)) := T1.out.below b1
  have C1 : Hid (ZAt w1 wA.heap.size 0 x.cn x.cH ∧ (∀ j, w1.frozen? ⟨wA.heap.size, j, none⟩ = false) ∧ wA.heap.size < w1.heap.size) := ⟨i1, f1, z1⟩
  clear i1 f1 z1 b1 T1
  obtain ⟨⟨p0, p1, p2, p3⟩, -, ⟨q0, q1, q2, q3⟩, -, fo, -, le⟩ := T2.out
  go_wp2_with fail
  have T3 : Hid (TC w (w1.setCell ⟨w.heap.size + 1 + 1, 1, none⟩ (.slice (some ⟨wA.heap.size, 0, none⟩) x.cn x.cn)) (.bool x.on) (.slice x.ca x.cn x.cc) (.slice x.oa x.ol x.oc) (.slice x.ka x.kn x.kc) (.bool false) (.slice none 0 0) (.slice none 0 0) (.slice none 0 0) (.bool x.on) (.slice (some ⟨wA.heap.size, 0, none⟩) x.cn x.cn) (.slice none 0 0) (.slice none 0 0)) := T2.out.set1 _
  have C2 : Hid (ZAt (w1.setCell ⟨w.heap.size + 1 + 1, 1, none⟩ (.slice (some ⟨wA.heap.size, 0, none⟩) x.cn x.cn)) wA.heap.size 0 x.cn x.cH ∧ (∀ j, (w1.setCell ⟨w.heap.size + 1 + 1, 1, none⟩ (.slice (some ⟨wA.heap.size, 0, none⟩) x.cn x.cn)).frozen? ⟨wA.heap.size, j, none⟩ = false) ∧ wA.heap.size < (w1.setCell ⟨w.heap.size + 1 + 1, 1, none⟩ (.slice (some ⟨wA.heap.size, 0, none⟩) x.cn x.cn)).heap.size) := ⟨C1.out.1.blk (Below.heap_setCell _ _ _ _ (by simp; omega)), fun j => by rw [World.frozen?_setCell]; exact C1.out.2.1 j, by simp; exact C1.out.2.2⟩
  clear C1 T2 p0 p1 p2 p3 q0 q1 q2 q3 fo le
  generalize w1.setCell ⟨w.heap.size + 1 + 1, 1, none⟩ (.slice (some ⟨wA.heap.size, 0, none⟩) x.cn x.cn) = wB at *
  refine (HA.out.o wB (HW.out.trans (T3.out.be.mono HWs.out))).mono ?_
  rintro e w2 ⟨rfl, i2, z2, b2, f2⟩
  have zB : wA.heap.size < wB.heap.size := C2.out.2.2
  have T4 : Hid (TC w w2 (.bool x.on) (.slice x.ca x.cn x.cc) (.slice x.oa x.ol x.oc) (.slice x.ka x.kn x.kc) (.bool false) (.slice none 0 0) (.slice none 0 0) (.slice none 0 0) (.bool x.on) (.slice (some ⟨wA.heap.size, 0, none⟩) x.cn x.cn) (.slice none 0 0) (.slice none 0 0)) := T3.out.below b2
  have C3 : Hid (ZAt w2 wA.heap.size 0 x.cn x.cH ∧ (∀ j, w2.frozen? ⟨wA.heap.size, j, none⟩ = false)) := ⟨C2.out.1.below b2 zB, fun j => (hb_frozen b2 zB j).trans (C2.out.2.1 j)⟩
  have O3 : Hid (BlAt w2 wB.heap.size 0 x.ol x.oH ∧ (∀ j, w2.frozen? ⟨wB.heap.size, j, none⟩ = false) ∧ wB.heap.size < w2.heap.size) := ⟨i2, f2, z2⟩
  clear i2 f2 z2 b2 T3 C2
  obtain ⟨⟨p0, p1, p2, p3⟩, -, ⟨q0, q1, q2, q3⟩, -, fo, -, le⟩ := T4.out
  go_wp2_with fail
  have T5 : Hid (TC w (w2.setCell ⟨w.heap.size + 1 + 1, 2, none⟩ (.slice (some ⟨wB.heap.size, 0, none⟩) x.ol x.ol)) (.bool x.on) (.slice x.ca x.cn x.cc) (.slice x.oa x.ol x.oc) (.slice x.ka x.kn x.kc) (.bool false) (.slice none 0 0) (.slice none 0 0) (.slice none 0 0) (.bool x.on) (.slice (some ⟨wA.heap.size, 0, none⟩) x.cn x.cn) (.slice (some ⟨wB.heap.size, 0, none⟩) x.ol x.ol) (.slice none 0 0)) := T4.out.set2 _
  have C4 : Hid (ZAt (w2.setCell ⟨w.heap.size + 1 + 1, 2, none⟩ (.slice (some ⟨wB.heap.size, 0, none⟩) x.ol x.ol)) wA.heap.size 0 x.cn x.cH ∧ (∀ j, (w2.setCell ⟨w.heap.size + 1 + 1, 2, none⟩ (.slice (some ⟨wB.heap.size, 0, none⟩) x.ol x.ol)).frozen? ⟨wA.heap.size, j, none⟩ = false)) := ⟨C3.out.1.blk (Below.heap_setCell _ _ _ _ (by simp; omega)), fun j => by rw [World.frozen?_setCell]; exact C3.out.2 j⟩
  have O4 : Hid (BlAt (w2.setCell ⟨w.heap.size + 1 + 1, 2, none⟩ (.slice (some ⟨wB.heap.size, 0, none⟩) x.ol x.ol)) wB.heap.size 0 x.ol x.oH ∧ (∀ j, (w2.setCell ⟨w.heap.size + 1 + 1, 2, none⟩ (.slice (some ⟨wB.heap.size, 0, none⟩) x.ol x.ol)).frozen? ⟨wB.heap.size, j, none⟩ = false) ∧ wB.heap.size < (w2.setCell ⟨w.heap.size + 1 + 1, 2, none⟩ (.slice (some ⟨wB.heap.size, 0, none⟩) x.ol x.ol)).heap.size) := ⟨O3.out.1.blk (Below.heap_setCell _ _ _ _ (by simp; omega)), fun j => by rw [World.frozen?_setCell]; exact O3.out.2.1 j, by simp; exact O3.out.2.2⟩
  clear C3 O3 T4 p0 p1 p2 p3 q0 q1 q2 q3 fo le
  generalize w2.setCell ⟨w.heap.size + 1 + 1, 2, none⟩ (.slice (some ⟨wB.heap.size, 0, none⟩) x.ol x.ol) = wC at *
  refine (toIntSS_any _ _ _ _ x.kL _ x.kH W wC hkn HA.out.k (HW.out.trans (T5.out.be.mono HWs.out))).mono ?_
  rintro e w3 ⟨rfl, ⟨bs3, o3⟩, b3⟩
  have zC : wB.heap.size < wC.heap.size := O4.out.2.2
  have T6 : Hid (TC w w3 (.bool x.on) (.slice x.ca x.cn x.cc) (.slice x.oa x.ol x.oc) (.slice x.ka x.kn x.kc) (.bool false) (.slice none 0 0) (.slice none 0 0) (.slice none 0 0) (.bool x.on) (.slice (some ⟨wA.heap.size, 0, none⟩) x.cn x.cn) (.slice (some ⟨wB.heap.size, 0, none⟩) x.ol x.ol) (.slice none 0 0)) := T5.out.below b3
  have HO : Hid (∀ W9 : World, (∀ k, w.heap.size + 3 ≤ k → W9.heap[k]? = w3.heap[k]?) → W9.heap.size = w3.heap.size → IsSh W9 w.heap.size W9.heap.size x (shV x.on (some ⟨wA.heap.size, 0, none⟩) x.cn x.cn (some ⟨wB.heap.size, 0, none⟩) x.ol x.ol (some ⟨wC.heap.size, 0, none⟩) x.kn x.kn)) := by
    intro W9 hk hz
    have o3' : OutInt w3 wC.heap.size W9.heap.size x.kn x.kL bs3 x.kH := hz ▸ o3
    exact ⟨_, _, _, bs3, rfl, (C4.out.1.below b3 (by omega)).blk (hk wA.heap.size (by omega)), fun j => (World.frozen?_of_block (hk wA.heap.size (by omega))).trans ((hb_frozen b3 (by omega) j).trans (C4.out.2 j)), (O4.out.1.below b3 (by omega)).blk (hk wB.heap.size (by omega)), fun j => (World.frozen?_of_block (hk wB.heap.size (by omega))).trans ((hb_frozen b3 (by omega) j).trans (O4.out.2.1 j)), o3'.keep (by omega) fun k h1 _ => hk k (by omega), by omega, zB, zC⟩
  clear b3 T5 o3 C4 O4
  obtain ⟨-, ⟨r0, r1, r2, r3⟩, ⟨q0, q1, q2, q3⟩, fr, fo, be, le⟩ := T6.out
  have BE : Hid (Below w.heap.size w w3) := be
  clear be T6
  go_wp2
  refine bodyPost_ret (v := shV x.on (some ⟨wA.heap.size, 0, none⟩) x.cn x.cn (some ⟨wB.heap.size, 0, none⟩) x.ol x.ol (some ⟨wC.heap.size, 0, none⟩) x.kn x.kn) (by simp [results, Tryz.results58, go_sem, r0, r1, r2, r3]) rfl ⟨_, rfl, HO.out _ ?_ ?_, ?_⟩
  · intro k hk
    repeat (rw [Below.heap_setCell _ _ _ _ (by simp; omega)])
  · simp
  · have := BE.out
    go_grown

end Go.Proofs.YtdfhpimdgfemjaaGreatDoor

namespace Go.Proofs.YtdfhpimdgfemjaaGreatDoor
open Go.RowKit Go.Deep

theorem belowMid {w w1 w2 : World} {B : Nat} (h1 : Below B w w1) (h2 : Below w1.heap.size w1 w2) (hB : B ≤ w1.heap.size) : Below B w w2 := h1.trans (h2.mono hB)

/-- The numbers among the first n items. -/
def numL (h : Nat → I2) : Nat → List Int
  | 0 => []
  | n + 1 => if (h n).m = true then numL h n else numL h n ++ [(h n).v]
theorem numL_le (h : Nat → I2) : ∀ n, (numL h n).length ≤ n
  | 0 => Nat.le_refl _
  | n + 1 => by
    unfold numL
    have := numL_le h n
    split
    · omega
    · simp; omega
theorem numL_hit {h : Nat → I2} {n : Nat} (hh : (h n).m = false) : numL h (n + 1) = numL h n ++ [(h n).v] := by
  rw [numL, if_neg (by rw [hh]; decide)]
theorem numL_not {h : Nat → I2} {n : Nat} (hh : (h n).m = true) : numL h (n + 1) = numL h n := by
  rw [numL, if_pos hh]

set_option maxRecDepth 100000 in
set_option maxHeartbeats 1000000 in
theorem specNumbers_any (b off len cap : Nat) (h : Nat → I2) (w : World) (hlen : len ≤ 1048576) (hb : b < w.heap.size) (hc : ItAt w b off len h) :
    Calls Tryz.prog 163 #[.slice (some ⟨b, off, none⟩) len cap] w fun e w' => ∃ v, e = .returned v ∧ OwnI w' w.heap.size v (numL h len) ∧ Below w.heap.size w w' := by
  have hl' : (len : Int) ≤ 1048576 := by omega
  have HC : Hid (ItAt w b off len h) := hc
  clear hc
  go_enter Tryz.func163, Tryz.ntmps163
  go_wp2_with fail
  go_loopw [3, 4] (fun o i wr => ∃ k : Nat, k ≤ len ∧ i = .int .i64 k ∧ Hid (OwnI wr w.heap.size o (numL h k)) ∧ Below w.heap.size w wr) (fun _ i _ => len - (intOf i).toNat)
  case atStart => exact ⟨0, Nat.zero_le _, rfl, own_empty w, (Below.refl _ _).alloc (Nat.le_refl _) _⟩
  case round =>
    obtain ⟨k, hk, rfl, HO, hbw⟩ := hrel
    have hs := hbw.size
    by_cases hlt : k < len
    · have hlt' : (k : Int) < (len : Int) := by omega
      have hvl := numL_le h k
      obtain ⟨c0, c1⟩ := HC.out.below hbw hb k hlt
      rcases Bool.eq_false_or_eq_true (h k).m with t1 | t1
      · have HH : Hid (numL h (k + 1) = numL h k) := numL_not t1
        rw [t1] at c0
        go_wp2
        go_roundw
        case rel => exact ⟨k + 1, by omega, by go_num, HO.out.to HH.out, hbw⟩
        case measure => simp [intOf]; omega
      · have HH : Hid (numL h (k + 1) = numL h k ++ [(h k).v]) := numL_hit t1
        rw [t1] at c0
        go_wp2_with (at_builtin; refine append_one wr rfl _ _ rfl w.heap.size u3 (numL h k) rfl HO.out (h k).v rfl (by omega) hs ?_; intro v' w4 o4 b4; have H4 : Hid (OwnI w4 w.heap.size v' (numL h (k + 1))) := o4.to HH.out; clear o4)
        go_roundw
        case rel => exact ⟨k + 1, by omega, by go_num, H4.out, hbw.trans b4⟩
        case measure => simp [intOf]; omega
    · have hkl : k = len := by omega
      have H4 : Hid (OwnI wr w.heap.size u3 (numL h len)) := by
        have := HO.out
        rw [hkl] at this
        exact this
      clear HO hkl
      go_wp2
      go_ret
      exact ⟨_, rfl, H4.out, hbw⟩

set_option maxRecDepth 100000 in
set_option maxHeartbeats 1000000 in
theorem implNumbers_any (b off len cap : Nat) (h : Nat → I2) (w : World) (hlen : len ≤ 1048576) (hb : b < w.heap.size) (hc : ItAt w b off len h) :
    Calls Tryz.prog 174 #[.slice (some ⟨b, off, none⟩) len cap] w fun e w' => ∃ v, e = .returned v ∧ OwnI w' w.heap.size v (numL h len) ∧ Below w.heap.size w w' := by
  have hl' : (len : Int) ≤ 1048576 := by omega
  have HC : Hid (ItAt w b off len h) := hc
  clear hc
  go_enter Tryz.func174, Tryz.ntmps174
  go_wp2_with fail
  go_loopw [3, 9] (fun o i wr => ∃ k : Nat, k ≤ len ∧ i = .int .i64 k ∧ Hid (OwnI wr w.heap.size o (numL h k)) ∧ Below w.heap.size w wr) (fun _ i _ => len - (intOf i).toNat)
  case atStart => exact ⟨0, Nat.zero_le _, rfl, own_empty w, (Below.refl _ _).alloc (Nat.le_refl _) _⟩
  case round =>
    obtain ⟨k, hk, rfl, HO, hbw⟩ := hrel
    have hs := hbw.size
    by_cases hlt : k < len
    · have hlt' : (k : Int) < (len : Int) := by omega
      have hvl := numL_le h k
      obtain ⟨c0, c1⟩ := HC.out.below hbw hb k hlt
      rcases Bool.eq_false_or_eq_true (h k).m with t1 | t1
      · have HH : Hid (numL h (k + 1) = numL h k) := numL_not t1
        rw [t1] at c0
        go_wp2
        go_roundw
        case rel => exact ⟨k + 1, by omega, by go_num, (HO.out.below (by go_grown)).to HH.out, by go_grown⟩
        case measure => simp [intOf]; omega
      · have HH : Hid (numL h (k + 1) = numL h k ++ [(h k).v]) := numL_hit t1
        rw [t1] at c0
        go_wp2_with (at_builtin; refine append_oneN _ (N := wr.heap.size + 1) (by simp) rfl _ _ rfl w.heap.size u3 (numL h k) rfl (HO.out.below (by go_grown)) (h k).v rfl (by omega) (by simp; omega) ?_; intro v' w4 o4 b4; have H4 : Hid (OwnI w4 w.heap.size v' (numL h (k + 1))) := o4.to HH.out; clear o4)
        go_roundw
        case rel => exact ⟨k + 1, by omega, by go_num, H4.out, Below.trans (by go_grown) b4⟩
        case measure => simp [intOf]; omega
    · have hkl : k = len := by omega
      have H4 : Hid (OwnI wr w.heap.size u3 (numL h len)) := by
        have := HO.out
        rw [hkl] at this
        exact this
      clear HO hkl
      go_wp2
      go_ret
      exact ⟨_, rfl, H4.out, hbw⟩

end Go.Proofs.YtdfhpimdgfemjaaGreatDoor

namespace Go.Proofs.YtdfhpimdgfemjaaGreatDoor
open Go.ChangeShapes Go.WideShapes Go.RowKit

theorem Tryz.et : Tryz.prog.globalNamed "errors.errorType" = some 0 := by kernel_rfl
theorem Tryz.rt : (Tryz.prog.cutTypes.find? (·.1 == "internal/reflectlite.rtype")).map (·.2) = some 313 := by kernel_rfl
theorem Tryz.oneRow : ((List.range 356).filter fun t => Tryz.prog.rowNamed t [101, 114, 114, 111, 114]) = [255] := by kernel_rfl
theorem Tryz.tsize : Tryz.prog.types.size = 356 := by kernel_rfl

/-- What the condition gives a walk: the variable's one cell. -/
theorem handle_of_laid {W : World} (h : laidMetH Tryz.prog [("errors.errorType", Rows.laid_errors_errorType)] W) : W.cell? ⟨0, 0, none⟩ = some (.iface 313 (.agg #[.pointer (some ⟨1, 255, none⟩)])) := by
  have h' : laidMet Tryz.prog [] W ∧ handlesMet Tryz.prog [("errors.errorType", Rows.laid_errors_errorType)] W := h
  obtain ⟨name, u, ty, e1, e2, e3, e4, e5⟩ := h'.2 _ (List.mem_singleton.2 rfl)
  have en : name = [101, 114, 114, 111, 114] := (Option.some.inj e1).symm
  subst en
  obtain rfl := Option.some.inj (Tryz.rt.symm.trans e2)
  have hm : ty ∈ (List.range 356).filter fun t => Tryz.prog.rowNamed t [101, 114, 114, 111, 114] := List.mem_filter.2 ⟨List.mem_range.2 (by rw [← Tryz.tsize]; exact e3), e4⟩
  rw [Tryz.oneRow] at hm
  obtain rfl := List.mem_singleton.1 hm
  have hh : typeHandle Tryz.prog 255 = .pointer (some ⟨1, 255, none⟩) := by kernel_rfl
  rw [hh] at e5
  simpa using World.var?_cell Tryz.et e5 0

/-- A world that meets the condition: the settled one, the variable's cell laid. -/
noncomputable def laidWorld (os : Os) : World :=
  let w0 := World.holding Tryz.prog os ⟨#[], #[], []⟩
  { w0 with heap := w0.heap.modify 0 fun
      | .cells _ t frozen => .cells #[.iface 313 (.agg #[.pointer (some ⟨1, 255, none⟩)])] t frozen
      | o => o }
theorem laidWorld_met (os : Os) (args : Array Value) : laidMetH Tryz.prog [("errors.errorType", Rows.laid_errors_errorType)] ((laidWorld os).forCall (fun _ _ => 0) ⟨#[], args, []⟩).memory :=
  laidMetH_of_parts (laidMet_nil _ _) (by kernel_rfl)

end Go.Proofs.YtdfhpimdgfemjaaGreatDoor
