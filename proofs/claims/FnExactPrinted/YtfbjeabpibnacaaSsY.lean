/- Systems: the walks of the laws' own helpers on them. -/
import Derived.Test.YtfbjeabpibnacaaSsI
import Derived.Test.YtfbjeabpibnacaaSsT
import Derived.Test.YtfbjeabpibnacaaSsE
import Derived.Test.YtfbjeabpibnacaaSsS4
namespace Go.Proofs.Ytfbjeabpibnacaa
open Go.ChangeShapes Go.WideShapes Go.ChangeAt Go.RowKit Go.Deep

/-- A system that came in, with where its parts lie. -/
structure SysIn where
  pa : Option Addr
  pn : Nat
  pc : Nat
  pA : Nat → Option Addr
  pL : Nat → Nat
  pC : Nat → Nat
  pH : Nat → Nat → I5
  sa : Option Addr
  sn : Nat
  sc : Nat
  sQ : Nat → St8
  wa : Option Addr
  wn : Nat
  wc : Nat
  wA : Nat → Option Addr
  wL : Nat → Nat
  wC : Nat → Nat
  wH : Nat → Nat → I2
  ha : Option Addr
  hn : Nat
  hc : Nat
  hA : Nat → Option Addr
  hL : Nat → Nat
  hC : Nat → Nat
  hH : Nat → Nat → E3
def SysIn.sS (x : SysIn) : Nat → S4 := fun i => (x.sQ i).s
def SysIn.size (x : SysIn) : Nat := x.pn + sumL x.pL x.pn + (x.sn + sumL (lenS x.sS) x.sn) + (x.wn + sumL x.wL x.wn) + (x.hn + sumL x.hL x.hn)
abbrev sysV (pa : Option Addr) (pn pc : Nat) (sa : Option Addr) (sn sc : Nat) (wa : Option Addr) (wn wc : Nat) (ha : Option Addr) (hn hc : Nat) : Value := .agg #[.slice pa pn pc, .slice sa sn sc, .slice wa wn wc, .slice ha hn hc]

/-- Its parts stand in memory. -/
structure SysIn.Row (W : World) (x : SysIn) : Prop where
  p : RowS W x.pa x.pn fun i => .slice (x.pA i) (x.pL i) (x.pC i)
  s : AllState W x.sa x.sn x.sQ
  w : RowS W x.wa x.wn fun i => .slice (x.wA i) (x.wL i) (x.wC i)
  h : RowS W x.ha x.hn fun i => .slice (x.hA i) (x.hL i) (x.hC i)
structure SysIn.Max (x : SysIn) : Prop where
  p : x.pn ≤ maxLen ∧ ∀ i, i < x.pn → x.pL i ≤ maxLen
  s : x.sn ≤ maxLen ∧ ∀ i, i < x.sn → (x.sQ i).rs.length ≤ maxLen ∧ (x.sQ i).os.length ≤ maxLen
  w : x.wn ≤ maxLen ∧ ∀ i, i < x.wn → x.wL i ≤ maxLen
  h : x.hn ≤ maxLen ∧ ∀ i, i < x.hn → x.hL i ≤ maxLen
structure SysIn.Ok (W : World) (x : SysIn) : Prop where
  p : AllIns W x.pa x.pn x.pA x.pL x.pC x.pH
  s : AllState W x.sa x.sn x.sQ
  w : AllItem W x.wa x.wn x.wA x.wL x.wC x.wH
  h : AllEvent W x.ha x.hn x.hA x.hL x.hC x.hH
theorem SysIn.Ok.row {W : World} {x : SysIn} (h : x.Ok W) : x.Row W := ⟨h.p.row, h.s, h.w.row, h.h.row⟩
theorem SysIn.Row.below {W w : World} {x : SysIn} (h : x.Row W) (hb : Below W.heap.size W w) : x.Row w := ⟨h.p.below hb, h.s.below hb, h.w.below hb, h.h.below hb⟩

set_option maxRecDepth 100000 in
set_option maxHeartbeats 1000000 in
theorem szSys_small (x : SysIn) (w : World) (hr : x.Row w) (h : x.size ≤ 1048576) :
    Calls Try.prog 4 #[sysV x.pa x.pn x.pc x.sa x.sn x.sc x.wa x.wn x.wc x.ha x.hn x.hc, .int .i64 1048576] w fun e w' => e = .returned (.int .i64 (1048576 - (x.size : Nat))) ∧ Below w.heap.size w w' := by
  have HR : Hid (x.Row w) := hr
  have hh : x.size = x.pn + sumL x.pL x.pn + (x.sn + sumL (lenS x.sS) x.sn) + (x.wn + sumL x.wL x.wn) + (x.hn + sumL x.hL x.hn) := rfl
  generalize e1 : (1048576 : Int) - x.pn - (sumL x.pL x.pn : Nat) = L1
  generalize e2 : L1 - x.sn - (sumL (lenS x.sS) x.sn : Nat) = L2
  generalize e3 : L2 - x.wn - (sumL x.wL x.wn : Nat) = L3
  have n1 : ¬ L1 < 0 := by omega
  have n2 : ¬ L2 < 0 := by omega
  have n3 : ¬ L3 < 0 := by omega
  have n4 : ¬ L3 - x.hn - (sumL x.hL x.hn : Nat) < 0 := by omega
  have q1 : ((x.pn : Int) + (sumL x.pL x.pn : Nat) ≤ 1048576) := by omega
  have q2 : ((x.sn : Int) + (sumL (lenS x.sS) x.sn : Nat) ≤ L1) ∧ L1 ≤ 1048576 := by omega
  have q3 : ((x.wn : Int) + (sumL x.wL x.wn : Nat) ≤ L2) ∧ L2 ≤ 1048576 := by omega
  have q4 : ((x.hn : Int) + (sumL x.hL x.hn : Nat) ≤ L3) ∧ L3 ≤ 1048576 := by omega
  have e4 : L3 - x.hn - (sumL x.hL x.hn : Nat) = 1048576 - (x.size : Nat) := by omega
  have E1 : Hid ((1048576 : Int) - x.pn - (sumL x.pL x.pn : Nat) = L1) := e1
  have E2 : Hid (L1 - x.sn - (sumL (lenS x.sS) x.sn : Nat) = L2) := e2
  have E3 : Hid (L2 - x.wn - (sumL x.wL x.wn : Nat) = L3) := e3
  have E4 : Hid (L3 - x.hn - (sumL x.hL x.hn : Nat) = 1048576 - (x.size : Nat)) := e4
  have Q : Hid (((x.pn : Int) + (sumL x.pL x.pn : Nat) ≤ 1048576) ∧ (((x.sn : Int) + (sumL (lenS x.sS) x.sn : Nat) ≤ L1) ∧ L1 ≤ 1048576) ∧ (((x.wn : Int) + (sumL x.wL x.wn : Nat) ≤ L2) ∧ L2 ≤ 1048576) ∧ (((x.hn : Int) + (sumL x.hL x.hn : Nat) ≤ L3) ∧ L3 ≤ 1048576)) := ⟨q1, q2, q3, q4⟩
  rw [e4] at n4
  clear hr h hh e1 e2 e3 e4 q1 q2 q3 q4
  go_enter Try.func4, Try.ntmps4
  go_wp2_with fail
  refine (szInsSS_small _ _ _ _ x.pL _ _ _ (HR.out.p.below (by go_grown)) Q.out.1 (Int.le_refl _)).mono ?_
  rintro e w1 ⟨rfl, rfl⟩
  rw [E1.out]
  go_wp2_with fail
  refine (szStateS_small _ _ _ x.sQ _ _ (HR.out.s.below (by go_grown)) Q.out.2.1.1 Q.out.2.1.2).mono ?_
  rintro e w2 ⟨rfl, b2⟩
  rw [show ((sumL (lenS fun i => (x.sQ i).s) x.sn : Nat) : Int) = (sumL (lenS x.sS) x.sn : Nat) from rfl, E2.out]
  have B2 : Hid (Below w.heap.size w w2) := below_up (by go_grown) b2 (by simp)
  have hw2 := b2.size
  obtain ⟨hc2, hf2⟩ := bcell b2
  clear b2
  go_wp2_with fail
  refine (szItemSS_small _ _ _ _ x.wL _ _ _ (HR.out.w.below B2.out) Q.out.2.2.1.1 Q.out.2.2.1.2).mono ?_
  rintro e w3 ⟨rfl, rfl⟩
  rw [E3.out]
  go_wp2_with fail
  refine (szEventSS_small _ _ _ _ x.hL _ _ _ (HR.out.h.below B2.out) Q.out.2.2.2.1 Q.out.2.2.2.2).mono ?_
  rintro e w4 ⟨rfl, rfl⟩
  rw [E4.out]
  go_wp2
  go_ret
  exact ⟨rfl, B2.out⟩

set_option maxRecDepth 100000 in
set_option maxHeartbeats 1000000 in
theorem szSys_great (x : SysIn) (w : World) (hr : x.Row w) (hm : x.Max) (h : 1048576 < x.size) :
    Calls Try.prog 4 #[sysV x.pa x.pn x.pc x.sa x.sn x.sc x.wa x.wn x.wc x.ha x.hn x.hc, .int .i64 1048576] w fun e w' => e = .returned (.int .i64 (-1)) ∧ Below w.heap.size w w' := by
  have HR : Hid (x.Row w) := hr
  have HM : Hid x.Max := hm
  have hh : x.size = x.pn + sumL x.pL x.pn + (x.sn + sumL (lenS x.sS) x.sn) + (x.wn + sumL x.wL x.wn) + (x.hn + sumL x.hL x.hn) := rfl
  have HH : Hid (1048576 < x.pn + sumL x.pL x.pn + (x.sn + sumL (lenS x.sS) x.sn) + (x.wn + sumL x.wL x.wn) + (x.hn + sumL x.hL x.hn)) := hh ▸ h
  clear hr h hh hm
  by_cases q1 : (x.pn : Int) + (sumL x.pL x.pn : Nat) ≤ 1048576
  case neg =>
    have Q1 : Hid (1048576 < (x.pn : Int) + (sumL x.pL x.pn : Nat)) := by show 1048576 < _; omega
    clear q1
    go_enter Try.func4, Try.ntmps4
    go_wp2_with fail
    refine (szInsSS_great _ _ _ _ x.pL _ _ _ (HR.out.p.below (by go_grown)) Q1.out (by omega) (Int.le_refl _) HM.out.p.1 HM.out.p.2).mono ?_
    rintro e w1 ⟨rfl, rfl⟩
    go_wp2
    go_ret
    exact ⟨rfl, by go_grown⟩
  generalize e1 : (1048576 : Int) - x.pn - (sumL x.pL x.pn : Nat) = L1
  have E1 : Hid ((1048576 : Int) - x.pn - (sumL x.pL x.pn : Nat) = L1) := e1
  have n1 : ¬ L1 < 0 := by omega
  have n1' : 0 ≤ L1 ∧ L1 ≤ 1048576 := by omega
  have N1 : Hid (0 ≤ L1 ∧ L1 ≤ 1048576) := n1'
  have Q1 : Hid ((x.pn : Int) + (sumL x.pL x.pn : Nat) ≤ 1048576) := q1
  by_cases q2 : (x.sn : Int) + (sumL (lenS x.sS) x.sn : Nat) ≤ L1
  case neg =>
    have Q2 : Hid (L1 < (x.sn : Int) + (sumL (lenS x.sS) x.sn : Nat)) := by show L1 < _; omega
    clear q1 q2 e1 n1'
    go_enter Try.func4, Try.ntmps4
    go_wp2_with fail
    refine (szInsSS_small _ _ _ _ x.pL _ _ _ (HR.out.p.below (by go_grown)) Q1.out (Int.le_refl _)).mono ?_
    rintro e w1 ⟨rfl, rfl⟩
    rw [E1.out]
    go_wp2_with fail
    refine (szStateS_great _ _ _ x.sQ _ _ (HR.out.s.below (by go_grown)) Q2.out N1.out.1 N1.out.2 HM.out.s.1 HM.out.s.2).mono ?_
    rintro e w2 ⟨rfl, b2⟩
    have B2 : Hid (Below w.heap.size w w2) := below_up (by go_grown) b2 (by simp)
    go_wp2
    go_ret
    exact ⟨rfl, B2.out⟩
  generalize e2 : L1 - x.sn - (sumL (lenS x.sS) x.sn : Nat) = L2
  have E2 : Hid (L1 - x.sn - (sumL (lenS x.sS) x.sn : Nat) = L2) := e2
  have n2 : ¬ L2 < 0 := by omega
  have n2' : 0 ≤ L2 ∧ L2 ≤ 1048576 := by omega
  have N2 : Hid (0 ≤ L2 ∧ L2 ≤ 1048576) := n2'
  have Q2 : Hid ((x.sn : Int) + (sumL (lenS x.sS) x.sn : Nat) ≤ L1) := q2
  by_cases q3 : (x.wn : Int) + (sumL x.wL x.wn : Nat) ≤ L2
  case neg =>
    have Q3 : Hid (L2 < (x.wn : Int) + (sumL x.wL x.wn : Nat)) := by show L2 < _; omega
    clear q1 q2 q3 e1 e2 n1' n2'
    go_enter Try.func4, Try.ntmps4
    go_wp2_with fail
    refine (szInsSS_small _ _ _ _ x.pL _ _ _ (HR.out.p.below (by go_grown)) Q1.out (Int.le_refl _)).mono ?_
    rintro e w1 ⟨rfl, rfl⟩
    rw [E1.out]
    go_wp2_with fail
    refine (szStateS_small _ _ _ x.sQ _ _ (HR.out.s.below (by go_grown)) Q2.out N1.out.2).mono ?_
    rintro e w2 ⟨rfl, b2⟩
    rw [show ((sumL (lenS fun i => (x.sQ i).s) x.sn : Nat) : Int) = (sumL (lenS x.sS) x.sn : Nat) from rfl, E2.out]
    have B2 : Hid (Below w.heap.size w w2) := below_up (by go_grown) b2 (by simp)
    have hw2 := b2.size
    obtain ⟨hc2, hf2⟩ := bcell b2
    clear b2
    go_wp2_with fail
    refine (szItemSS_great _ _ _ _ x.wL _ _ _ (HR.out.w.below B2.out) Q3.out N2.out.1 N2.out.2 HM.out.w.1 HM.out.w.2).mono ?_
    rintro e w3 ⟨rfl, rfl⟩
    go_wp2
    go_ret
    exact ⟨rfl, B2.out⟩
  generalize e3 : L2 - x.wn - (sumL x.wL x.wn : Nat) = L3
  have E3 : Hid (L2 - x.wn - (sumL x.wL x.wn : Nat) = L3) := e3
  have n3 : ¬ L3 < 0 := by omega
  have n3' : 0 ≤ L3 ∧ L3 ≤ 1048576 := by omega
  have N3 : Hid (0 ≤ L3 ∧ L3 ≤ 1048576) := n3'
  have Q3 : Hid ((x.wn : Int) + (sumL x.wL x.wn : Nat) ≤ L2) := q3
  have Q4 : Hid (L3 < (x.hn : Int) + (sumL x.hL x.hn : Nat)) := by
    show L3 < _
    have := HH.out
    omega
  clear q1 q2 q3 e1 e2 e3 n1' n2' n3' HH
  go_enter Try.func4, Try.ntmps4
  go_wp2_with fail
  refine (szInsSS_small _ _ _ _ x.pL _ _ _ (HR.out.p.below (by go_grown)) Q1.out (Int.le_refl _)).mono ?_
  rintro e w1 ⟨rfl, rfl⟩
  rw [E1.out]
  go_wp2_with fail
  refine (szStateS_small _ _ _ x.sQ _ _ (HR.out.s.below (by go_grown)) Q2.out N1.out.2).mono ?_
  rintro e w2 ⟨rfl, b2⟩
  rw [show ((sumL (lenS fun i => (x.sQ i).s) x.sn : Nat) : Int) = (sumL (lenS x.sS) x.sn : Nat) from rfl, E2.out]
  have B2 : Hid (Below w.heap.size w w2) := below_up (by go_grown) b2 (by simp)
  have hw2 := b2.size
  obtain ⟨hc2, hf2⟩ := bcell b2
  clear b2
  go_wp2_with fail
  refine (szItemSS_small _ _ _ _ x.wL _ _ _ (HR.out.w.below B2.out) Q3.out N2.out.2).mono ?_
  rintro e w3 ⟨rfl, rfl⟩
  rw [E3.out]
  go_wp2_with fail
  refine (szEventSS_great _ _ _ _ x.hL _ _ _ (HR.out.h.below B2.out) Q4.out N3.out.1 N3.out.2 HM.out.h.1 HM.out.h.2).mono ?_
  rintro e w4 ⟨rfl, rfl⟩
  go_wp2
  go_ret
  exact ⟨rfl, B2.out⟩

/-- A copy of a system: four lists, each behind the last. -/
structure OutSys (w : World) (lo hi : Nat) (x : SysIn) (v : Value) (D1 D2 D3 D4 : Nat) (b1 : Nat → Nat) (vs : Nat → Value) (b3 b4 : Nat → Nat) (h1 h2 h3 : Nat) : Prop where
  val : v = sysV (some ⟨D1, 0, none⟩) x.pn x.pn (some ⟨D2, 0, none⟩) x.sn x.sn (some ⟨D3, 0, none⟩) x.wn x.wn (some ⟨D4, 0, none⟩) x.hn x.hn
  pp : OutIns w D1 h1 x.pn x.pL b1 x.pH
  ss : OutState w D2 h2 x.sn x.sS vs
  ww : OutItem w D3 h3 x.wn x.wL b3 x.wH
  hh : OutEvent w D4 hi x.hn x.hL b4 x.hH
  lo : lo ≤ D1
  o1 : h1 ≤ D2
  o2 : h2 ≤ D3
  o3 : h3 ≤ D4
def IsSys (w : World) (lo hi : Nat) (x : SysIn) (v : Value) : Prop := ∃ D1 D2 D3 D4 b1 vs b3 b4 h1 h2 h3, OutSys w lo hi x v D1 D2 D3 D4 b1 vs b3 b4 h1 h2 h3
theorem OutSys.hi {w : World} {lo hi : Nat} {x : SysIn} {v : Value} {D1 D2 D3 D4 : Nat} {b1 : Nat → Nat} {vs : Nat → Value} {b3 b4 : Nat → Nat} {h1 h2 h3 : Nat} (o : OutSys w lo hi x v D1 D2 D3 D4 b1 vs b3 b4 h1 h2 h3) : h1 ≤ hi ∧ h2 ≤ hi ∧ h3 ≤ hi ∧ hi ≤ w.heap.size ∧ lo < hi := by
  have := o.pp.lt
  have := o.ss.lt
  have := o.ww.lt
  have := o.hh.lt
  have := o.lo
  have := o.o1
  have := o.o2
  have := o.o3
  have := o.hh.le
  omega
theorem IsSys.below {w w' : World} {lo hi : Nat} {x : SysIn} {v : Value} {B : Nat} (o : IsSys w lo hi x v) (hb : Below B w w') (hB : hi ≤ B) : IsSys w' lo hi x v := by
  obtain ⟨D1, D2, D3, D4, b1, vs, b3, b4, h1, h2, h3, o⟩ := o
  obtain ⟨q1, q2, q3, -, -⟩ := o.hi
  exact ⟨D1, D2, D3, D4, b1, vs, b3, b4, h1, h2, h3, o.val, o.pp.below hb (by omega), o.ss.below hb (by omega), o.ww.below hb (by omega), o.hh.below hb hB, o.lo, o.o1, o.o2, o.o3⟩

end Go.Proofs.Ytfbjeabpibnacaa
