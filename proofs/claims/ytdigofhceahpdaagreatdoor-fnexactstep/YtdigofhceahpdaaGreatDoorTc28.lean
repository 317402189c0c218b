/- A region that draws its order, whose last operations write what others of it read: what is read may be taken first, so long as all that writes it waits for that. -/
import Derived.Test.YtdigofhceahpdaaGreatDoorTc0
import Derived.Test.YtdigofhceahpdaaGreatDoorTc26
import Derived.Test.YtdigofhceahpdaaGreatDoorTc17
import Derived.Test.YtdigofhceahpdaaGreatDoorTc18
import Derived.Test.YtdigofhceahpdaaGreatDoorTc15
import Derived.Test.YtdigofhceahpdaaGreatDoorTc22
import Derived.Test.YtdigofhceahpdaaGreatDoorTc16
import Derived.Test.YtdigofhceahpdaaGreatDoorTc27
import Derived.Test.YtdigofhceahpdaaGreatDoorTc14
import Derived.Defers
import Derived.Deep.LoopGhost
import Derived.Deep.Cut
import Derived.Deep.MidRow
import Derived.Laws.EntriesVeiled
import Derived.Maps.AppendAt
import Derived.OneCell
import Derived.Test.YtdigofhceahpdaaGreatDoorRows
import Derived.OrdersHeld
import Derived.Deep.RegionHeld3
namespace Go.Proofs.YtdigofhceahpdaaGreatDoor
set_option maxRecDepth 100000
set_option maxHeartbeats 2000000
open Go.ChangeShapes Go.WideShapes Go.ChangeAt Go.RowKit Go.Deep
theorem open_stateCells {H : Type} {enc : TypeId × Value → H} {w : World} {base fuel : Nat} {held : Bool} {c0 c1 c2 c3 : Value} {x : DataW H × List MemPlace}
  (hf' : DataW.trod enc Tryz.prog w base (fun _ => true) held fuel 115 [c0, c1, c2, c3] = some x) :
  ∃ q : St8, (c0 = .int .i64 q.p ∧ c1 = .slice q.ra q.rs.length q.rc ∧ c2 = .slice q.oa q.os.length q.oc ∧ c3 = .int .i64 q.c) ∧ (q.rs.length ≤ maxLen ∧ q.os.length ≤ maxLen) ∧ Sl w q.ra q.rs ∧ Sl w q.oa q.os := by
 obtain ⟨xs, m, -, -, -, hl, hx⟩ := DataW.trod_struct Tryz.underlying115 hf'
 have hl : xs.length = 4 := hl
 have q0 : DataW.trod enc Tryz.prog w base (fun _ => true) held m 3 [c0] = xs[0]? := by simpa [cellsInt] using hx 0 _ rfl
 have q1 : DataW.trod enc Tryz.prog w base (fun _ => true) held m 52 [c1] = xs[1]? := by simpa [cellsInts] using hx 1 _ rfl
 have q2 : DataW.trod enc Tryz.prog w base (fun _ => true) held m 52 [c2] = xs[2]? := by simpa [cellsInts] using hx 2 _ rfl
 have q3 : DataW.trod enc Tryz.prog w base (fun _ => true) held m 3 [c3] = xs[3]? := by simpa [cellsInt] using hx 3 _ rfl
 rw [List.getElem?_eq_getElem (by omega)] at q0 q1 q2 q3
 obtain ⟨z0, e0, -, -⟩ := DataW.trod_int Tryz.underlying3 q0
 obtain ⟨z3, e3, -, -⟩ := DataW.trod_int Tryz.underlying3 q3
 obtain ⟨ra, rc, rs, rfl, hr, h1⟩ := open_intRow q1
 obtain ⟨oa, oc, os, rfl, ho, h2⟩ := open_intRow q2
 simp only [List.cons.injEq, and_true] at e0 e3
 subst e0 e3
 exact ⟨⟨z0, ra, rc, rs, oa, oc, os, z3⟩, ⟨rfl, rfl, rfl, rfl⟩, ⟨hr, ho⟩, h1, h2⟩
theorem open_StateS {H : Type} {enc : TypeId × Value → H} {w : World} {held : Bool} {base : Nat} {a0 : Option Addr} {len cap : Nat} {d : DataW H} {p : List MemPlace}
  (h : DataW.Trod enc Tryz.prog w base (fun _ => true) held 38 (.slice a0 len cap) d p) :
  len ≤ maxLen ∧ ∃ q, AllState w a0 len q ∧ ∀ i, i < len → (q i).rs.length ≤ maxLen ∧ (q i).os.length ≤ maxLen := by
 obtain ⟨fuel, hf⟩ := h
 have inh : Inhabited St8 := ⟨⟨0, none, 0, [], none, 0, [], 0⟩⟩
 rcases Go.Deep.open_slice Tryz.underlying38 hf with ⟨hcs, _⟩ | ⟨a, len', cap', m, n, D, Pl, hcs, _, hl, hm, hmm, _, hx⟩
 ·simp [Value.cells] at hcs
  obtain ⟨_, rfl, _⟩ := hcs
  exact ⟨Nat.zero_le _, fun _ => default, ⟨.inl rfl, fun i hi => by omega⟩, fun i hi => by omega⟩
 ·simp [Value.cells] at hcs
  obtain ⟨rfl, rfl, rfl⟩ := hcs
  refine ⟨Nat.le_trans hl hm, ?_⟩
  have hle : len ≤ m := by rw [hmm]; split <;> omega
  rw [cellsLawState] at hx
  obtain ⟨b, off, spot⟩ := a
  have hcell : ∀ i, i < len → ∃ q : St8, (w.cell? (Addr.add (Addr.add ⟨b, off, spot⟩ (i * 4)) 0) = some (.int .i64 q.p) ∧ w.cell? (Addr.add (Addr.add ⟨b, off, spot⟩ (i * 4)) 1) = some (.slice q.ra q.rs.length q.rc) ∧ w.cell? (Addr.add (Addr.add ⟨b, off, spot⟩ (i * 4)) 2) = some (.slice q.oa q.os.length q.oc) ∧ w.cell? (Addr.add (Addr.add ⟨b, off, spot⟩ (i * 4)) 3) = some (.int .i64 q.c)) ∧ (q.rs.length ≤ maxLen ∧ q.os.length ≤ maxLen) ∧ Sl w q.ra q.rs ∧ Sl w q.oa q.os := by
   intro i hi
   obtain ⟨cs', h1, h2⟩ := hx i (by omega)
   obtain ⟨_, hlen, hc⟩ := World.cells?_some h1
   match cs', hlen with
   | [c0, c1, c2, c3], _ =>
    obtain ⟨q, ⟨rfl, rfl, rfl, rfl⟩, hb, hs⟩ := open_stateCells h2
    exact ⟨q, ⟨hc 0 (by omega), hc 1 (by omega), hc 2 (by omega), hc 3 (by omega)⟩, hb, hs⟩
  obtain ⟨g, hg⟩ := Go.Deep.choose_lt (α := St8) hcell
  refine ⟨g, ⟨?_, fun i hi => (hg i hi).2.2⟩, fun i hi => (hg i hi).2.1⟩
  by_cases h0 : len = 0
  ·exact .inl h0
  have hspot : spot = none := by
   have hx0 := (hg 0 (by omega)).1.1
   simpa [Addr.add] using World.cell?_spot hx0
  subst hspot
  have hI : ∀ i, i < len → w.cell? ⟨b, off + i * 4, none⟩ = some (.int .i64 (g i).p) ∧ w.cell? ⟨b, off + i * 4 + 1, none⟩ = some (.slice (g i).ra (g i).rs.length (g i).rc) ∧ w.cell? ⟨b, off + i * 4 + 2, none⟩ = some (.slice (g i).oa (g i).os.length (g i).oc) ∧ w.cell? ⟨b, off + i * 4 + 3, none⟩ = some (.int .i64 (g i).c) := by
   intro i hi
   obtain ⟨⟨q0, q1, q2, q3⟩, -⟩ := hg i hi
   rw [addr_addO, addr_addO] at q0 q1 q2 q3
   exact ⟨q0, q1, q2, q3⟩
  exact .inr ⟨b, off, rfl, cell_lt (hI 0 (by omega)).1, hI⟩
structure SysIn where
 pa : Option Addr
 pn : Nat
 pc : Nat
 pA : Nat → Option Addr
 pL : Nat → Nat
 pC : Nat → Nat
 pH : Nat → Nat → I5
 sa : Option Addr
 sn : Nat
 sc : Nat
 sQ : Nat → St8
 wa : Option Addr
 wn : Nat
 wc : Nat
 wA : Nat → Option Addr
 wL : Nat → Nat
 wC : Nat → Nat
 wH : Nat → Nat → I2
 ha : Option Addr
 hn : Nat
 hc : Nat
 hA : Nat → Option Addr
 hL : Nat → Nat
 hC : Nat → Nat
 hH : Nat → Nat → E3
def SysIn.sS (x : SysIn) : Nat → S4 := fun i => (x.sQ i).s
def SysIn.size (x : SysIn) : Nat := x.pn + sumL x.pL x.pn + (x.sn + sumL (lenS x.sS) x.sn) + (x.wn + sumL x.wL x.wn) + (x.hn + sumL x.hL x.hn)
abbrev sysV (pa : Option Addr) (pn pc : Nat) (sa : Option Addr) (sn sc : Nat) (wa : Option Addr) (wn wc : Nat) (ha : Option Addr) (hn hc : Nat) : Value := .agg #[.slice pa pn pc, .slice sa sn sc, .slice wa wn wc, .slice ha hn hc]
structure SysIn.Row (W : World) (x : SysIn) : Prop where
 p : RowS W x.pa x.pn fun i => .slice (x.pA i) (x.pL i) (x.pC i)
 s : AllState W x.sa x.sn x.sQ
 w : RowS W x.wa x.wn fun i => .slice (x.wA i) (x.wL i) (x.wC i)
 h : RowS W x.ha x.hn fun i => .slice (x.hA i) (x.hL i) (x.hC i)
structure SysIn.Max (x : SysIn) : Prop where
 p : x.pn ≤ maxLen ∧ ∀ i, i < x.pn → x.pL i ≤ maxLen
 s : x.sn ≤ maxLen ∧ ∀ i, i < x.sn → (x.sQ i).rs.length ≤ maxLen ∧ (x.sQ i).os.length ≤ maxLen
 w : x.wn ≤ maxLen ∧ ∀ i, i < x.wn → x.wL i ≤ maxLen
 h : x.hn ≤ maxLen ∧ ∀ i, i < x.hn → x.hL i ≤ maxLen
structure SysIn.Ok (W : World) (x : SysIn) : Prop where
 p : AllIns W x.pa x.pn x.pA x.pL x.pC x.pH
 s : AllState W x.sa x.sn x.sQ
 w : AllItem W x.wa x.wn x.wA x.wL x.wC x.wH
 h : AllEvent W x.ha x.hn x.hA x.hL x.hC x.hH
theorem SysIn.Ok.row {W : World} {x : SysIn} (h : x.Ok W) : x.Row W := ⟨h.p.row, h.s, h.w.row, h.h.row⟩
theorem SysIn.Row.below {W w : World} {x : SysIn} (h : x.Row W) (hb : Below W.heap.size W w) : x.Row w := ⟨h.p.below hb, h.s.below hb, h.w.below hb, h.h.below hb⟩
theorem szSys_small (x : SysIn) (w : World) (hr : x.Row w) (h : x.size ≤ 1048576) :
  Calls Tryz.prog 15 #[sysV x.pa x.pn x.pc x.sa x.sn x.sc x.wa x.wn x.wc x.ha x.hn x.hc, .int .i64 1048576] w fun e w' => e = .returned (.int .i64 (1048576 - (x.size : Nat))) ∧ Below w.heap.size w w' := by
 have HR : Hid (x.Row w) := hr
 have hh : x.size = x.pn + sumL x.pL x.pn + (x.sn + sumL (lenS x.sS) x.sn) + (x.wn + sumL x.wL x.wn) + (x.hn + sumL x.hL x.hn) := rfl
 generalize e1 : (1048576 : Int) - x.pn - (sumL x.pL x.pn : Nat) = L1
 generalize e2 : L1 - x.sn - (sumL (lenS x.sS) x.sn : Nat) = L2
 generalize e3 : L2 - x.wn - (sumL x.wL x.wn : Nat) = L3
 have n1 : ¬ L1 < 0 := by omega
 have n2 : ¬ L2 < 0 := by omega
 have n3 : ¬ L3 < 0 := by omega
 have n4 : ¬ L3 - x.hn - (sumL x.hL x.hn : Nat) < 0 := by omega
 have q1 : ((x.pn : Int) + (sumL x.pL x.pn : Nat) ≤ 1048576) := by omega
 have q2 : ((x.sn : Int) + (sumL (lenS x.sS) x.sn : Nat) ≤ L1) ∧ L1 ≤ 1048576 := by omega
 have q3 : ((x.wn : Int) + (sumL x.wL x.wn : Nat) ≤ L2) ∧ L2 ≤ 1048576 := by omega
 have q4 : ((x.hn : Int) + (sumL x.hL x.hn : Nat) ≤ L3) ∧ L3 ≤ 1048576 := by omega
 have e4 : L3 - x.hn - (sumL x.hL x.hn : Nat) = 1048576 - (x.size : Nat) := by omega
 have E1 : Hid ((1048576 : Int) - x.pn - (sumL x.pL x.pn : Nat) = L1) := e1
 have E2 : Hid (L1 - x.sn - (sumL (lenS x.sS) x.sn : Nat) = L2) := e2
 have E3 : Hid (L2 - x.wn - (sumL x.wL x.wn : Nat) = L3) := e3
 have E4 : Hid (L3 - x.hn - (sumL x.hL x.hn : Nat) = 1048576 - (x.size : Nat)) := e4
 have Q : Hid (((x.pn : Int) + (sumL x.pL x.pn : Nat) ≤ 1048576) ∧ (((x.sn : Int) + (sumL (lenS x.sS) x.sn : Nat) ≤ L1) ∧ L1 ≤ 1048576) ∧ (((x.wn : Int) + (sumL x.wL x.wn : Nat) ≤ L2) ∧ L2 ≤ 1048576) ∧ (((x.hn : Int) + (sumL x.hL x.hn : Nat) ≤ L3) ∧ L3 ≤ 1048576)) := ⟨q1, q2, q3, q4⟩
 rw [e4] at n4
 clear hr h hh e1 e2 e3 e4 q1 q2 q3 q4
 go_enter Tryz.func15, Tryz.ntmps15
 go_wp2_with fail
 refine (szInsSS_small _ _ _ _ x.pL _ _ _ (HR.out.p.below (by go_grown)) Q.out.1 (Int.le_refl _)).mono ?_
 rintro e w1 ⟨rfl, rfl⟩
 rw [E1.out]
 go_wp2_with fail
 refine (szStateS_small _ _ _ x.sQ _ _ (HR.out.s.below (by go_grown)) Q.out.2.1.1 Q.out.2.1.2).mono ?_
 rintro e w2 ⟨rfl, b2⟩
 rw [show ((sumL (lenS fun i => (x.sQ i).s) x.sn : Nat) : Int) = (sumL (lenS x.sS) x.sn : Nat) from rfl, E2.out]
 have B2 : Hid (Below w.heap.size w w2) := below_up (by go_grown) b2 (by simp)
 have hw2 := b2.size
 obtain ⟨hc2, hf2⟩ := bcell b2
 clear b2
 go_wp2_with fail
 refine (szItemSS_small _ _ _ _ x.wL _ _ _ (HR.out.w.below B2.out) Q.out.2.2.1.1 Q.out.2.2.1.2).mono ?_
 rintro e w3 ⟨rfl, rfl⟩
 rw [E3.out]
 go_wp2_with fail
 refine (szEventSS_small _ _ _ _ x.hL _ _ _ (HR.out.h.below B2.out) Q.out.2.2.2.1 Q.out.2.2.2.2).mono ?_
 rintro e w4 ⟨rfl, rfl⟩
 rw [E4.out]
 go_wp2
 go_ret
 exact ⟨rfl, B2.out⟩
theorem szSys_great (x : SysIn) (w : World) (hr : x.Row w) (hm : x.Max) (h : 1048576 < x.size) :
  Calls Tryz.prog 15 #[sysV x.pa x.pn x.pc x.sa x.sn x.sc x.wa x.wn x.wc x.ha x.hn x.hc, .int .i64 1048576] w fun e w' => e = .returned (.int .i64 (-1)) ∧ Below w.heap.size w w' := by
 have HR : Hid (x.Row w) := hr
 have HM : Hid x.Max := hm
 have hh : x.size = x.pn + sumL x.pL x.pn + (x.sn + sumL (lenS x.sS) x.sn) + (x.wn + sumL x.wL x.wn) + (x.hn + sumL x.hL x.hn) := rfl
 have HH : Hid (1048576 < x.pn + sumL x.pL x.pn + (x.sn + sumL (lenS x.sS) x.sn) + (x.wn + sumL x.wL x.wn) + (x.hn + sumL x.hL x.hn)) := hh ▸ h
 clear hr h hh hm
 by_cases q1 : (x.pn : Int) + (sumL x.pL x.pn : Nat) ≤ 1048576
 case neg =>
  have Q1 : Hid (1048576 < (x.pn : Int) + (sumL x.pL x.pn : Nat)) := by show 1048576 < _; omega
  clear q1
  go_enter Tryz.func15, Tryz.ntmps15
  go_wp2_with fail
  refine (szInsSS_great _ _ _ _ x.pL _ _ _ (HR.out.p.below (by go_grown)) Q1.out (by omega) (Int.le_refl _) HM.out.p.1 HM.out.p.2).mono ?_
  rintro e w1 ⟨rfl, rfl⟩
  go_wp2
  go_ret
  exact ⟨rfl, by go_grown⟩
 generalize e1 : (1048576 : Int) - x.pn - (sumL x.pL x.pn : Nat) = L1
 have E1 : Hid ((1048576 : Int) - x.pn - (sumL x.pL x.pn : Nat) = L1) := e1
 have n1 : ¬ L1 < 0 := by omega
 have n1' : 0 ≤ L1 ∧ L1 ≤ 1048576 := by omega
 have N1 : Hid (0 ≤ L1 ∧ L1 ≤ 1048576) := n1'
 have Q1 : Hid ((x.pn : Int) + (sumL x.pL x.pn : Nat) ≤ 1048576) := q1
 by_cases q2 : (x.sn : Int) + (sumL (lenS x.sS) x.sn : Nat) ≤ L1
 case neg =>
  have Q2 : Hid (L1 < (x.sn : Int) + (sumL (lenS x.sS) x.sn : Nat)) := by show L1 < _; omega
  clear q1 q2 e1 n1'
  go_enter Tryz.func15, Tryz.ntmps15
  go_wp2_with fail
  refine (szInsSS_small _ _ _ _ x.pL _ _ _ (HR.out.p.below (by go_grown)) Q1.out (Int.le_refl _)).mono ?_
  rintro e w1 ⟨rfl, rfl⟩
  rw [E1.out]
  go_wp2_with fail
  refine (szStateS_great _ _ _ x.sQ _ _ (HR.out.s.below (by go_grown)) Q2.out N1.out.1 N1.out.2 HM.out.s.1 HM.out.s.2).mono ?_
  rintro e w2 ⟨rfl, b2⟩
  have B2 : Hid (Below w.heap.size w w2) := below_up (by go_grown) b2 (by simp)
  go_wp2
  go_ret
  exact ⟨rfl, B2.out⟩
 generalize e2 : L1 - x.sn - (sumL (lenS x.sS) x.sn : Nat) = L2
 have E2 : Hid (L1 - x.sn - (sumL (lenS x.sS) x.sn : Nat) = L2) := e2
 have n2 : ¬ L2 < 0 := by omega
 have n2' : 0 ≤ L2 ∧ L2 ≤ 1048576 := by omega
 have N2 : Hid (0 ≤ L2 ∧ L2 ≤ 1048576) := n2'
 have Q2 : Hid ((x.sn : Int) + (sumL (lenS x.sS) x.sn : Nat) ≤ L1) := q2
 by_cases q3 : (x.wn : Int) + (sumL x.wL x.wn : Nat) ≤ L2
 case neg =>
  have Q3 : Hid (L2 < (x.wn : Int) + (sumL x.wL x.wn : Nat)) := by show L2 < _; omega
  clear q1 q2 q3 e1 e2 n1' n2'
  go_enter Tryz.func15, Tryz.ntmps15
  go_wp2_with fail
  refine (szInsSS_small _ _ _ _ x.pL _ _ _ (HR.out.p.below (by go_grown)) Q1.out (Int.le_refl _)).mono ?_
  rintro e w1 ⟨rfl, rfl⟩
  rw [E1.out]
  go_wp2_with fail
  refine (szStateS_small _ _ _ x.sQ _ _ (HR.out.s.below (by go_grown)) Q2.out N1.out.2).mono ?_
  rintro e w2 ⟨rfl, b2⟩
  rw [show ((sumL (lenS fun i => (x.sQ i).s) x.sn : Nat) : Int) = (sumL (lenS x.sS) x.sn : Nat) from rfl, E2.out]
  have B2 : Hid (Below w.heap.size w w2) := below_up (by go_grown) b2 (by simp)
  have hw2 := b2.size
  obtain ⟨hc2, hf2⟩ := bcell b2
  clear b2
  go_wp2_with fail
  refine (szItemSS_great _ _ _ _ x.wL _ _ _ (HR.out.w.below B2.out) Q3.out N2.out.1 N2.out.2 HM.out.w.1 HM.out.w.2).mono ?_
  rintro e w3 ⟨rfl, rfl⟩
  go_wp2
  go_ret
  exact ⟨rfl, B2.out⟩
 generalize e3 : L2 - x.wn - (sumL x.wL x.wn : Nat) = L3
 have E3 : Hid (L2 - x.wn - (sumL x.wL x.wn : Nat) = L3) := e3
 have n3 : ¬ L3 < 0 := by omega
 have n3' : 0 ≤ L3 ∧ L3 ≤ 1048576 := by omega
 have N3 : Hid (0 ≤ L3 ∧ L3 ≤ 1048576) := n3'
 have Q3 : Hid ((x.wn : Int) + (sumL x.wL x.wn : Nat) ≤ L2) := q3
 have Q4 : Hid (L3 < (x.hn : Int) + (sumL x.hL x.hn : Nat)) := by
  show L3 < _
  have := HH.out
  omega
 clear q1 q2 q3 e1 e2 e3 n1' n2' n3' HH
 go_enter Tryz.func15, Tryz.ntmps15
 go_wp2_with fail
 refine (szInsSS_small _ _ _ _ x.pL _ _ _ (HR.out.p.below (by go_grown)) Q1.out (Int.le_refl _)).mono ?_
 rintro e w1 ⟨rfl, rfl⟩
 rw [E1.out]
 go_wp2_with fail
 refine (szStateS_small _ _ _ x.sQ _ _ (HR.out.s.below (by go_grown)) Q2.out N1.out.2).mono ?_
 rintro e w2 ⟨rfl, b2⟩
 rw [show ((sumL (lenS fun i => (x.sQ i).s) x.sn : Nat) : Int) = (sumL (lenS x.sS) x.sn : Nat) from rfl, E2.out]
 have B2 : Hid (Below w.heap.size w w2) := below_up (by go_grown) b2 (by simp)
 have hw2 := b2.size
 obtain ⟨hc2, hf2⟩ := bcell b2
 clear b2
 go_wp2_with fail
 refine (szItemSS_small _ _ _ _ x.wL _ _ _ (HR.out.w.below B2.out) Q3.out N2.out.2).mono ?_
 rintro e w3 ⟨rfl, rfl⟩
 rw [E3.out]
 go_wp2_with fail
 refine (szEventSS_great _ _ _ _ x.hL _ _ _ (HR.out.h.below B2.out) Q4.out N3.out.1 N3.out.2 HM.out.h.1 HM.out.h.2).mono ?_
 rintro e w4 ⟨rfl, rfl⟩
 go_wp2
 go_ret
 exact ⟨rfl, B2.out⟩
structure OutSys (w : World) (lo hi : Nat) (x : SysIn) (v : Value) (D1 D2 D3 D4 : Nat) (b1 : Nat → Nat) (vs : Nat → Value) (b3 b4 : Nat → Nat) (h1 h2 h3 : Nat) : Prop where
 val : v = sysV (some ⟨D1, 0, none⟩) x.pn x.pn (some ⟨D2, 0, none⟩) x.sn x.sn (some ⟨D3, 0, none⟩) x.wn x.wn (some ⟨D4, 0, none⟩) x.hn x.hn
 pp : OutIns w D1 h1 x.pn x.pL b1 x.pH
 ss : OutState w D2 h2 x.sn x.sS vs
 ww : OutItem w D3 h3 x.wn x.wL b3 x.wH
 hh : OutEvent w D4 hi x.hn x.hL b4 x.hH
 lo : lo ≤ D1
 o1 : h1 ≤ D2
 o2 : h2 ≤ D3
 o3 : h3 ≤ D4
def IsSys (w : World) (lo hi : Nat) (x : SysIn) (v : Value) : Prop := ∃ D1 D2 D3 D4 b1 vs b3 b4 h1 h2 h3, OutSys w lo hi x v D1 D2 D3 D4 b1 vs b3 b4 h1 h2 h3
theorem OutSys.hi {w : World} {lo hi : Nat} {x : SysIn} {v : Value} {D1 D2 D3 D4 : Nat} {b1 : Nat → Nat} {vs : Nat → Value} {b3 b4 : Nat → Nat} {h1 h2 h3 : Nat} (o : OutSys w lo hi x v D1 D2 D3 D4 b1 vs b3 b4 h1 h2 h3) : h1 ≤ hi ∧ h2 ≤ hi ∧ h3 ≤ hi ∧ hi ≤ w.heap.size ∧ lo < hi := by
 have := o.pp.lt
 have := o.ss.lt
 have := o.ww.lt
 have := o.hh.lt
 have := o.lo
 have := o.o1
 have := o.o2
 have := o.o3
 have := o.hh.le
 omega
theorem IsSys.below {w w' : World} {lo hi : Nat} {x : SysIn} {v : Value} {B : Nat} (o : IsSys w lo hi x v) (hb : Below B w w') (hB : hi ≤ B) : IsSys w' lo hi x v := by
 obtain ⟨D1, D2, D3, D4, b1, vs, b3, b4, h1, h2, h3, o⟩ := o
 obtain ⟨q1, q2, q3, -, -⟩ := o.hi
 exact ⟨D1, D2, D3, D4, b1, vs, b3, b4, h1, h2, h3, o.val, o.pp.below hb (by omega), o.ss.below hb (by omega), o.ww.below hb (by omega), o.hh.below hb hB, o.lo, o.o1, o.o2, o.o3⟩
structure Tu (lo hi : Nat) (w w' : World) : Prop where
 os : w'.os = w.os
 tape : w'.tape = w.tape
 output : w'.output = w.output
 size : w.heap.size ≤ w'.heap.size
 block : ∀ k, k < w.heap.size → (k < lo ∨ hi ≤ k) → w'.heap[k]? = w.heap[k]?
theorem Tu.of_below {w w' : World} (h : Below w.heap.size w w') : Tu 0 0 w w' := ⟨h.os, h.tape, h.output, h.size, fun k hk _ => h.block k hk⟩
theorem OwnI.ofBlock {w w' : World} {B : Nat} {u : Value} {xs : List Int} (hu : OwnI w B u xs) (ha : ∀ k, u.ownBlock = some k → w'.heap[k]? = w.heap[k]?) : OwnI w' B u xs := by
 rcases hu.2 with ⟨rfl, h0⟩ | ⟨g, cap, cur, rfl, hb, hg, hr⟩
 ·exact ⟨hu.1, .inl ⟨rfl, h0⟩⟩
 ·refine ⟨hu.1, .inr ⟨g, cap, cur, rfl, hb, ?_, hr⟩⟩
  rw [ha g rfl]
  exact hg
theorem OwnI.slOf {w : World} {B n cap : Nat} {a0 : Option Addr} {xs : List Int} (h : OwnI w B (.slice a0 n cap) xs) : Sl w a0 xs := by
 obtain ⟨a1, c1, e, s⟩ := h.form
 simp only [Value.slice.injEq] at e
 obtain ⟨rfl, -, -⟩ := e
 exact s
structure Tl (w : World) (B C N : Nat) (p c : Int) (ra : Option Addr) (rn rc : Nat) (oa : Option Addr) (on oc : Nat) (rs os : List Int) : Prop where
 lo : B ≤ N
 hi : N < C
 sz : C ≤ w.heap.size
 box : BoxC w N (.int .i64 p) (.slice ra rn rc) (.slice oa on oc) (.int .i64 c)
 own : StOwn w B (stV p ra rn rc oa on oc c) p rs os c
 up : ∀ k, hasBlock (stV p ra rn rc oa on oc c) k → k < C
 ne : ¬ hasBlock (stV p ra rn rc oa on oc c) N
theorem Tl.tu {w w' : World} {B C N : Nat} {p c : Int} {ra : Option Addr} {rn rc : Nat} {oa : Option Addr} {on oc : Nat} {rs os : List Int} {lo hi : Nat} (h : Tl w B C N p c ra rn rc oa on oc rs os) (t : Tu lo hi w w') (hd : C ≤ lo ∨ hi ≤ B) : Tl w' B C N p c ra rn rc oa on oc rs os := by
 obtain ⟨h1, h2, h3, ⟨b0, b1, b2, b3⟩, h5, h6, h7⟩ := h
 have hb : ∀ k, B ≤ k → k < C → w'.heap[k]? = w.heap[k]? := fun k k1 k2 => t.block k (by omega) (by omega)
 have hN := hb N h1 h2
 refine ⟨h1, h2, Nat.le_trans h3 t.size, ⟨(World.cell?_of_block hN).trans b0, (World.cell?_of_block hN).trans b1, (World.cell?_of_block hN).trans b2, (World.cell?_of_block hN).trans b3⟩, ?_, h6, h7⟩
 obtain ⟨o1, o2, ha⟩ := h5.parts
 refine ⟨_, _, rfl, o1.ofBlock fun k hk => ?_, o2.ofBlock fun k hk => ?_, ha⟩
 ·exact hb k (o1.lt k hk).1 (h6 k ((hasBlock_iff _ _ _ _ _).2 (.inl hk)))
 ·exact hb k (o2.lt k hk).1 (h6 k ((hasBlock_iff _ _ _ _ _).2 (.inr hk)))
theorem Tl.below {w w' : World} {B C N : Nat} {p c : Int} {ra : Option Addr} {rn rc : Nat} {oa : Option Addr} {on oc : Nat} {rs os : List Int} (h : Tl w B C N p c ra rn rc oa on oc rs os) (hb : Below w.heap.size w w') : Tl w' B C N p c ra rn rc oa on oc rs os := h.tu (Tu.of_below hb) (.inr (Nat.zero_le _))
theorem Tl.sl {w : World} {B C N : Nat} {p c : Int} {ra : Option Addr} {rn rc : Nat} {oa : Option Addr} {on oc : Nat} {rs os : List Int} (h : Tl w B C N p c ra rn rc oa on oc rs os) : Sl w ra rs ∧ Sl w oa os := ⟨h.own.parts.1.slOf, h.own.parts.2.1.slOf⟩
theorem Tl.of_alloc {w : World} {B : Nat} {p c : Int} {ra oa : Option Addr} {rn rc on oc : Nat} {rs os : List Int} (h : StOwn w B (stV p ra rn rc oa on oc c) p rs os c) (hw : B ≤ w.heap.size) (t : TypeId) : Tl (w.alloc (.cells #[.int .i64 p, .slice ra rn rc, .slice oa on oc, .int .i64 c] t)) B (w.heap.size + 1) w.heap.size p c ra rn rc oa on oc rs os :=
 ⟨hw, Nat.lt_succ_self _, by simp, BoxC.new w _ _ _ _ _, h.below (below_alloc _ _), fun k hk => Nat.lt_succ_of_lt (h.lt hk).2, fun e => Nat.lt_irrefl _ (h.lt e).2⟩
def Told (w : World) (B N : Nat) (S : S4) : Prop := ∃ ra rc oa oc, BoxC w N (.int .i64 S.p) (.slice ra S.rs.length rc) (.slice oa S.os.length oc) (.int .i64 S.c) ∧ StOwn w B (stV S.p ra S.rs.length rc oa S.os.length oc S.c) S.p S.rs S.os S.c ∧ B ≤ N ∧ ¬ hasBlock (stV S.p ra S.rs.length rc oa S.os.length oc S.c) N
theorem Told.tl {w : World} {B N : Nat} {S : S4} (h : Told w B N S) : ∃ ra rc oa oc, Tl w B w.heap.size N S.p S.c ra S.rs.length rc oa S.os.length oc S.rs S.os := by
 obtain ⟨ra, rc, oa, oc, h1, h2, h3, h4⟩ := h
 exact ⟨ra, rc, oa, oc, h3, World.block_lt_of_cell? w _ h1.1, Nat.le_refl _, h1, h2, fun k hk => (h2.lt hk).2, h4⟩
theorem BoxC.set4 {w : World} {N : Nat} {z0 z1 z2 z3 : Value} (h : BoxC w N z0 z1 z2 z3) (a b c d : Value) : BoxC ((((w.setCell ⟨N, 0, none⟩ a).setCell ⟨N, 1, none⟩ b).setCell ⟨N, 2, none⟩ c).setCell ⟨N, 3, none⟩ d) N a b c d := by
 obtain ⟨h0, h1, h2, h3⟩ := h
 exact ⟨by go_cell, by go_cell, by go_cell, by go_cell⟩
theorem grown4 (w : World) (N : Nat) (a b c d : Value) : w.grownBy ((((w.setCell ⟨N, 0, none⟩ a).setCell ⟨N, 1, none⟩ b).setCell ⟨N, 2, none⟩ c).setCell ⟨N, 3, none⟩ d) (some N) := by
 repeat (refine grown_setCell ?_ (.inl rfl) _)
 exact World.grownBy.refl _ _
theorem Told.of_alloc {w : World} {B B' : Nat} {S : S4} {ra oa : Option Addr} {rc oc : Nat} (h : StOwn w B' (stV S.p ra S.rs.length rc oa S.os.length oc S.c) S.p S.rs S.os S.c) (hB : B ≤ B') (hw : B ≤ w.heap.size) (t : TypeId) : Told (w.alloc (.cells #[.int .i64 S.p, .slice ra S.rs.length rc, .slice oa S.os.length oc, .int .i64 S.c] t)) B w.heap.size S := by
 refine ⟨ra, rc, oa, oc, BoxC.new w _ _ _ _ _, ?_, hw, fun e => Nat.lt_irrefl _ (h.lt e).2⟩
 obtain ⟨vr, vo, e, o1, o2, ha⟩ := h
 exact ⟨vr, vo, e, (o1.below (below_alloc _ _)).mono hB, (o2.below (below_alloc _ _)).mono hB, ha⟩
theorem Told.of_put {w : World} {B B' N : Nat} {S : S4} {ra oa : Option Addr} {rc oc : Nat} {z0 z1 z2 z3 : Value} (h : StOwn w B' (stV S.p ra S.rs.length rc oa S.os.length oc S.c) S.p S.rs S.os S.c) (hB : B ≤ B') (hN : N < B') (hw : B ≤ N) (hZ : BoxC w N z0 z1 z2 z3) : Told ((((w.setCell ⟨N, 0, none⟩ (.int .i64 S.p)).setCell ⟨N, 1, none⟩ (.slice ra S.rs.length rc)).setCell ⟨N, 2, none⟩ (.slice oa S.os.length oc)).setCell ⟨N, 3, none⟩ (.int .i64 S.c)) B N S :=
 ⟨ra, rc, oa, oc, hZ.set4 _ _ _ _, h.put4 hN hB, hw, fun e => Nat.not_le_of_lt hN (h.lt e).1⟩
def Dx (w wr : World) (p code : Int) (ra : Option Addr) (rn rc : Nat) (oa : Option Addr) (on oc : Nat) (ek eq ev : Int) : Prop :=
 Below w.heap.size w wr ∧ BoxC wr w.heap.size (.int .i64 p) (.slice ra rn rc) (.slice oa on oc) (.int .i64 code) ∧ EvC3 wr (w.heap.size + 1) ek eq ev
def LstE (w : World) (B : Nat) (v : Value) (n : Nat) : Prop := ∃ xs, w.ownsRow B 77 3 v n xs ∧ xs.all isI = true ∧ v ≠ .slice none 0 0
theorem specStateNew_any (w : World) :
  Calls Tryz.prog 23 #[] w fun e w' => ∃ v, e = .returned v ∧ StOwn w' w.heap.size v 0 [0, 0, 0, 0] [] 0 ∧ Below w.heap.size w w' := by
 have hmk : ∀ w : World, (Instr.makeSlice 52 (.int .i64 4) (.int .i64 4)).run Tryz.prog w = .ok (.slice (some ⟨w.heap.size, 0, none⟩) 4 4) (w.alloc (.cells (madeCells #[.int .i64 0] 4) 3)) := fun w => run_make_int 4 (by omega) w
 have HM : Hid (∀ w : World, OwnI (w.alloc (.cells (madeCells #[.int .i64 0] 4) 3)) w.heap.size (.slice (some ⟨w.heap.size, 0, none⟩) 4 4) [0, 0, 0, 0]) := fun w => made_own w 4 (by omega)
 go_enter Tryz.func23, Tryz.ntmps23
 go_wp2
 have hB : w.heap.size ≤ w.heap.size + 1 := by omega
 have hM := HM.out (w.alloc (oQ2 0 (some ⟨w.heap.size + 1, 0, none⟩) 4 4 none 0 0 0))
 rw [World.size_alloc] at hM
 refine bodyPost_ret (v := stV 0 (some ⟨w.heap.size + 1, 0, none⟩) 4 4 none 0 0 0) (by simp [results, Tryz.results23, go_sem]) rfl ⟨_, rfl, ⟨_, _, rfl, hM.mono hB, World.ownsRow_nil _ _ _ _, fun k _ => by simp [Value.ownBlock]⟩, by go_grown⟩
theorem Tl.widen {w : World} {B C C' N : Nat} {p c : Int} {ra : Option Addr} {rn rc : Nat} {oa : Option Addr} {on oc : Nat} {rs os : List Int} (h : Tl w B C N p c ra rn rc oa on oc rs os) (h1 : C ≤ C') (h2 : C' ≤ w.heap.size) : Tl w B C' N p c ra rn rc oa on oc rs os :=
 ⟨h.lo, Nat.lt_of_lt_of_le h.hi h1, h2, h.box, h.own, fun k hk => Nat.lt_of_lt_of_le (h.up k hk) h1, h.ne⟩
structure Dr (w wr : World) (C W0 c len cap : Nat) (a0 : Option Addr) (Bs : Nat) (out : Value) (k : Nat) (p code : Int) (ra : Option Addr) (rc : Nat) (oa : Option Addr) (oc : Nat) (rs os : List Int) : Prop where
 ls : LstE wr w.heap.size out k
 cu : Cur wr W0 c a0 len cap
 gr : w.grownBy wr (some c)
 tl : Tl wr w.heap.size C Bs p code ra rs.length rc oa os.length oc rs os
 fz : ∀ j, wr.frozen? ⟨Bs, j, none⟩ = false
 oC : ∀ j, out.ownBlock = some j → j < C
 nB : out.ownBlock ≠ some Bs
 ap : ∀ j, hasBlock (stV p ra rs.length rc oa os.length oc code) j → out.ownBlock ≠ some j
 lr : rs.length ≤ 1048576
 lo : os.length ≤ 1048576
def EvB (w : World) (N : Nat) (k q v : Int) : Prop := EvC3 w N k q v ∧ ∀ j, w.frozen? ⟨N, j, none⟩ = false
open Go.Sort
theorem Touch.set {P : Nat → Prop} {w w' : World} (h : Touch P w w') {a : Addr} (ha : P a.block) (u : Value) : Touch P w (w'.setCell a u) := h.trans (Touch.of_set w' ha u)
theorem Touch.sets {P : Nat → Prop} {b : Nat} (hb : P b) : ∀ (vs : List Value) (o : Nat) {w w' : World}, Touch P w w' → Touch P w (w'.setCells b o vs)
 | [], _, _, _, h => h
 | v :: r, o, _, _, h => Touch.sets hb r (o + 1) (h.set (a := ⟨b, o, none⟩) hb v)
theorem infoHis : (Tryz.prog.info? 101).map (·.size) = some 21 := by kernel_rfl
theorem rowBack (X Bf Hb : Nat) (w : World) (cs : List Value) (hl : cs.length = 21) (h1 : ∀ v ∈ cs, v.oneCell' = true) (hB : w.rangeAt Bf 0 cs) (hT : w.there X 4 21) (hH : w.cell? ⟨Hb, 0, none⟩ = some (.pointer (some ⟨X, 4, none⟩))) (u : FrameMode) :
  CallsD Tryz.prog 123 #[.pointer (some ⟨Bf, 0, none⟩), .pointer (some ⟨Hb, 0, none⟩)] u w fun e u' w' => u' = u ∧ (e = .returned (.tuple #[]) ∧ Touch (fun b => b = X) w w') := by
 have HB : Hid (w.rangeAt Bf 0 cs) := hB
 have HT : Hid (w.there X 4 cs.toArray.size) := by rw [show cs.toArray.size = 21 by simp [hl]]; exact hT
 have HI : Hid ((Tryz.prog.info? 101).map (·.size) = some cs.length) := by rw [hl]; exact infoHis
 have HO : Hid (cs.toArray.all (·.oneCell') = true) := all_oneCell_toArray h1
 clear hB hT h1 hl
 go_enter_d Tryz.func123, Tryz.ntmps123
 go_wp2_with (first | (refine wpList_load_mid rfl 101 (.tmp 0) rfl Bf 0 rfl cs _ HB.out Tryz.underlying101 rfl HI.out ?_) | (refine wpList_store_mid rfl 101 (.tmp 4) (.tmp 3) rfl X 4 cs.toArray rfl rfl HT.out (by simpa using HI.out) HO.out ?_))
 go_end0
 exact ⟨rfl, Touch.sets (P := fun b => b = X) rfl _ _ (Touch.refl _ _)⟩
def hisL (ha : Option Addr) (hc : Nat) (y : Hs) (d : Nat → Nat) : List Value :=
 [.slice ha y.n hc, .int .i64 (d 0), .int .i64 (d 1), .int .i64 (d 2), .int .i64 (d 3),
  .int .i64 (y.opn d 0 0), .int .i64 (y.opn d 0 1), .int .i64 (y.opn d 0 2), .int .i64 (y.opn d 0 3), .int .i64 (y.opn d 1 0), .int .i64 (y.opn d 1 1), .int .i64 (y.opn d 1 2), .int .i64 (y.opn d 1 3),
  .int .i64 (y.opn d 2 0), .int .i64 (y.opn d 2 1), .int .i64 (y.opn d 2 2), .int .i64 (y.opn d 2 3), .int .i64 (y.opn d 3 0), .int .i64 (y.opn d 3 1), .int .i64 (y.opn d 3 2), .int .i64 (y.opn d 3 3)]
theorem HisP.range {w : World} {X : Nat} {ha : Option Addr} {hc : Nat} {y : Hs} {d : Nat → Nat} (h : HisP w X ha hc y d) : w.rangeAt X 4 (hisL ha hc y d) := by
 intro j v hj
 have hl : j < 21 := by
  have := (List.getElem?_eq_some_iff.1 hj).1
  simpa [hisL] using this
 match j, hl, hj with
 | 0, _, hj => rw [← hj]; exact h.c4
 | 1, _, hj => rw [← hj]; exact h.pt 0 (by omega)
 | 2, _, hj => rw [← hj]; exact h.pt 1 (by omega)
 | 3, _, hj => rw [← hj]; exact h.pt 2 (by omega)
 | 4, _, hj => rw [← hj]; exact h.pt 3 (by omega)
 | 5, _, hj => rw [← hj]; exact h.op 0 0 (by omega) (by omega)
 | 6, _, hj => rw [← hj]; exact h.op 0 1 (by omega) (by omega)
 | 7, _, hj => rw [← hj]; exact h.op 0 2 (by omega) (by omega)
 | 8, _, hj => rw [← hj]; exact h.op 0 3 (by omega) (by omega)
 | 9, _, hj => rw [← hj]; exact h.op 1 0 (by omega) (by omega)
 | 10, _, hj => rw [← hj]; exact h.op 1 1 (by omega) (by omega)
 | 11, _, hj => rw [← hj]; exact h.op 1 2 (by omega) (by omega)
 | 12, _, hj => rw [← hj]; exact h.op 1 3 (by omega) (by omega)
 | 13, _, hj => rw [← hj]; exact h.op 2 0 (by omega) (by omega)
 | 14, _, hj => rw [← hj]; exact h.op 2 1 (by omega) (by omega)
 | 15, _, hj => rw [← hj]; exact h.op 2 2 (by omega) (by omega)
 | 16, _, hj => rw [← hj]; exact h.op 2 3 (by omega) (by omega)
 | 17, _, hj => rw [← hj]; exact h.op 3 0 (by omega) (by omega)
 | 18, _, hj => rw [← hj]; exact h.op 3 1 (by omega) (by omega)
 | 19, _, hj => rw [← hj]; exact h.op 3 2 (by omega) (by omega)
 | 20, _, hj => rw [← hj]; exact h.op 3 3 (by omega) (by omega)
theorem hisL_one {ha : Option Addr} {hc : Nat} {y : Hs} {d : Nat → Nat} : ∀ v ∈ hisL ha hc y d, v.oneCell' = true := by
 intro v hv
 simp only [hisL, List.mem_cons, List.not_mem_nil, or_false] at hv
 rcases hv with rfl | rfl | rfl | rfl | rfl | rfl | rfl | rfl | rfl | rfl | rfl | rfl | rfl | rfl | rfl | rfl | rfl | rfl | rfl | rfl | rfl <;> rfl
theorem HisP.thereX {w : World} {X : Nat} {ha : Option Addr} {hc : Nat} {y : Hs} {d : Nat → Nat} (h : HisP w X ha hc y d) : w.there X 4 21 := fun j hj => ⟨h.range.isSome j (by simpa [hisL] using hj), h.fr _⟩
theorem sumL_same {d e : Nat → Nat} : ∀ {n : Nat}, (∀ i, i < n → d i = e i) → sumL d n = sumL e n
 | 0, _ => rfl
 | n + 1, h => by
  show sumL d n + d n = sumL e n + e n
  rw [sumL_same fun i hi => h i (by omega), h n (by omega)]
theorem sumL_zero : ∀ n, sumL (fun _ => 0) n = 0
 | 0 => rfl
 | n + 1 => sumL_zero n
theorem sumL_up {d : Nat → Nat} {k : Nat} : ∀ {n : Nat}, k < n → sumL (up d k) n = sumL d n + 1
 | 0, h => by omega
 | n + 1, h => by
  show sumL (up d k) n + up d k n = sumL d n + d n + 1
  by_cases e : k = n
  ·subst e
   rw [up_same]
   have : sumL (up d k) k = sumL d k := sumL_same fun i hi => up_other (by omega)
   omega
  ·rw [sumL_up (by omega), up_other (by omega)]
   omega
theorem sumL_le {d l : Nat → Nat} (h : ∀ i, d i ≤ l i) : ∀ n, sumL d n ≤ sumL l n
 | 0 => Nat.le_refl _
 | n + 1 => by
  have := sumL_le h n
  have := h n
  show sumL d n + d n ≤ sumL l n + l n
  omega
structure Rw (w0 W wr : World) (X Bf Hb : Nat) (ha : Option Addr) (hc : Nat) (y : Hs) (cs : List Value) (d : Nat → Nat) : Prop where
 pu : y.Put d
 hp : HisP wr X ha hc y d
 be : Below w0.heap.size w0 wr
 hb : wr.cell? ⟨Hb, 0, none⟩ = some (.pointer (some ⟨X, 4, none⟩))
 bf : wr.rangeAt Bf 0 cs
theorem rangeAt_touch {P : Nat → Prop} {w w' : World} {b o : Nat} {cs : List Value} (h : w.rangeAt b o cs) (t : Touch P w w') (hb : ¬ P b) : w'.rangeAt b o cs := fun j v hv => by
 have := h j v hv
 rw [t.cell (World.block_lt_of_cell? w _ this) hb]
 exact this
theorem Rw.touch {w0 W wr w' : World} {X Bf Hb : Nat} {ha : Option Addr} {hc : Nat} {y : Hs} {cs : List Value} {d d' : Nat → Nat} (h : Rw w0 W wr X Bf Hb ha hc y cs d) (t : Touch (fun b => b = X) wr w') (hX : w0.heap.size ≤ X) (hB : Bf ≠ X) (hH : Hb ≠ X) (pu : y.Put d') (hp : HisP w' X ha hc y d') : Rw w0 W w' X Bf Hb ha hc y cs d' :=
 ⟨pu, hp, h.be.trans (t.below h.be.size fun b e => by omega), (t.cell (World.block_lt_of_cell? wr _ h.hb) hH 0).trans h.hb, rangeAt_touch h.bf t hB⟩
theorem canRow_any (X : Nat) (ha : Option Addr) (hc : Nat) (hA : Nat → Option Addr) (hC : Nat → Nat) (y : Hs) (w0 w : World) (hE : HisE w0 ha hA hC y) (hb : Below w0.heap.size w0 w) (hX : w0.heap.size ≤ X) (hP : HisP w X ha hc y (fun _ => 0)) (h4 : y.n ≤ 4) (hp : y.Peers) (hl : ∀ i, i < y.n → y.l i ≤ 200) :
  Calls Tryz.prog 69 #[.pointer (some ⟨X, 4, none⟩)] w fun e w' => e = .returned (.bool (qB y.Row)) ∧ Below w0.heap.size w0 w' := by
 have HE : Hid (HisE w0 ha hA hC y) := hE
 have HH : Hid (y.Peers ∧ (∀ i, i < y.n → y.l i ≤ 200) ∧ w0.heap.size ≤ X) := ⟨hp, hl, hX⟩
 have zX := hP.lt
 obtain ⟨cs, hcs, hlen, hone⟩ : ∃ cs, w.rangeAt X 4 cs ∧ cs.length = 21 ∧ ∀ v ∈ cs, v.oneCell' = true := ⟨_, hP.range, rfl, hisL_one⟩
 have hsz : cs.toArray.size = 21 := by simpa using hlen
 have HL21 : Hid (cs.length = 21 ∧ ∀ v ∈ cs, v.oneCell' = true) := ⟨hlen, hone⟩
 have HI : Hid ((Tryz.prog.info? 101).map (·.size) = some cs.length) := by rw [hlen]; exact infoHis
 have HR : Hid ((w.alloc (.cells #[.pointer (some ⟨X, 4, none⟩)] 149)).rangeAt X 4 cs) := World.rangeAt_alloc hcs _
 have HO : Hid (cs.toArray.all (·.oneCell') = true) := all_oneCell_toArray hone
 have hmf : ∀ (fn : Fn) (first cap : Array Value) (w : World), (Instr.makeFunc fn first cap).run Tryz.prog w = .ok (.func fn first cap) w := fun _ _ _ _ => rfl
 have HT : Hid (((w.alloc (.cells #[.pointer (some ⟨X, 4, none⟩)] 149)).alloc (zQ2)).there (w.heap.size + 1) 0 cs.toArray.size) := fun j hj => by
  have hj' : j < 21 := by rw [← hsz]; exact hj
  refine ⟨?_, new_frozen _ _ _ _ (by simp)⟩
  rw [Nat.zero_add, new_cell _ _ _ j (by simp), Array.getElem?_eq_getElem (by simpa using hj')]
  rfl
 have tw : Touch (fun b => b = w.heap.size + 1) w (((w.alloc (.cells #[.pointer (some ⟨X, 4, none⟩)] 149)).alloc (zQ2)).setCells (w.heap.size + 1) 0 cs) := Touch.sets (P := fun b => b = w.heap.size + 1) rfl _ _ (Touch.of_below ((below_alloc _ _).trans ((below_alloc _ _).mono (by simp))))
 have HRw : Hid (Rw w0 w (((w.alloc (.cells #[.pointer (some ⟨X, 4, none⟩)] 149)).alloc (zQ2)).setCells (w.heap.size + 1) 0 cs) X (w.heap.size + 1) w.heap.size ha hc y cs (fun _ => 0)) := by
  refine ⟨.start, hP.blk (tw.block X zX (by omega)), hb.trans (tw.below hb.size fun b e => by have := hb.size; omega), ?_, World.rangeAt_setCells_same _ _ _ _ (by simpa using HT.out)⟩
  rw [World.cell?_setCells_out _ _ _ _ _ (fun e => absurd e (by simp)), World.cell?_alloc_lt _ _ _ (by simp)]
  exact new_cell _ _ _ 0 rfl
 have HX : Hid (X < w.heap.size) := zX
 clear hE hp hl hX tw hb hP zX hlen hsz hcs hone
 go_enter_defers Tryz.func69, Tryz.ntmps69
 have h0 := HRw.out.hb
 go_wp2_with (first | (refine wpList_load_mid rfl 101 (.tmp 6) rfl X 4 rfl cs _ HR.out Tryz.underlying101 rfl HI.out ?_) | (refine wpList_store_mid rfl 101 (.tmp 3) (.tmp 7) rfl (w.heap.size + 1) 0 cs.toArray rfl rfl HT.out (by simpa using HI.out) HO.out ?_))
 clear HR HT HI HO
 generalize ((w.alloc (.cells #[.pointer (some ⟨X, 4, none⟩)] 149)).alloc (zQ2)).setCells (w.heap.size + 1) 0 cs = W1 at *
 have nX : Hid (w.heap.size + 1 ≠ X ∧ w.heap.size ≠ X) := by
  have := HX.out
  exact ⟨by omega, by omega⟩
 refine (next_any X ha hc hA hC y (fun _ => 0) W1 (HE.out.below HRw.out.be) HRw.out.hp h4 HH.out.1 HH.out.2.1 HRw.out.pu.le).mono ?_
 rintro e w1 ⟨q1, hor⟩
 have HNx : Hid (Rw w0 w w1 X (w.heap.size + 1) w.heap.size ha hc y cs (fun _ => 0)) := HRw.out.touch (Touch.of_below q1) HH.out.2.2 nX.out.1 nX.out.2 HRw.out.pu (HRw.out.hp.below q1)
 obtain ⟨z, rfl, HOr⟩ : ∃ z : Int, e = .returned (.int .i64 z) ∧ Hid ((∃ k, k < y.n ∧ y.Can (fun _ => 0) k ∧ z = (k : Nat)) ∨ (z = -1 ∧ ∀ p, p < y.n → ¬ y.Can (fun _ => 0) p)) := by
  rcases hor with ⟨k, hk, hcan, rfl⟩ | ⟨rfl, hn⟩
  ·exact ⟨_, rfl, .inl ⟨k, hk, hcan, rfl⟩⟩
  ·exact ⟨_, rfl, .inr ⟨rfl, hn⟩⟩
 clear hor q1 h0 HRw
 go_wp2_with fail
 go_loopg [4] (sumL y.l y.n) (fun k p wr => ∃ d z, k = sumL y.l y.n - sumL d y.n ∧ p = .int .i64 z ∧ Rw w0 w wr X (w.heap.size + 1) w.heap.size ha hc y cs d ∧ Hid ((∃ k, k < y.n ∧ y.Can d k ∧ z = (k : Nat)) ∨ (z = -1 ∧ ∀ p, p < y.n → ¬ y.Can d p)))
 case atStart => exact ⟨_, z, by simp [sumL_zero], rfl, HNx.out, HOr.out⟩
 case round =>
  clear HNx HOr
  obtain ⟨d, zz, hgk, rfl, rw0, HOr⟩ := hrel
  have HRr : Hid (Rw w0 w wr X (w.heap.size + 1) w.heap.size ha hc y cs d) := rw0
  have h1 := rw0.hb
  have HG : Hid (gk = sumL y.l y.n - sumL d y.n) := hgk
  clear rw0 hgk
  rcases HOr.out with ⟨k, hk, hcan, rfl⟩ | ⟨rfl, hst⟩
  ·have HCn : Hid (y.Can d k) := hcan
   have hz : ¬ (k : Int) = -1 := by omega
   have hz' : ((k : Int) == -1) = false := by simp
   clear HOr hcan
   go_wp2_with fail
   refine (putOne_any X ha hc hA hC y d k wr (HE.out.below HRr.out.be) HRr.out.hp h4 hk HH.out.1 HH.out.2.1 HRr.out.pu.le HCn.out.1).mono ?_
   rintro e w1 ⟨rfl, hp1, t1⟩
   have hpu : y.Put (up d k) := .next HRr.out.pu hk HCn.out
   have HN : Hid (Rw w0 w w1 X (w.heap.size + 1) w.heap.size ha hc y cs (up d k)) := HRr.out.touch t1 HH.out.2.2 nX.out.1 nX.out.2 hpu hp1
   have HM : Hid (sumL y.l y.n - sumL (up d k) y.n < gk) := by
    have h2 := sumL_up (d := d) hk
    have h3 := sumL_le hpu.le y.n
    have h4 := HG.out
    show sumL y.l y.n - sumL (up d k) y.n < gk
    omega
   clear hp1 t1 hpu h1 HRr HG hz hz'
   generalize up d k = d2 at *
   have h1 := HN.out.hb
   go_wp2_with fail
   refine (next_any X ha hc hA hC y d2 w1 (HE.out.below HN.out.be) HN.out.hp h4 HH.out.1 HH.out.2.1 HN.out.pu.le).mono ?_
   rintro e w2 ⟨q2, hor⟩
   have HN2 : Hid (Rw w0 w w2 X (w.heap.size + 1) w.heap.size ha hc y cs d2) := HN.out.touch (Touch.of_below q2) HH.out.2.2 nX.out.1 nX.out.2 HN.out.pu (HN.out.hp.below q2)
   obtain ⟨z, rfl, HOr⟩ : ∃ z : Int, e = .returned (.int .i64 z) ∧ Hid ((∃ k, k < y.n ∧ y.Can d2 k ∧ z = (k : Nat)) ∨ (z = -1 ∧ ∀ p, p < y.n → ¬ y.Can d2 p)) := by
    rcases hor with ⟨k, hk, hcan, rfl⟩ | ⟨rfl, hn⟩
    ·exact ⟨_, rfl, .inl ⟨k, hk, hcan, rfl⟩⟩
    ·exact ⟨_, rfl, .inr ⟨rfl, hn⟩⟩
   clear hor q2 h1 HN
   go_wp2
   go_roundg (sumL y.l y.n - sumL d2 y.n)
   case measure => exact HM.out
   case rel => exact ⟨d2, z, rfl, rfl, HN2.out, HOr.out⟩
  ·have HRow : Hid (qB (y.All d) = qB y.Row) := by
    show qB (y.All d) = qB y.Row
    have hi := Hs.row_iff HRr.out.pu HH.out.1 hst
    by_cases hr : y.Row
    ·rw [qB_true hr, qB_true (hi.1 hr)]
    ·rw [qB_false hr, qB_false (fun h => hr (hi.2 h))]
   have HN : Hid (Rw w0 w wr X (w.heap.size + 1) w.heap.size ha hc y cs d) := HRr.out
   clear hst HG HOr HRr
   go_wp2_with fail
   refine (allPut_any X ha hc hA hC y d wr (HE.out.below HN.out.be) HN.out.hp h4 HH.out.2.1 HN.out.pu.le).mono ?_
   rintro e w2 ⟨rfl, b2⟩
   rw [HRow.out]
   have B2 : Hid (Below wr.heap.size wr w2) := b2
   clear b2 h1
   have HB2 : Hid (Below w0.heap.size w0 w2 ∧ w2.rangeAt (w.heap.size + 1) 0 cs ∧ w2.there X 4 21 ∧ w2.cell? ⟨w.heap.size, 0, none⟩ = some (.pointer (some ⟨X, 4, none⟩))) :=
    ⟨HN.out.be.trans (B2.out.mono HN.out.be.size), rangeAt_touch (P := fun _ => False) HN.out.bf (Touch.of_below B2.out) (fun h => h), (HN.out.hp.below B2.out).thereX, (B2.out.cell (p := ⟨w.heap.size, 0, none⟩) (World.block_lt_of_cell? wr _ HN.out.hb)).trans HN.out.hb⟩
   go_wp2
   refine leaves_cons (f := 123) (args := #[.pointer (some ⟨w.heap.size + 1, 0, none⟩), .pointer (some ⟨w.heap.size, 0, none⟩)]) (by simp) (by simp [go_sem]) ?_
   refine (rowBack X (w.heap.size + 1) w.heap.size w2 cs HL21.out.1 HL21.out.2 HB2.out.2.1 HB2.out.2.2.1 HB2.out.2.2.2 .returning).mono ?_
   rintro e u' w3 ⟨rfl, rfl, t3⟩
   exact ⟨_, results_tmp rfl _ _ _, rfl, HB2.out.1.trans (t3.below HB2.out.1.size fun b e => by have := HH.out.2.2; omega)⟩
theorem below_allocS (w : World) (o : Obj) : Below w.heap.size w (w.alloc o) := (Below.refl _ _).alloc (Nat.le_refl _) _
theorem sum_le {n : Nat} {ls : Nat → Nat} {N : Nat} (h : sumL ls n ≤ N) : ∀ i, i < n → ls i ≤ N := fun i hi => by
 have := sumL_at ls hi
 omega
theorem SysIn.lens {x : SysIn} (h : x.size ≤ 1048576) : (x.pn ≤ 1048576 ∧ sumL x.pL x.pn ≤ 1048576) ∧ (x.sn ≤ 1048576 ∧ sumL (lenS x.sS) x.sn ≤ 1048576) ∧ (x.wn ≤ 1048576 ∧ sumL x.wL x.wn ≤ 1048576) ∧ (x.hn ≤ 1048576 ∧ sumL x.hL x.hn ≤ 1048576) := by
 unfold SysIn.size at h
 omega
theorem SysIn.lensS {x : SysIn} (h : x.size ≤ 1048576) : ∀ i, i < x.sn → (x.sQ i).rs.length ≤ 1048576 ∧ (x.sQ i).os.length ≤ 1048576 := fun i hi => by
 have := sum_le (SysIn.lens h).2.1.2 i hi
 have e : lenS x.sS i = (x.sQ i).rs.length + (x.sQ i).os.length := rfl
 omega
structure TB (w wx : World) (a0 a1 a2 a3 o0 o1 o2 o3 : Value) : Prop where
 p : BoxC wx w.heap.size a0 a1 a2 a3
 r : BoxC wx (w.heap.size + 1) (.slice none 0 0) (.slice none 0 0) (.slice none 0 0) (.slice none 0 0)
 o : BoxC wx (w.heap.size + 1 + 1) o0 o1 o2 o3
 fr : ∀ j, wx.frozen? ⟨w.heap.size + 1, j, none⟩ = false
 fo : ∀ j, wx.frozen? ⟨w.heap.size + 1 + 1, j, none⟩ = false
 be : Below w.heap.size w wx
 le : w.heap.size + 3 ≤ wx.heap.size
theorem TB.below {w wx w' : World} {a0 a1 a2 a3 o0 o1 o2 o3 : Value} (h : TB w wx a0 a1 a2 a3 o0 o1 o2 o3) (hb : Below wx.heap.size wx w') : TB w w' a0 a1 a2 a3 o0 o1 o2 o3 :=
 ⟨h.p.below hb, h.r.below hb, h.o.below hb, fun j => (hb.frozen (p := ⟨w.heap.size + 1, j, none⟩) (by have := h.le; show w.heap.size + 1 < _; omega)).trans (h.fr j), fun j => (hb.frozen (p := ⟨w.heap.size + 1 + 1, j, none⟩) (by have := h.le; show w.heap.size + 1 + 1 < _; omega)).trans (h.fo j), h.be.trans (hb.mono h.be.size), Nat.le_trans h.le hb.size⟩
theorem TB.first {w : World} (a0 a1 a2 a3 : Value) (t1 t2 : TypeId) : TB w (((w.alloc (.cells #[a0, a1, a2, a3] t1)).alloc (.cells #[.slice none 0 0, .slice none 0 0, .slice none 0 0, .slice none 0 0] t2)).alloc (.cells #[.slice none 0 0, .slice none 0 0, .slice none 0 0, .slice none 0 0] t2)) a0 a1 a2 a3 (.slice none 0 0) (.slice none 0 0) (.slice none 0 0) (.slice none 0 0) := by
 have hb1 := below_allocS (w.alloc (.cells #[a0, a1, a2, a3] t1)) (.cells #[.slice none 0 0, .slice none 0 0, .slice none 0 0, .slice none 0 0] t2)
 have hb2 := below_allocS ((w.alloc (.cells #[a0, a1, a2, a3] t1)).alloc (.cells #[.slice none 0 0, .slice none 0 0, .slice none 0 0, .slice none 0 0] t2)) (.cells #[.slice none 0 0, .slice none 0 0, .slice none 0 0, .slice none 0 0] t2)
 have n0 := BoxC.new w a0 a1 a2 a3 t1
 have n1 := BoxC.new (w.alloc (.cells #[a0, a1, a2, a3] t1)) (.slice none 0 0) (.slice none 0 0) (.slice none 0 0) (.slice none 0 0) t2
 have n2 := BoxC.new ((w.alloc (.cells #[a0, a1, a2, a3] t1)).alloc (.cells #[.slice none 0 0, .slice none 0 0, .slice none 0 0, .slice none 0 0] t2)) (.slice none 0 0) (.slice none 0 0) (.slice none 0 0) (.slice none 0 0) t2
 have f1 := fun j => new_frozen (w.alloc (.cells #[a0, a1, a2, a3] t1)) #[.slice none 0 0, .slice none 0 0, .slice none 0 0, .slice none 0 0] t2 j rfl
 have f2 := fun j => new_frozen ((w.alloc (.cells #[a0, a1, a2, a3] t1)).alloc (.cells #[.slice none 0 0, .slice none 0 0, .slice none 0 0, .slice none 0 0] t2)) #[.slice none 0 0, .slice none 0 0, .slice none 0 0, .slice none 0 0] t2 j rfl
 simp only [World.size_alloc] at n1 n2 f1 f2
 refine ⟨(n0.below hb1).below hb2, n1.below hb2, n2, fun j => ?_, f2, ?_, by simp⟩
 ·exact (hb2.frozen (p := ⟨w.heap.size + 1, j, none⟩) (by simp)).trans (f1 j)
 ·exact (((Below.refl _ _).alloc (Nat.le_refl _) _).alloc (by simp) _).alloc (by simp; omega) _
theorem BoxC.setO {w : World} {N M j : Nat} {p a b c u : Value} (h : BoxC w N p a b c) (hne : M ≠ N) : BoxC (w.setCell ⟨M, j, none⟩ u) N p a b c := by
 obtain ⟨h0, h1, h2, h3⟩ := h
 have hc : ∀ i, (w.setCell ⟨M, j, none⟩ u).cell? ⟨N, i, none⟩ = w.cell? ⟨N, i, none⟩ := fun i => World.cell?_setCell_other _ _ _ _ fun e => hne (by injection e)
 exact ⟨(hc _).trans h0, (hc _).trans h1, (hc _).trans h2, (hc _).trans h3⟩
theorem TB.set0 {w wx : World} {a0 a1 a2 a3 o0 o1 o2 o3 : Value} (h : TB w wx a0 a1 a2 a3 o0 o1 o2 o3) (u : Value) : TB w (wx.setCell ⟨w.heap.size + 1 + 1, 0, none⟩ u) a0 a1 a2 a3 u o1 o2 o3 := by
 obtain ⟨q0, q1, q2, q3⟩ := h.o
 have hc : ∀ i, 0 ≠ i → (wx.setCell ⟨w.heap.size + 1 + 1, 0, none⟩ u).cell? ⟨w.heap.size + 1 + 1, i, none⟩ = wx.cell? ⟨w.heap.size + 1 + 1, i, none⟩ := fun i hi => World.cell?_setCell_other _ _ _ _ fun e => hi (by injection e)
 exact ⟨h.p.setO (by omega), h.r.setO (by omega), ⟨World.cell?_setCell_same _ _ _ q0, (hc _ (by omega)).trans q1, (hc _ (by omega)).trans q2, (hc _ (by omega)).trans q3⟩, fun j => by rw [World.frozen?_setCell]; exact h.fr j, fun j => by rw [World.frozen?_setCell]; exact h.fo j, h.be.setCell (by simp; omega) _, by simp; exact h.le⟩
theorem TB.set1 {w wx : World} {a0 a1 a2 a3 o0 o1 o2 o3 : Value} (h : TB w wx a0 a1 a2 a3 o0 o1 o2 o3) (u : Value) : TB w (wx.setCell ⟨w.heap.size + 1 + 1, 1, none⟩ u) a0 a1 a2 a3 o0 u o2 o3 := by
 obtain ⟨q0, q1, q2, q3⟩ := h.o
 have hc : ∀ i, 1 ≠ i → (wx.setCell ⟨w.heap.size + 1 + 1, 1, none⟩ u).cell? ⟨w.heap.size + 1 + 1, i, none⟩ = wx.cell? ⟨w.heap.size + 1 + 1, i, none⟩ := fun i hi => World.cell?_setCell_other _ _ _ _ fun e => hi (by injection e)
 exact ⟨h.p.setO (by omega), h.r.setO (by omega), ⟨(hc _ (by omega)).trans q0, World.cell?_setCell_same _ _ _ q1, (hc _ (by omega)).trans q2, (hc _ (by omega)).trans q3⟩, fun j => by rw [World.frozen?_setCell]; exact h.fr j, fun j => by rw [World.frozen?_setCell]; exact h.fo j, h.be.setCell (by simp; omega) _, by simp; exact h.le⟩
theorem TB.set2 {w wx : World} {a0 a1 a2 a3 o0 o1 o2 o3 : Value} (h : TB w wx a0 a1 a2 a3 o0 o1 o2 o3) (u : Value) : TB w (wx.setCell ⟨w.heap.size + 1 + 1, 2, none⟩ u) a0 a1 a2 a3 o0 o1 u o3 := by
 obtain ⟨q0, q1, q2, q3⟩ := h.o
 have hc : ∀ i, 2 ≠ i → (wx.setCell ⟨w.heap.size + 1 + 1, 2, none⟩ u).cell? ⟨w.heap.size + 1 + 1, i, none⟩ = wx.cell? ⟨w.heap.size + 1 + 1, i, none⟩ := fun i hi => World.cell?_setCell_other _ _ _ _ fun e => hi (by injection e)
 exact ⟨h.p.setO (by omega), h.r.setO (by omega), ⟨(hc _ (by omega)).trans q0, (hc _ (by omega)).trans q1, World.cell?_setCell_same _ _ _ q2, (hc _ (by omega)).trans q3⟩, fun j => by rw [World.frozen?_setCell]; exact h.fr j, fun j => by rw [World.frozen?_setCell]; exact h.fo j, h.be.setCell (by simp; omega) _, by simp; exact h.le⟩
theorem toSys_any (x : SysIn) (W w : World) (hs : x.size ≤ 1048576) (hA : x.Ok W) (hW : Below W.heap.size W w) :
  Calls Tryz.prog 17 #[sysV x.pa x.pn x.pc x.sa x.sn x.sc x.wa x.wn x.wc x.ha x.hn x.hc] w fun e w' => ∃ v, e = .returned v ∧ IsSys w' w.heap.size w'.heap.size x v ∧ Below w.heap.size w w' := by
 have HA : Hid (x.Ok W) := hA
 have HW : Hid (Below W.heap.size W w) := hW
 have HS : Hid (x.size ≤ 1048576) := hs
 have HWs : Hid (W.heap.size ≤ w.heap.size) := hW.size
 clear hA hW hs
 go_enter Tryz.func17, Tryz.ntmps17
 have T0 : Hid (TB w (((w.alloc (.cells #[.slice x.pa x.pn x.pc, .slice x.sa x.sn x.sc, .slice x.wa x.wn x.wc, .slice x.ha x.hn x.hc] 42)).alloc (zQ3)).alloc (zQ3)) (.slice x.pa x.pn x.pc) (.slice x.sa x.sn x.sc) (.slice x.wa x.wn x.wc) (.slice x.ha x.hn x.hc) (.slice none 0 0) (.slice none 0 0) (.slice none 0 0) (.slice none 0 0)) := TB.first _ _ _ _ _ _
 go_wp2_with fail
 generalize ((w.alloc (.cells #[.slice x.pa x.pn x.pc, .slice x.sa x.sn x.sc, .slice x.wa x.wn x.wc, .slice x.ha x.hn x.hc] 42)).alloc (zQ3)).alloc (zQ3) = wA at *
 refine (toInsSS_any _ _ _ _ x.pL _ x.pH W _ (SysIn.lens HS.out).1.1 HA.out.p (HW.out.trans (T0.out.be.mono HWs.out))).mono ?_
 rintro e w1 ⟨rfl, ⟨bs1, o1⟩, b1⟩
 have T1 : Hid (TB w w1 (.slice x.pa x.pn x.pc) (.slice x.sa x.sn x.sc) (.slice x.wa x.wn x.wc) (.slice x.ha x.hn x.hc) (.slice none 0 0) (.slice none 0 0) (.slice none 0 0) (.slice none 0 0)) := T0.out.below b1
 have O1 : Hid (OutIns w1 wA.heap.size w1.heap.size x.pn x.pL bs1 x.pH) := o1
 have zA : w.heap.size + 3 ≤ wA.heap.size := T0.out.le
 clear b1 T0 o1
 obtain ⟨⟨p0, p1, p2, p3⟩, -, ⟨q0, q1, q2, q3⟩, -, fo, -, le⟩ := T1.out
 go_wp2_with fail
 have T2 : Hid (TB w (w1.setCell ⟨w.heap.size + 1 + 1, 0, none⟩ (.slice (some ⟨wA.heap.size, 0, none⟩) x.pn x.pn)) (.slice x.pa x.pn x.pc) (.slice x.sa x.sn x.sc) (.slice x.wa x.wn x.wc) (.slice x.ha x.hn x.hc) (.slice (some ⟨wA.heap.size, 0, none⟩) x.pn x.pn) (.slice none 0 0) (.slice none 0 0) (.slice none 0 0)) := T1.out.set0 _
 have O2 : Hid (OutIns (w1.setCell ⟨w.heap.size + 1 + 1, 0, none⟩ (.slice (some ⟨wA.heap.size, 0, none⟩) x.pn x.pn)) wA.heap.size w1.heap.size x.pn x.pL bs1 x.pH) := O1.out.keep (by simp) fun k hk _ => Below.heap_setCell _ _ _ _ (by simp; omega)
 have h12 : w1.heap.size = (w1.setCell ⟨w.heap.size + 1 + 1, 0, none⟩ (.slice (some ⟨wA.heap.size, 0, none⟩) x.pn x.pn)).heap.size := by simp
 have l1 : wA.heap.size < w1.heap.size := O1.out.lt
 clear O1 T1 p0 p1 p2 p3 q0 q1 q2 q3 fo le
 generalize w1.setCell ⟨w.heap.size + 1 + 1, 0, none⟩ (.slice (some ⟨wA.heap.size, 0, none⟩) x.pn x.pn) = wB at *
 rw [h12] at O2 l1
 clear h12
 refine (toStateS_any _ _ _ x.sQ W wB (SysIn.lens HS.out).2.1.1 (SysIn.lensS HS.out) HA.out.s (HW.out.trans (T2.out.be.mono HWs.out))).mono ?_
 rintro e w2 ⟨rfl, ⟨vs, o2⟩, b2⟩
 have T3 : Hid (TB w w2 (.slice x.pa x.pn x.pc) (.slice x.sa x.sn x.sc) (.slice x.wa x.wn x.wc) (.slice x.ha x.hn x.hc) (.slice (some ⟨wA.heap.size, 0, none⟩) x.pn x.pn) (.slice none 0 0) (.slice none 0 0) (.slice none 0 0)) := T2.out.below b2
 have P3 : Hid (OutIns w2 wA.heap.size wB.heap.size x.pn x.pL bs1 x.pH) := O2.out.below b2 (Nat.le_refl _)
 have S3 : Hid (OutState w2 wB.heap.size w2.heap.size x.sn x.sS vs) := o2
 clear b2 T2 o2 O2
 obtain ⟨⟨p0, p1, p2, p3⟩, -, ⟨q0, q1, q2, q3⟩, -, fo, -, le⟩ := T3.out
 go_wp2_with fail
 have T4 : Hid (TB w (w2.setCell ⟨w.heap.size + 1 + 1, 1, none⟩ (.slice (some ⟨wB.heap.size, 0, none⟩) x.sn x.sn)) (.slice x.pa x.pn x.pc) (.slice x.sa x.sn x.sc) (.slice x.wa x.wn x.wc) (.slice x.ha x.hn x.hc) (.slice (some ⟨wA.heap.size, 0, none⟩) x.pn x.pn) (.slice (some ⟨wB.heap.size, 0, none⟩) x.sn x.sn) (.slice none 0 0) (.slice none 0 0)) := T3.out.set1 _
 have P4 : Hid (OutIns (w2.setCell ⟨w.heap.size + 1 + 1, 1, none⟩ (.slice (some ⟨wB.heap.size, 0, none⟩) x.sn x.sn)) wA.heap.size wB.heap.size x.pn x.pL bs1 x.pH) := P3.out.keep (by simp) fun k hk _ => Below.heap_setCell _ _ _ _ (by simp; omega)
 have S4' : Hid (OutState (w2.setCell ⟨w.heap.size + 1 + 1, 1, none⟩ (.slice (some ⟨wB.heap.size, 0, none⟩) x.sn x.sn)) wB.heap.size w2.heap.size x.sn x.sS vs) := S3.out.keep (by simp) fun k hk _ => Below.heap_setCell _ _ _ _ (by simp; omega)
 have h12 : w2.heap.size = (w2.setCell ⟨w.heap.size + 1 + 1, 1, none⟩ (.slice (some ⟨wB.heap.size, 0, none⟩) x.sn x.sn)).heap.size := by simp
 have l2 : wB.heap.size < w2.heap.size := S3.out.lt
 clear P3 S3 T3 p0 p1 p2 p3 q0 q1 q2 q3 fo le
 generalize w2.setCell ⟨w.heap.size + 1 + 1, 1, none⟩ (.slice (some ⟨wB.heap.size, 0, none⟩) x.sn x.sn) = wC at *
 rw [h12] at S4' l2
 clear h12
 refine (toItemSS_any _ _ _ _ x.wL _ x.wH W wC (SysIn.lens HS.out).2.2.1.1 HA.out.w (HW.out.trans (T4.out.be.mono HWs.out))).mono ?_
 rintro e w3 ⟨rfl, ⟨bs3, o3⟩, b3⟩
 have T5 : Hid (TB w w3 (.slice x.pa x.pn x.pc) (.slice x.sa x.sn x.sc) (.slice x.wa x.wn x.wc) (.slice x.ha x.hn x.hc) (.slice (some ⟨wA.heap.size, 0, none⟩) x.pn x.pn) (.slice (some ⟨wB.heap.size, 0, none⟩) x.sn x.sn) (.slice none 0 0) (.slice none 0 0)) := T4.out.below b3
 have P5 : Hid (OutIns w3 wA.heap.size wB.heap.size x.pn x.pL bs1 x.pH) := P4.out.below b3 (by omega)
 have S5 : Hid (OutState w3 wB.heap.size wC.heap.size x.sn x.sS vs) := S4'.out.below b3 (Nat.le_refl _)
 have W5 : Hid (OutItem w3 wC.heap.size w3.heap.size x.wn x.wL bs3 x.wH) := o3
 clear b3 T4 o3 P4 S4'
 obtain ⟨⟨p0, p1, p2, p3⟩, -, ⟨q0, q1, q2, q3⟩, -, fo, -, le⟩ := T5.out
 go_wp2_with fail
 have T6 : Hid (TB w (w3.setCell ⟨w.heap.size + 1 + 1, 2, none⟩ (.slice (some ⟨wC.heap.size, 0, none⟩) x.wn x.wn)) (.slice x.pa x.pn x.pc) (.slice x.sa x.sn x.sc) (.slice x.wa x.wn x.wc) (.slice x.ha x.hn x.hc) (.slice (some ⟨wA.heap.size, 0, none⟩) x.pn x.pn) (.slice (some ⟨wB.heap.size, 0, none⟩) x.sn x.sn) (.slice (some ⟨wC.heap.size, 0, none⟩) x.wn x.wn) (.slice none 0 0)) := T5.out.set2 _
 have P6 : Hid (OutIns (w3.setCell ⟨w.heap.size + 1 + 1, 2, none⟩ (.slice (some ⟨wC.heap.size, 0, none⟩) x.wn x.wn)) wA.heap.size wB.heap.size x.pn x.pL bs1 x.pH) := P5.out.keep (by simp) fun k hk _ => Below.heap_setCell _ _ _ _ (by simp; omega)
 have S6 : Hid (OutState (w3.setCell ⟨w.heap.size + 1 + 1, 2, none⟩ (.slice (some ⟨wC.heap.size, 0, none⟩) x.wn x.wn)) wB.heap.size wC.heap.size x.sn x.sS vs) := S5.out.keep (by simp) fun k hk _ => Below.heap_setCell _ _ _ _ (by simp; omega)
 have W6 : Hid (OutItem (w3.setCell ⟨w.heap.size + 1 + 1, 2, none⟩ (.slice (some ⟨wC.heap.size, 0, none⟩) x.wn x.wn)) wC.heap.size w3.heap.size x.wn x.wL bs3 x.wH) := W5.out.keep (by simp) fun k hk _ => Below.heap_setCell _ _ _ _ (by simp; omega)
 have h12 : w3.heap.size = (w3.setCell ⟨w.heap.size + 1 + 1, 2, none⟩ (.slice (some ⟨wC.heap.size, 0, none⟩) x.wn x.wn)).heap.size := by simp
 have l3 : wC.heap.size < w3.heap.size := W5.out.lt
 clear P5 S5 W5 T5 p0 p1 p2 p3 q0 q1 q2 q3 fo le
 generalize w3.setCell ⟨w.heap.size + 1 + 1, 2, none⟩ (.slice (some ⟨wC.heap.size, 0, none⟩) x.wn x.wn) = wD at *
 rw [h12] at W6 l3
 clear h12
 refine (toEventSS_any _ _ _ _ x.hL _ x.hH W wD (SysIn.lens HS.out).2.2.2.1 HA.out.h (HW.out.trans (T6.out.be.mono HWs.out))).mono ?_
 rintro e w4 ⟨rfl, ⟨bs4, o4⟩, b4⟩
 have T7 : Hid (TB w w4 (.slice x.pa x.pn x.pc) (.slice x.sa x.sn x.sc) (.slice x.wa x.wn x.wc) (.slice x.ha x.hn x.hc) (.slice (some ⟨wA.heap.size, 0, none⟩) x.pn x.pn) (.slice (some ⟨wB.heap.size, 0, none⟩) x.sn x.sn) (.slice (some ⟨wC.heap.size, 0, none⟩) x.wn x.wn) (.slice none 0 0)) := T6.out.below b4
 have HO : Hid (∀ W9 : World, (∀ k, w.heap.size + 3 ≤ k → W9.heap[k]? = w4.heap[k]?) → W9.heap.size = w4.heap.size → IsSys W9 w.heap.size W9.heap.size x (sysV (some ⟨wA.heap.size, 0, none⟩) x.pn x.pn (some ⟨wB.heap.size, 0, none⟩) x.sn x.sn (some ⟨wC.heap.size, 0, none⟩) x.wn x.wn (some ⟨wD.heap.size, 0, none⟩) x.hn x.hn)) := by
  intro W9 hk hz
  have o4' : OutEvent w4 wD.heap.size W9.heap.size x.hn x.hL bs4 x.hH := hz ▸ o4
  exact ⟨_, _, _, _, bs1, vs, bs3, bs4, wB.heap.size, wC.heap.size, wD.heap.size, rfl, (P6.out.below b4 (by omega)).keep (by omega) fun k h1 _ => hk k (by omega), (S6.out.below b4 (by omega)).keep (by omega) fun k h1 _ => hk k (by omega), (W6.out.below b4 (Nat.le_refl _)).keep (by omega) fun k h1 _ => hk k (by omega), o4'.keep (by omega) fun k h1 _ => hk k (by omega), by omega, Nat.le_refl _, Nat.le_refl _, Nat.le_refl _⟩
 clear b4 T6 o4 P6 S6 W6
 obtain ⟨-, ⟨r0, r1, r2, r3⟩, ⟨q0, q1, q2, q3⟩, fr, fo, be, le⟩ := T7.out
 have BE : Hid (Below w.heap.size w w4) := be
 clear be T7
 go_wp2
 refine bodyPost_ret (v := sysV (some ⟨wA.heap.size, 0, none⟩) x.pn x.pn (some ⟨wB.heap.size, 0, none⟩) x.sn x.sn (some ⟨wC.heap.size, 0, none⟩) x.wn x.wn (some ⟨wD.heap.size, 0, none⟩) x.hn x.hn) (by simp [results, Tryz.results17, go_sem, r0, r1, r2, r3]) rfl ⟨_, rfl, HO.out _ ?_ ?_, ?_⟩
 ·intro k hk
  repeat (rw [Below.heap_setCell _ _ _ _ (by simp; omega)])
 ·simp
 ·have := BE.out
  go_grown
theorem below_allocL (w : World) (o : Obj) : Below w.heap.size w (w.alloc o) := (Below.refl _ _).alloc (Nat.le_refl _) _
def Src (w : World) (a0 : Option Addr) (cs : List Value) : Prop := cs = [] ∨ ∃ b off, a0 = some ⟨b, off, none⟩ ∧ b < w.heap.size ∧ ∀ j u, cs[j]? = some u → w.cell? ⟨b, off + j, none⟩ = some u
theorem Src.below {w w' : World} {a0 : Option Addr} {cs : List Value} (h : Src w a0 cs) (hb : Below w.heap.size w w') : Src w' a0 cs := by
 rcases h with h | ⟨b, off, e, hlt, hc⟩
 ·exact .inl h
 ·exact .inr ⟨b, off, e, Nat.lt_of_lt_of_le hlt hb.size, fun j u hj => (hb.cell (p := ⟨b, off + j, none⟩) hlt).trans (hc j u hj)⟩
structure Kind (t e : TypeId) (size bytes : Nat) : Prop where
 und : Tryz.prog.underlying t = some (.slice e)
 inf : ∃ i z, Tryz.prog.info? e = some i ∧ i.zero = some z ∧ i.size = size ∧ i.bytes = bytes ∧ z.cells.size = size
 pos : 0 < size
 sml : bytes ≤ 64
theorem run_append_src {t e : TypeId} {size bytes : Nat} (K : Kind t e size bytes) (w : World) (ty : TypeId) (B : Nat) (v : Value) (n : Nat) (xs : List Value) (hown : w.ownsRow B e size v n xs) (a0 : Option Addr) (m c : Nat) (news : List Value) (hl : news.length = m * size) (hsrc : Src w a0 news) (h1 : ∀ u ∈ news, u.oneCell' = true) (hnm : n + m ≤ 4000000) (hB : B ≤ w.heap.size) :
  ∃ v' w', (Builtin.append_ #[t, t] ty #[v, .slice a0 m c]).run Tryz.prog w = .ok v' w' ∧ w'.ownsRow B e size v' (n + m) (xs ++ news) ∧ w.grownBy w' v.ownBlock ∧ (v'.ownBlock = v.ownBlock ∨ v'.ownBlock = some w.heap.size) ∧ (v ≠ .slice none 0 0 ∨ 0 < m → v' ≠ .slice none 0 0) := by
 obtain ⟨i, z, hi, hz, hs, hb, hzs⟩ := K.inf
 have hby : (n + m) * bytes ≤ 140737488355328 := Nat.le_trans (Nat.mul_le_mul hnm K.sml) (by omega)
 cases a0 with
 | none =>
  have hn0 : news = [] := by
   rcases hsrc with h | ⟨b, off, e, _⟩
   ·exact h
   ·cases e
  subst hn0
  have hm : m = 0 := by
   have := K.pos
   simp only [List.length_nil] at hl
   rcases Nat.eq_zero_or_pos m with h | h
   ·exact h
   ·have := Nat.mul_pos h K.pos
    omega
  subst hm
  refine ⟨v, w, ?_, by simpa using hown, World.grownBy.refl _ _, .inl rfl, fun h => h.elim id fun h => by omega⟩
  rcases hown.2 with ⟨rfl, _⟩ | ⟨g, cap, cur, rfl, _, _, hnc, _⟩
  ·simp [Builtin.append_, run_underlying K.und, sizeOf, typeInfo, hi, Builtin.lenOf, Builtin.firstCells]
  ·simp [Builtin.append_, run_underlying K.und, sizeOf, typeInfo, hi, Builtin.lenOf, Builtin.firstCells, hnc, storeCells]
 | some a =>
  have hnews : ∀ j u, news[j]? = some u → w.cell? (a.add j) = some u := by
   rcases hsrc with h0 | ⟨b, off, e, hlt, hc⟩
   ·subst h0
    intro j u hj
    simp at hj
   ·cases e
    intro j u hj
    have ha : Addr.add ⟨b, off, none⟩ j = ⟨b, off + j, none⟩ := by unfold Addr.add; split <;> simp_all
    rw [ha]
    exact hc j u hj
  obtain ⟨v', w', r1, r2, r3, r4, r5⟩ := run_append_own_at (P := Tryz.prog) w B t ty e i z size bytes K.und hi hz hs hb hzs K.pos v n xs hown a m c news hl hnews h1 (by unfold maxLen; omega) hby hB
  exact ⟨v', w', r1, r2, r3, r5, fun h e => h.elim (fun h => h (r4.1 e).1) fun h => by have := (r4.1 e).2; omega⟩
theorem step_append_src {ops : Array Oper} {rest : List Oper} {op : Oper} {act : Act} {Q : Exit → Act → World → Prop} {t e : TypeId} {size bytes : Nat} (K : Kind t e size bytes) (w : World) (hgd : op.guard = none) (s x : Operand)
  (ho : op.op = .call { callee := .builtin .append, args := #[s, x], argTypes := #[t, t] })
  (B : Nat) (v : Value) (n : Nat) (xs : List Value) (hs : act.eval s = v) (hown : w.ownsRow B e size v n xs) (a0 : Option Addr) (m c : Nat) (news : List Value) (hx : act.eval x = .slice a0 m c) (hl : news.length = m * size) (hsrc : Src w a0 news) (h1 : ∀ u ∈ news, u.oneCell' = true) (hnm : n + m ≤ 4000000) (hB : B ≤ w.heap.size)
  (h : ∀ v' w', w'.ownsRow B e size v' (n + m) (xs ++ news) → w.grownBy w' v.ownBlock → (v'.ownBlock = v.ownBlock ∨ v'.ownBlock = some w.heap.size) → (v ≠ .slice none 0 0 ∨ 0 < m → v' ≠ .slice none 0 0) → wpList Tryz.prog ops Q rest (act.put op.dst v') w') :
  wpList Tryz.prog ops Q (op :: rest) act w := by
 obtain ⟨v', w', r1, r2, r3, r4, r5⟩ := run_append_src K w op.type B v n xs hown a0 m c news hl hsrc h1 hnm hB
 refine wpList_plain hgd fun K hK => ?_
 unfold Oper.wp execOp
 simp only [ho, resolve, invoke, builtin, Sem.run_bind, Sem.run_pure, Result.andThen_ok, List.map_toArray, List.map_cons, List.map_nil, hs, hx, r1]
 exact hK _ _ (h v' w' r2 r3 r4 r5)
theorem step_append_srcN {ops : Array Oper} {rest : List Oper} {op : Oper} {act : Act} {Q : Exit → Act → World → Prop} {t e : TypeId} {size bytes : Nat} (K : Kind t e size bytes) (w : World) {N : Nat} (hN : N = w.heap.size) (hgd : op.guard = none) (s x : Operand)
  (ho : op.op = .call { callee := .builtin .append, args := #[s, x], argTypes := #[t, t] })
  (a0 : Option Addr) (m c : Nat) (news : List Value) (hs : act.eval s = .slice (some ⟨N, 0, none⟩) 0 0) (hx : act.eval x = .slice a0 m c) (hl : news.length = m * size) (hsrc : Src w a0 news) (h1 : ∀ u ∈ news, u.oneCell' = true) (hnm : m ≤ 4000000)
  (h : ∀ v' w', w'.ownsRow w.heap.size e size v' m news → Below w.heap.size w w' → v' ≠ .slice none 0 0 → wpList Tryz.prog ops Q rest (act.put op.dst v') w') :
  wpList Tryz.prog ops Q (op :: rest) act (w.alloc (.cells #[] e)) := by
 subst hN
 have hb : Below w.heap.size w (w.alloc (.cells #[] e)) := below_allocL _ _
 refine step_append_src K _ hgd s x ho w.heap.size (.slice (some ⟨w.heap.size, 0, none⟩) 0 0) 0 [] hs (World.ownsRow_made (base := w.heap.size) (e := e) (size := size) w #[] 0 (Nat.le_refl _) (by unfold maxLen; omega) (by simp)) a0 m c news hx hl (hsrc.below hb) h1 (by omega) (by simp) ?_
 intro v' w' o g _ hne
 rw [Nat.zero_add, List.nil_append] at o
 exact h v' w' o (hb.grown g (by simp) (fun k hk => by cases hk; exact Nat.le_refl _)) (hne (.inl (by simp)))
theorem step_append_val {ops : Array Oper} {rest : List Oper} {op : Oper} {act : Act} {Q : Exit → Act → World → Prop} {t e : TypeId} {size bytes : Nat} (K : Kind t e size bytes) (w : World) {N : Nat} (hN : N = w.heap.size) (hgd : op.guard = none) (s x : Operand)
  (ho : op.op = .call { callee := .builtin .append, args := #[s, x], argTypes := #[t, t] })
  (B : Nat) (v : Value) (n : Nat) (xs : List Value) (hs : act.eval s = v) (hown : w.ownsRow B e size v n xs) (cs : Array Value) (hx : act.eval x = .slice (some ⟨N, 0, none⟩) 1 1) (hl : cs.size = size) (h1 : ∀ u ∈ cs.toList, u.oneCell' = true) (hn : n ≤ 2000000) (hB : B ≤ w.heap.size)
  (h : ∀ v' w', w'.ownsRow B e size v' (n + 1) (xs ++ cs.toList) → w.grownBy w' v.ownBlock → (∀ j, v'.ownBlock = some j → v.ownBlock = some j ∨ w.heap.size ≤ j) → v' ≠ .slice none 0 0 → wpList Tryz.prog ops Q rest (act.put op.dst v') w') :
  wpList Tryz.prog ops Q (op :: rest) act (w.alloc (.cells cs e)) := by
 subst hN
 have hb : Below w.heap.size w (w.alloc (.cells cs e)) := below_allocL _ _
 refine step_append_src K _ hgd s x ho B v n xs hs (hown.alloc _) (some ⟨w.heap.size, 0, none⟩) 1 1 cs.toList hx (by simp [hl]) (.inr ⟨w.heap.size, 0, rfl, by simp, fun j u hj => ?_⟩) h1 (by omega) (by simp; omega) ?_
 ·rw [Nat.zero_add, new_cell _ _ _ j rfl]
  simpa using hj
 ·intro v' w' o g hbk hne
  refine h v' w' o ⟨g.os, g.tape, g.output, Nat.le_trans hb.size g.size, fun j hj hne => (g.block j (Nat.lt_of_lt_of_le hj hb.size) hne).trans (hb.block j hj)⟩ (fun j hj => ?_) (hne (.inr (by omega)))
  rcases hbk with a | a
  ·exact .inl (a.symm.trans hj)
  ·rw [hj] at a
   simp only [Option.some.injEq] at a
   right
   rw [a]
   simp
structure LL (e : TypeId) (sz : Nat) (E : TypeId) (w : World) (P : Nat → Prop) (v : Value) (n : Nat) (u : Nat → Value) (L : Nat → Nat) (c : Nat → List Value) : Prop where
 row : w.ownsRow 0 E 1 v n ((List.range n).map u)
 own : ∀ i, i < n → w.ownsRow 0 e sz (u i) (L i) (c i)
 rb : ∀ k, v.ownBlock = some k → P k
 ob : ∀ i, i < n → ∀ k, (u i).ownBlock = some k → P k
 ra : ∀ i, i < n → ∀ k, (u i).ownBlock = some k → v.ownBlock ≠ some k
 oa : ∀ i j, i < n → j < n → i ≠ j → ∀ k, (u i).ownBlock = some k → (u j).ownBlock ≠ some k
 nn : ∀ i, i < n → u i ≠ .slice none 0 0
theorem ownsRow_blkL {w w' : World} {B size n : Nat} {e : TypeId} {v : Value} {xs : List Value} (h : w.ownsRow B e size v n xs) (hb : ∀ k, v.ownBlock = some k → w'.heap[k]? = w.heap[k]?) : w'.ownsRow B e size v n xs := by
 refine ⟨h.1, ?_⟩
 rcases h.2 with hn | ⟨g, cap, cur, rfl, hB, hg, hr⟩
 ·exact .inl hn
 ·exact .inr ⟨g, cap, cur, rfl, hB, (hb g rfl).trans hg, hr⟩
theorem ownsRow_base0 {w : World} {B size n : Nat} {e : TypeId} {v : Value} {xs : List Value} (h : w.ownsRow B e size v n xs) : w.ownsRow 0 e size v n xs := h.mono (Nat.zero_le _)
section
variable {e : TypeId} {sz : Nat} {E : TypeId} {w : World} {P : Nat → Prop} {v : Value} {n : Nat} {u : Nat → Value} {L : Nat → Nat} {c : Nat → List Value}
theorem LL.keep (o : LL e sz E w P v n u L c) {w' : World} (hb : ∀ k, P k → k < w.heap.size → w'.heap[k]? = w.heap[k]?) : LL e sz E w' P v n u L c :=
 ⟨ownsRow_blkL o.row fun k hk => hb k (o.rb k hk) (o.row.lt k hk).2, fun i hi => ownsRow_blkL (o.own i hi) fun k hk => hb k (o.ob i hi k hk) ((o.own i hi).lt k hk).2, o.rb, o.ob, o.ra, o.oa, o.nn⟩
theorem LL.below (o : LL e sz E w P v n u L c) {w' : World} (hb : Below w.heap.size w w') : LL e sz E w' P v n u L c := o.keep fun k _ hk => hb.block k hk
theorem LL.mono (o : LL e sz E w P v n u L c) {P' : Nat → Prop} (h : ∀ k, P k → k < w.heap.size → P' k) : LL e sz E w P' v n u L c :=
 ⟨o.row, o.own, fun k hk => h k (o.rb k hk) (o.row.lt k hk).2, fun i hi k hk => h k (o.ob i hi k hk) ((o.own i hi).lt k hk).2, o.ra, o.oa, o.nn⟩
theorem LL.push (o : LL e sz E w P v n u L c) {w1 w2 : World} {u' v' : Value} (b1 : Below w.heap.size w w1) (hu : w1.ownsRow w.heap.size e sz u' (L n) (c n)) (hne : u' ≠ .slice none 0 0) (hv : w2.ownsRow 0 E 1 v' (n + 1) ((List.range n).map u ++ [u'])) (g : w1.grownBy w2 v.ownBlock)
  (hv' : ∀ j, v'.ownBlock = some j → v.ownBlock = some j ∨ w1.heap.size ≤ j) {P' : Nat → Prop} (hP : ∀ k, P k → k < w.heap.size → P' k) (hP' : ∀ k, w.heap.size ≤ k → k < w2.heap.size → P' k) : LL e sz E w2 P' v' (n + 1) (fun j => if j = n then u' else u j) L c := by
 have hvlt : ∀ k, v.ownBlock = some k → k < w.heap.size := fun k hk => (o.row.lt k hk).2
 have hu2 : w2.ownsRow w.heap.size e sz u' (L n) (c n) := hu.kept g (by
  cases hk : u'.ownBlock with
  | none => exact .inl rfl
  | some k =>
   refine .inr fun e => ?_
   have q1 := (hu.lt k hk).1
   have q2 := hvlt k e.symm
   omega)
 have ho2 : ∀ i, i < n → w2.ownsRow 0 e sz (u i) (L i) (c i) := fun i hi => ownsRow_blkL (o.own i hi) fun k hk => (g.block k (Nat.lt_of_lt_of_le ((o.own i hi).lt k hk).2 b1.size) fun e => o.ra i hi k hk e.symm).trans (b1.block k ((o.own i hi).lt k hk).2)
 have lts : ∀ i, i < n → ∀ k, (u i).ownBlock = some k → k < w.heap.size := fun i hi k hk => ((o.own i hi).lt k hk).2
 refine ⟨?_, fun i hi => ?_, fun k hk => ?_, fun i hi k hk => ?_, fun i hi k hk => ?_, fun i j hi hj hij k hk => ?_, fun i hi => ?_⟩
 ·have e : (List.range (n + 1)).map (fun j => if j = n then u' else u j) = (List.range n).map u ++ [u'] := by
   rw [List.range_succ, List.map_append]
   simp only [List.map_cons, List.map_nil, if_true]
   congr 1
   exact List.map_congr_left fun j hj => by
    rw [if_neg]
    have := List.mem_range.1 hj
    omega
  rw [e]
  exact hv
 ·by_cases ei : i = n
  ·subst ei
   rw [if_pos rfl]
   exact ownsRow_base0 hu2
  ·rw [if_neg ei]
   exact ho2 i (by omega)
 ·rcases hv' k hk with h | h
  ·exact hP k (o.rb k h) (hvlt k h)
  ·exact hP' k (Nat.le_trans b1.size h) (hv.lt k hk).2
 ·by_cases ei : i = n
  ·simp only [if_pos ei] at hk
   exact hP' k (hu.lt k hk).1 (hu2.lt k hk).2
  ·simp only [if_neg ei] at hk
   exact hP k (o.ob i (by omega) k hk) (lts i (by omega) k hk)
 ·intro hvk
  by_cases ei : i = n
  ·simp only [if_pos ei] at hk
   rcases hv' k hvk with h | h
   ·have := hvlt k h
    have := (hu.lt k hk).1
    omega
   ·have := (hu.lt k hk).2
    omega
  ·simp only [if_neg ei] at hk
   rcases hv' k hvk with h | h
   ·exact o.ra i (by omega) k hk h
   ·have := lts i (by omega) k hk
    have := b1.size
    omega
 ·intro hjk
  by_cases ei : i = n
  ·have ej : j ≠ n := fun e => hij (by omega)
   simp only [if_pos ei] at hk
   simp only [if_neg ej] at hjk
   have := lts j (by omega) k hjk
   have := (hu.lt k hk).1
   omega
  ·simp only [if_neg ei] at hk
   by_cases ej : j = n
   ·simp only [if_pos ej] at hjk
    have := lts i (by omega) k hk
    have := (hu.lt k hjk).1
    omega
   ·simp only [if_neg ej] at hjk
    exact o.oa i j (by omega) (by omega) hij k hk hjk
 ·by_cases ei : i = n
  ·rw [if_pos ei]
   exact hne
  ·rw [if_neg ei]
   exact o.nn i (by omega)
theorem LL.nil (e : TypeId) (sz : Nat) (E : TypeId) (w : World) (P : Nat → Prop) (u : Nat → Value) (L : Nat → Nat) (c : Nat → List Value) : LL e sz E w P (.slice none 0 0) 0 u L c :=
 ⟨World.ownsRow_nil _ _ _ _, fun i hi => (by omega), fun k hk => (by cases hk), fun i hi => (by omega), fun i hi => (by omega), fun i j hi => (by omega), fun i hi => by omega⟩
theorem LL.new (e : TypeId) (sz : Nat) (E : TypeId) (w : World) (P : Nat → Prop) (hP : P w.heap.size) (u : Nat → Value) (L : Nat → Nat) (c : Nat → List Value) : LL e sz E (w.alloc (.cells #[] E)) P (.slice (some ⟨w.heap.size, 0, none⟩) 0 0) 0 u L c :=
 ⟨World.ownsRow_made (base := 0) (e := E) (size := 1) w #[] 0 (Nat.zero_le _) (by unfold maxLen; omega) rfl, fun i hi => (by omega), fun k hk => (by cases hk; exact hP), fun i hi => (by omega), fun i hi => (by omega), fun i j hi => (by omega), fun i hi => by omega⟩
theorem LL.cell (o : LL e sz E w P v n u L c) {i : Nat} (hi : i < n) : ∃ g cap, v = .slice (some ⟨g, 0, none⟩) n cap ∧ P g ∧ g < w.heap.size ∧ w.cell? ⟨g, i, none⟩ = some (u i) ∧ ∀ j, w.frozen? ⟨g, j, none⟩ = false := by
 rcases o.row.2 with ⟨_, h0⟩ | ⟨g, cap, cur, rfl, hb, hg, hr⟩
 ·omega
 ·refine ⟨g, cap, rfl, o.rb g rfl, (o.row.lt g rfl).2, ?_, fun j => o.row.frozenAt j⟩
  rw [o.row.cellAt i (by omega)]
  simp [hi]
theorem LL.put {g cap : Nat} (o : LL e sz E w P (.slice (some ⟨g, 0, none⟩) n cap) n u L c) {i : Nat} (hi : i < n) {w1 : World} {u' : Value} {m : Nat} {c' : List Value} (_hs : w.heap.size ≤ w1.heap.size) (g1 : ∀ k, k < w.heap.size → (u i).ownBlock ≠ some k → w1.heap[k]? = w.heap[k]?)
  (hu : w1.ownsRow 0 e sz u' m c') (hne : u' ≠ .slice none 0 0) (hb : ∀ k, u'.ownBlock = some k → (u i).ownBlock = some k ∨ w.heap.size ≤ k) {P' : Nat → Prop} (hP : ∀ k, P k → k < w.heap.size → P' k) (hP' : ∀ k, w.heap.size ≤ k → k < w1.heap.size → P' k) :
  LL e sz E (w1.setCell ⟨g, i, none⟩ u') P' (.slice (some ⟨g, 0, none⟩) n cap) n (fun j => if j = i then u' else u j) (fun j => if j = i then m else L j) (fun j => if j = i then c' else c j) := by
 have hg : g < w.heap.size := (o.row.lt g rfl).2
 have hgi : (u i).ownBlock ≠ some g := fun e => o.ra i hi g e rfl
 have row1 : w1.ownsRow 0 E 1 (.slice (some ⟨g, 0, none⟩) n cap) n ((List.range n).map u) := ownsRow_blkL o.row fun k hk => by
  cases hk
  exact g1 g hg hgi
 have hu'g : u'.ownBlock ≠ some g := fun e => by
  rcases hb g e with h | h
  ·exact hgi h
  ·omega
 have lts : ∀ j, j < n → ∀ k, (u j).ownBlock = some k → k < w.heap.size := fun j hj k hk => ((o.own j hj).lt k hk).2
 refine ⟨?_, fun j hj => ?_, fun k hk => ?_, fun j hj k hk => ?_, fun j hj k hk => ?_, fun a b ha hb' hab k hk => ?_, fun j hj => ?_⟩
 ·have h := (World.ownsRow.stored row1 i u').1
  have e : (List.range n).map (fun j => if j = i then u' else u j) = ((List.range n).map u).set i u' := by
   apply List.ext_getElem (by simp)
   intro j h1 h2
   simp only [List.getElem_map, List.getElem_range, List.getElem_set]
   by_cases q : j = i
   ·rw [if_pos q, if_pos q.symm]
   ·rw [if_neg q, if_neg fun e => q e.symm]
  rw [e]
  exact h
 ·by_cases ej : j = i
  ·subst ej
   simp only [if_true]
   exact ownsRow_setCell_other hu hu'g _
  ·simp only [if_neg ej]
   refine ownsRow_setCell_other (ownsRow_blkL (o.own j hj) fun k hk => g1 k (lts j hj k hk) fun e => o.oa j i hj hi ej k hk e) (fun e => o.ra j hj g e rfl) _
 ·cases hk
  exact hP g (o.rb g rfl) hg
 ·by_cases ej : j = i
  ·simp only [if_pos ej] at hk
   rcases hb k hk with h | h
   ·exact hP k (o.ob i hi k h) (lts i hi k h)
   ·exact hP' k h (hu.lt k hk).2
  ·simp only [if_neg ej] at hk
   exact hP k (o.ob j hj k hk) (lts j hj k hk)
 ·intro hvk
  cases hvk
  by_cases ej : j = i
  ·simp only [if_pos ej] at hk
   exact hu'g hk
  ·simp only [if_neg ej] at hk
   exact o.ra j hj g hk rfl
 ·intro hbk
  by_cases ea : a = i
  ·have eb : b ≠ i := fun e => hab (by omega)
   simp only [if_pos ea] at hk
   simp only [if_neg eb] at hbk
   rcases hb k hk with h | h
   ·exact o.oa b i hb' hi eb k hbk h
   ·have := lts b hb' k hbk
    omega
  ·simp only [if_neg ea] at hk
   by_cases eb : b = i
   ·simp only [if_pos eb] at hbk
    rcases hb k hbk with h | h
    ·exact o.oa a i ha hi ea k hk h
    ·have := lts a ha k hk
     omega
   ·simp only [if_neg eb] at hbk
    exact o.oa a b ha hb' hab k hk hbk
 ·by_cases ej : j = i
  ·simp only [if_pos ej]
   exact hne
  ·simp only [if_neg ej]
   exact o.nn j hj
end
def flat (f : Nat → List Value) : Nat → List Value
 | 0 => []
 | n + 1 => flat f n ++ f n
theorem flat_len {f : Nat → List Value} {sz : Nat} : ∀ {n : Nat}, (∀ i, i < n → (f i).length = sz) → (flat f n).length = n * sz
 | 0, _ => by simp [flat]
 | n + 1, h => by
  rw [flat, List.length_append, flat_len (fun i hi => h i (by omega)), h n (by omega), Nat.add_mul, Nat.one_mul]
theorem flat_at {f : Nat → List Value} {sz : Nat} : ∀ {n : Nat}, (∀ i, i < n → (f i).length = sz) → ∀ {i j : Nat}, i < n → j < sz → (flat f n)[i * sz + j]? = (f i)[j]?
 | 0, _, i, j, hi, _ => by omega
 | n + 1, h, i, j, hi, hj => by
  have hl := flat_len (f := f) (sz := sz) (n := n) fun i hi => h i (by omega)
  by_cases e : i = n
  ·subst e
   rw [flat, List.getElem?_append_right (by omega), hl]
   congr 1
   omega
  ·have : i * sz + sz ≤ n * sz := by
    have := Nat.mul_le_mul_right sz (show i + 1 ≤ n by omega)
    rw [Nat.add_mul, Nat.one_mul] at this
    exact this
   rw [flat, List.getElem?_append_left (by omega)]
   exact flat_at (fun i hi => h i (by omega)) (by omega) hj
theorem flat_one {f : Nat → List Value} : ∀ {n : Nat}, (∀ i, i < n → ∀ u ∈ f i, u.oneCell' = true) → ∀ u ∈ flat f n, u.oneCell' = true
 | 0, _, u, hu => by simp [flat] at hu
 | n + 1, h, u, hu => by
  rw [flat, List.mem_append] at hu
  rcases hu with hu | hu
  ·exact flat_one (fun i hi => h i (by omega)) u hu
  ·exact h n (by omega) u hu
theorem flat_congr {f g : Nat → List Value} : ∀ {n : Nat}, (∀ i, i < n → f i = g i) → flat f n = flat g n
 | 0, _ => rfl
 | n + 1, h => by rw [flat, flat, flat_congr fun i hi => h i (by omega), h n (by omega)]
theorem flat_set4 {f : Nat → List Value} {n i : Nat} (hl : ∀ j, j < n → (f j).length = 4) (hi : i < n) (a b c d : Value) :
  flat (fun j => if j = i then [a, b, c, d] else f j) n = ((((flat f n).set (i * 4) a).set (i * 4 + 1) b).set (i * 4 + 2) c).set (i * 4 + 3) d := by
 have hl' : ∀ j, j < n → ((fun j => if j = i then [a, b, c, d] else f j) j).length = 4 := fun j hj => by
  by_cases e : j = i
  ·simp [e]
  ·simp [e, hl j hj]
 have n1 := flat_len hl
 have n2 := flat_len hl'
 apply List.ext_getElem?
 intro q
 by_cases hq : q < n * 4
 ·have hk : q / 4 < n := by omega
  have hr : q % 4 < 4 := by omega
  have e : q = q / 4 * 4 + q % 4 := by omega
  have e1 := flat_at hl' hk hr
  have e2 := flat_at hl hk hr
  rw [← e] at e1 e2
  rw [e1]
  by_cases ei : q / 4 = i
  ·simp only [if_pos ei]
   have hr4 : q % 4 = 0 ∨ q % 4 = 1 ∨ q % 4 = 2 ∨ q % 4 = 3 := by omega
   rcases hr4 with h | h | h | h <;> rw [h] <;>
    (simp only [List.getElem?_set, List.length_set, n1]
     have : i < n := hi
     repeat (first | rw [if_pos (by omega)] | rw [if_neg (by omega)])
     simp)
  ·simp only [if_neg ei]
   simp only [List.getElem?_set, List.length_set, n1]
   rw [if_neg (by omega), if_neg (by omega), if_neg (by omega), if_neg (by omega), e2]
 ·rw [List.getElem?_eq_none (by omega), List.getElem?_eq_none (by simp only [List.length_set]; omega)]
def cellsL : Value → List Value
 | .agg a => a.toList
 | _ => []
theorem StOwn.cellsL {w : World} {B : Nat} {v : Value} {p code : Int} {rs os : List Int} (h : StOwn w B v p rs os code) : (cellsL v).length = 4 ∧ ∀ u ∈ cellsL v, u.oneCell' = true := by
 obtain ⟨vr, vo, rfl, h1, h2, -⟩ := h
 obtain ⟨a1, c1, rfl, -⟩ := h1.form
 obtain ⟨a2, c2, rfl, -⟩ := h2.form
 refine ⟨rfl, fun u hu => ?_⟩
 simp [Go.Proofs.YtdigofhceahpdaaGreatDoor.cellsL] at hu
 rcases hu with rfl | rfl | rfl | rfl <;> rfl
structure LS (w : World) (P : Nat → Prop) (v : Value) (n : Nat) (vs : Nat → Value) (S : Nat → S4) : Prop where
 row : w.ownsRow 0 54 4 v n (flat (fun i => cellsL (vs i)) n)
 own : ∀ i, i < n → StOwn w 0 (vs i) (S i).p (S i).rs (S i).os (S i).c
 rb : ∀ k, v.ownBlock = some k → P k
 ob : ∀ i, i < n → ∀ k, hasBlock (vs i) k → P k
 ra : ∀ i, i < n → ∀ k, hasBlock (vs i) k → v.ownBlock ≠ some k
 oa : ∀ i j, i < n → j < n → i ≠ j → ∀ k, hasBlock (vs i) k → ¬ hasBlock (vs j) k
section
variable {w : World} {P : Nat → Prop} {v : Value} {n : Nat} {vs : Nat → Value} {S : Nat → S4}
theorem LS.keep (o : LS w P v n vs S) {w' : World} (hb : ∀ k, P k → k < w.heap.size → w'.heap[k]? = w.heap[k]?) : LS w' P v n vs S :=
 ⟨ownsRow_blkL o.row fun k hk => hb k (o.rb k hk) (o.row.lt k hk).2, fun i hi => (o.own i hi).blk fun k hk => hb k (o.ob i hi k hk) ((o.own i hi).lt hk).2, o.rb, o.ob, o.ra, o.oa⟩
theorem LS.below (o : LS w P v n vs S) {w' : World} (hb : Below w.heap.size w w') : LS w' P v n vs S := o.keep fun k _ hk => hb.block k hk
theorem LS.mono (o : LS w P v n vs S) {P' : Nat → Prop} (h : ∀ k, P k → k < w.heap.size → P' k) : LS w P' v n vs S :=
 ⟨o.row, o.own, fun k hk => h k (o.rb k hk) (o.row.lt k hk).2, fun i hi k hk => h k (o.ob i hi k hk) ((o.own i hi).lt hk).2, o.ra, o.oa⟩
theorem LS.nil (w : World) (P : Nat → Prop) (vs : Nat → Value) (S : Nat → S4) : LS w P (.slice none 0 0) 0 vs S :=
 ⟨World.ownsRow_nil _ _ _ _, fun i hi => (by omega), fun k hk => (by cases hk), fun i hi => (by omega), fun i hi => (by omega), fun i j hi => (by omega)⟩
theorem LS.push (o : LS w P v n vs S) {w1 w2 : World} {u' v' : Value} (b1 : Below w.heap.size w w1) (hu : StOwn w1 w.heap.size u' (S n).p (S n).rs (S n).os (S n).c) (hv : w2.ownsRow 0 54 4 v' (n + 1) (flat (fun i => cellsL (vs i)) n ++ cellsL u')) (g : w1.grownBy w2 v.ownBlock)
  (hv' : ∀ j, v'.ownBlock = some j → v.ownBlock = some j ∨ w1.heap.size ≤ j) {P' : Nat → Prop} (hP : ∀ k, P k → k < w.heap.size → P' k) (hP' : ∀ k, w.heap.size ≤ k → k < w2.heap.size → P' k) : LS w2 P' v' (n + 1) (fun j => if j = n then u' else vs j) S := by
 have hvlt : ∀ k, v.ownBlock = some k → k < w.heap.size := fun k hk => (o.row.lt k hk).2
 have lts : ∀ i, i < n → ∀ k, hasBlock (vs i) k → k < w.heap.size := fun i hi k hk => ((o.own i hi).lt hk).2
 have hu2 : StOwn w2 w.heap.size u' (S n).p (S n).rs (S n).os (S n).c := hu.blk fun k hk => g.block k (hu.lt hk).2 fun e => by
  have q1 := (hu.lt hk).1
  have q2 := hvlt k e.symm
  omega
 have ho2 : ∀ i, i < n → StOwn w2 0 (vs i) (S i).p (S i).rs (S i).os (S i).c := fun i hi => (o.own i hi).blk fun k hk => (g.block k (Nat.lt_of_lt_of_le (lts i hi k hk) b1.size) fun e => o.ra i hi k hk e.symm).trans (b1.block k (lts i hi k hk))
 refine ⟨?_, fun i hi => ?_, fun k hk => ?_, fun i hi k hk => ?_, fun i hi k hk => ?_, fun i j hi hj hij k hk => ?_⟩
 ·have e : flat (fun i => cellsL (if i = n then u' else vs i)) (n + 1) = flat (fun i => cellsL (vs i)) n ++ cellsL u' := by
   rw [flat, if_pos rfl]
   congr 1
   exact flat_congr fun i hi => by rw [if_neg (by omega)]
  rw [e]
  exact hv
 ·by_cases ei : i = n
  ·subst ei
   simp only [if_true]
   exact hu2.mono (Nat.zero_le _)
  ·simp only [if_neg ei]
   exact ho2 i (by omega)
 ·rcases hv' k hk with h | h
  ·exact hP k (o.rb k h) (hvlt k h)
  ·exact hP' k (Nat.le_trans b1.size h) (hv.lt k hk).2
 ·by_cases ei : i = n
  ·simp only [if_pos ei] at hk
   exact hP' k (hu.lt hk).1 (hu2.lt hk).2
  ·simp only [if_neg ei] at hk
   exact hP k (o.ob i (by omega) k hk) (lts i (by omega) k hk)
 ·intro hvk
  by_cases ei : i = n
  ·simp only [if_pos ei] at hk
   rcases hv' k hvk with h | h
   ·have := hvlt k h
    have := (hu.lt hk).1
    omega
   ·have := (hu.lt hk).2
    omega
  ·simp only [if_neg ei] at hk
   rcases hv' k hvk with h | h
   ·exact o.ra i (by omega) k hk h
   ·have := lts i (by omega) k hk
    have := b1.size
    omega
 ·intro hjk
  by_cases ei : i = n
  ·have ej : j ≠ n := fun e => hij (by omega)
   simp only [if_pos ei] at hk
   simp only [if_neg ej] at hjk
   have := lts j (by omega) k hjk
   have := (hu.lt hk).1
   omega
  ·simp only [if_neg ei] at hk
   by_cases ej : j = n
   ·simp only [if_pos ej] at hjk
    have := lts i (by omega) k hk
    have := (hu.lt hjk).1
    omega
   ·simp only [if_neg ej] at hjk
    exact o.oa i j (by omega) (by omega) hij k hk hjk
theorem LS.cell (o : LS w P v n vs S) {i : Nat} (hi : i < n) : ∃ g cap, v = .slice (some ⟨g, 0, none⟩) n cap ∧ P g ∧ g < w.heap.size ∧ Cel4 w g (i * 4) (S i) (vs i) ∧ ∀ j, w.frozen? ⟨g, j, none⟩ = false := by
 have hr := o.row
 rcases hr.2 with ⟨_, h0⟩ | ⟨g, cap, cur, rfl, hb, hg, hcap, _⟩
 ·omega
 ·refine ⟨g, cap, rfl, o.rb g rfl, (o.row.lt g rfl).2, ?_, fun j => o.row.frozenAt j⟩
  have hl : ∀ j, j < n → (cellsL (vs j)).length = 4 := fun j hj => (o.own j hj).cellsL.1
  have hc : ∀ j, j < 4 → w.cell? ⟨g, i * 4 + j, none⟩ = (cellsL (vs i))[j]? := fun j hj => by
   rw [o.row.cellAt (i * 4 + j) (by omega)]
   exact flat_at hl hi hj
  obtain ⟨vr, vo, e, h1, h2, -⟩ := o.own i hi
  obtain ⟨a1, c1, rfl, -⟩ := h1.form
  obtain ⟨a2, c2, rfl, -⟩ := h2.form
  rw [e] at hc
  exact ⟨a1, c1, a2, c2, e, hc 0 (by omega), hc 1 (by omega), hc 2 (by omega), hc 3 (by omega)⟩
theorem LS.put {g cap : Nat} (o : LS w P (.slice (some ⟨g, 0, none⟩) n cap) n vs S) {i : Nat} (hi : i < n) {w1 : World} {ra oa : Option Addr} {rn rc on oc : Nat} {p code : Int} {T : S4} (b1 : Below w.heap.size w w1) (hu : StOwn w1 w.heap.size (stV p ra rn rc oa on oc code) T.p T.rs T.os T.c)
  {P' : Nat → Prop} (hP : ∀ k, P k → k < w.heap.size → P' k) (hP' : ∀ k, w.heap.size ≤ k → k < w1.heap.size → P' k) :
  LS ((((w1.setCell ⟨g, i * 4, none⟩ (.int .i64 p)).setCell ⟨g, i * 4 + 1, none⟩ (.slice ra rn rc)).setCell ⟨g, i * 4 + 2, none⟩ (.slice oa on oc)).setCell ⟨g, i * 4 + 3, none⟩ (.int .i64 code)) P' (.slice (some ⟨g, 0, none⟩) n cap) n (fun j => if j = i then stV p ra rn rc oa on oc code else vs j) (fun j => if j = i then T else S j) := by
 have hg : g < w.heap.size := (o.row.lt g rfl).2
 have lts : ∀ j, j < n → ∀ k, hasBlock (vs j) k → k < w.heap.size := fun j hj k hk => ((o.own j hj).lt hk).2
 have hbk : ∀ k, k ≠ g → ((((w1.setCell ⟨g, i * 4, none⟩ (.int .i64 p)).setCell ⟨g, i * 4 + 1, none⟩ (.slice ra rn rc)).setCell ⟨g, i * 4 + 2, none⟩ (.slice oa on oc)).setCell ⟨g, i * 4 + 3, none⟩ (.int .i64 code)).heap[k]? = w1.heap[k]? := fun k hne => (Below.heap_setCell _ _ _ _ hne).trans ((Below.heap_setCell _ _ _ _ hne).trans ((Below.heap_setCell _ _ _ _ hne).trans (Below.heap_setCell _ _ _ _ hne)))
 refine ⟨?_, fun j hj => ?_, fun k hk => ?_, fun j hj k hk => ?_, fun j hj k hk => ?_, fun a b ha hb hab k hk => ?_⟩
 ·have hl : ∀ j, j < n → (cellsL (vs j)).length = 4 := fun j hj => (o.own j hj).cellsL.1
  have e : flat (fun j => cellsL (if j = i then stV p ra rn rc oa on oc code else vs j)) n = flat (fun j => if j = i then [.int .i64 p, .slice ra rn rc, .slice oa on oc, .int .i64 code] else cellsL (vs j)) n := flat_congr fun j _ => by
   by_cases ej : j = i
   ·rw [if_pos ej, if_pos ej]; rfl
   ·rw [if_neg ej, if_neg ej]
  rw [e, flat_set4 hl hi]
  exact (World.ownsRow.stored (World.ownsRow.stored (World.ownsRow.stored (World.ownsRow.stored (ownsRow_blkL o.row fun k hk => by cases hk; exact b1.block g hg) _ _).1 _ _).1 _ _).1 _ _).1
 ·by_cases ej : j = i
  ·subst ej
   simp only [if_true]
   refine (hu.mono (Nat.zero_le _)).blk fun k hk => hbk k ?_
   have := (hu.lt hk).1
   omega
  ·simp only [if_neg ej]
   refine (o.own j hj).blk fun k hk => (hbk k fun e => ?_).trans (b1.block k (lts j hj k hk))
   exact o.ra j hj k hk (by rw [e]; rfl)
 ·cases hk
  exact hP g (o.rb g rfl) hg
 ·by_cases ej : j = i
  ·simp only [if_pos ej] at hk
   exact hP' k (hu.lt hk).1 (hu.lt hk).2
  ·simp only [if_neg ej] at hk
   exact hP k (o.ob j hj k hk) (lts j hj k hk)
 ·intro hvk
  by_cases ej : j = i
  ·simp only [if_pos ej] at hk
   have := (hu.lt hk).1
   have hkg : g = k := by simpa [Value.ownBlock] using hvk
   omega
  ·simp only [if_neg ej] at hk
   exact o.ra j hj k hk hvk
 ·intro hbk'
  by_cases ea : a = i
  ·have eb : b ≠ i := fun e => hab (by omega)
   simp only [if_pos ea] at hk
   simp only [if_neg eb] at hbk'
   have := lts b hb k hbk'
   have := (hu.lt hk).1
   omega
  ·simp only [if_neg ea] at hk
   by_cases eb : b = i
   ·simp only [if_pos eb] at hbk'
    have := lts a ha k hk
    have := (hu.lt hbk').1
    omega
   ·simp only [if_neg eb] at hbk'
    exact o.oa a b ha hb hab k hk hbk'
end
def cI (h : I5) : List Value := [.int .i64 h.o, .int .i64 h.r, .int .i64 h.a, .int .i64 h.b, .int .i64 h.n]
def cT (h : I2) : List Value := [.bool h.m, .int .i64 h.v]
def cE (h : E3) : List Value := [.int .i64 h.k, .int .i64 h.q, .int .i64 h.v]
def fI (h : Nat → I5) (n : Nat) : List Value := flat (fun i => cI (h i)) n
def fT (h : Nat → I2) (n : Nat) : List Value := flat (fun i => cT (h i)) n
def fE (h : Nat → E3) (n : Nat) : List Value := flat (fun i => cE (h i)) n
theorem fI_len (h : Nat → I5) (n : Nat) : (fI h n).length = n * 5 := flat_len fun _ _ => rfl
theorem fT_len (h : Nat → I2) (n : Nat) : (fT h n).length = n * 2 := flat_len fun _ _ => rfl
theorem fE_len (h : Nat → E3) (n : Nat) : (fE h n).length = n * 3 := flat_len fun _ _ => rfl
theorem fI_one (h : Nat → I5) (n : Nat) : ∀ u ∈ fI h n, u.oneCell' = true := flat_one fun i _ u hu => by
 simp [cI] at hu
 rcases hu with rfl | rfl | rfl | rfl | rfl <;> rfl
theorem fT_one (h : Nat → I2) (n : Nat) : ∀ u ∈ fT h n, u.oneCell' = true := flat_one fun i _ u hu => by
 simp [cT] at hu
 rcases hu with rfl | rfl <;> rfl
theorem fE_one (h : Nat → E3) (n : Nat) : ∀ u ∈ fE h n, u.oneCell' = true := flat_one fun i _ u hu => by
 simp [cE] at hu
 rcases hu with rfl | rfl | rfl <;> rfl
theorem kndI : Kind 57 60 5 40 := by
 refine ⟨Tryz.underlying57, ?_, by omega, by omega⟩
 have hinfo : (Tryz.prog.info? 60).map (fun i => (i.zero, i.size, i.bytes)) = some (some (.agg #[.int .i64 0, .int .i64 0, .int .i64 0, .int .i64 0, .int .i64 0]), 5, 40) := by kernel_rfl
 cases hi : Tryz.prog.info? 60 with
 | none => rw [hi] at hinfo; cases hinfo
 | some i =>
  rw [hi] at hinfo
  simp only [Option.map_some, Option.some.injEq, Prod.mk.injEq] at hinfo
  exact ⟨i, _, rfl, hinfo.1, hinfo.2.1, hinfo.2.2, rfl⟩
theorem kndT : Kind 95 122 2 16 := by
 refine ⟨Tryz.underlying95, ?_, by omega, by omega⟩
 have hinfo : (Tryz.prog.info? 122).map (fun i => (i.zero, i.size, i.bytes)) = some (some (.agg #[.bool false, .int .i64 0]), 2, 16) := by kernel_rfl
 cases hi : Tryz.prog.info? 122 with
 | none => rw [hi] at hinfo; cases hinfo
 | some i =>
  rw [hi] at hinfo
  simp only [Option.map_some, Option.some.injEq, Prod.mk.injEq] at hinfo
  exact ⟨i, _, rfl, hinfo.1, hinfo.2.1, hinfo.2.2, rfl⟩
theorem kndE : Kind 91 77 3 24 := by
 refine ⟨Tryz.underlying91, ?_, by omega, by omega⟩
 have hinfo : (Tryz.prog.info? 77).map (fun i => (i.zero, i.size, i.bytes)) = some (some (.agg #[.int .i64 0, .int .i64 0, .int .i64 0]), 3, 24) := by kernel_rfl
 cases hi : Tryz.prog.info? 77 with
 | none => rw [hi] at hinfo; cases hinfo
 | some i =>
  rw [hi] at hinfo
  simp only [Option.map_some, Option.some.injEq, Prod.mk.injEq] at hinfo
  exact ⟨i, _, rfl, hinfo.1, hinfo.2.1, hinfo.2.2, rfl⟩
theorem kndS : Kind 25 54 4 64 := by
 refine ⟨Tryz.underlying25, ?_, by omega, by omega⟩
 have hinfo := infoSta
 cases hi : Tryz.prog.info? 54 with
 | none => rw [hi] at hinfo; cases hinfo
 | some i =>
  rw [hi] at hinfo
  simp only [Option.map_some, Option.some.injEq, Prod.mk.injEq] at hinfo
  exact ⟨i, _, rfl, hinfo.1, hinfo.2.1, hinfo.2.2, rfl⟩
theorem kndII : Kind 24 57 1 24 := by
 refine ⟨Tryz.underlying24, ?_, by omega, by omega⟩
 have hinfo : (Tryz.prog.info? 57).map (fun i => (i.zero, i.size, i.bytes)) = some (some (.slice none 0 0), 1, 24) := by kernel_rfl
 cases hi : Tryz.prog.info? 57 with
 | none => rw [hi] at hinfo; cases hinfo
 | some i =>
  rw [hi] at hinfo
  simp only [Option.map_some, Option.some.injEq, Prod.mk.injEq] at hinfo
  exact ⟨i, _, rfl, hinfo.1, hinfo.2.1, hinfo.2.2, rfl⟩
theorem kndTT : Kind 26 95 1 24 := by
 refine ⟨Tryz.underlying26, ?_, by omega, by omega⟩
 have hinfo : (Tryz.prog.info? 95).map (fun i => (i.zero, i.size, i.bytes)) = some (some (.slice none 0 0), 1, 24) := by kernel_rfl
 cases hi : Tryz.prog.info? 95 with
 | none => rw [hi] at hinfo; cases hinfo
 | some i =>
  rw [hi] at hinfo
  simp only [Option.map_some, Option.some.injEq, Prod.mk.injEq] at hinfo
  exact ⟨i, _, rfl, hinfo.1, hinfo.2.1, hinfo.2.2, rfl⟩
theorem kndEE : Kind 27 91 1 24 := by
 refine ⟨Tryz.underlying27, ?_, by omega, by omega⟩
 have hinfo : (Tryz.prog.info? 91).map (fun i => (i.zero, i.size, i.bytes)) = some (some (.slice none 0 0), 1, 24) := by kernel_rfl
 cases hi : Tryz.prog.info? 91 with
 | none => rw [hi] at hinfo; cases hinfo
 | some i =>
  rw [hi] at hinfo
  simp only [Option.map_some, Option.some.injEq, Prod.mk.injEq] at hinfo
  exact ⟨i, _, rfl, hinfo.1, hinfo.2.1, hinfo.2.2, rfl⟩
theorem srcOf {w : World} {b off sz n : Nat} {f : Nat → List Value} (hb : b < w.heap.size) (hsz : 0 < sz) (hl : ∀ i, i < n → (f i).length = sz) (hc : ∀ i, i < n → ∀ j, j < sz → w.cell? ⟨b, off + (i * sz + j), none⟩ = (f i)[j]?) : Src w (some ⟨b, off, none⟩) (flat f n) := by
 refine .inr ⟨b, off, rfl, hb, fun q u hq => ?_⟩
 have hlen := flat_len hl
 have hq' : q < n * sz := by
  rcases Nat.lt_or_ge q (n * sz) with h | h
  ·exact h
  ·rw [List.getElem?_eq_none (by omega)] at hq
   cases hq
 have hk : q / sz < n := Nat.div_lt_of_lt_mul (by rw [Nat.mul_comm]; exact hq')
 have hr : q % sz < sz := Nat.mod_lt _ hsz
 have e : q / sz * sz + q % sz = q := by rw [Nat.mul_comm]; exact Nat.div_add_mod q sz
 have h1 := hc (q / sz) hk (q % sz) hr
 have h2 := flat_at hl hk hr
 rw [e] at h1 h2
 rw [h1, ← h2, hq]
theorem srcI {w : World} {b off len : Nat} {g : Nat → I5} (hb : b < w.heap.size) (h : InsAt w b off len g) : Src w (some ⟨b, off, none⟩) (fI g len) := srcOf (sz := 5) hb (by omega) (fun _ _ => rfl) fun i hi j hj => by
 obtain ⟨h0, h1, h2, h3, h4⟩ := h i hi
 match j, hj with
 | 0, _ => exact h0
 | 1, _ => exact h1
 | 2, _ => exact h2
 | 3, _ => exact h3
 | 4, _ => exact h4
theorem srcT {w : World} {a : Option Addr} {len : Nat} {g : Nat → I2} (h : ItL w a len g) : Src w a (fT g len) := by
 rcases h with rfl | ⟨b, off, rfl, hb, h⟩
 ·exact .inl rfl
 ·refine srcOf (sz := 2) hb (by omega) (fun _ _ => rfl) fun i hi j hj => ?_
  obtain ⟨h0, h1⟩ := h i hi
  match j, hj with
  | 0, _ => exact h0
  | 1, _ => exact h1
theorem srcE {w : World} {a : Option Addr} {len : Nat} {g : Nat → E3} (h : EvL w a len g) : Src w a (fE g len) := by
 rcases h with rfl | ⟨b, off, rfl, hb, h⟩
 ·exact .inl rfl
 ·refine srcOf (sz := 3) hb (by omega) (fun _ _ => rfl) fun i hi j hj => ?_
  obtain ⟨h0, h1, h2⟩ := h i hi
  match j, hj with
  | 0, _ => exact h0
  | 1, _ => exact h1
  | 2, _ => exact h2
theorem atI {w : World} {B : Nat} {u : Value} {n : Nat} {g : Nat → I5} (o : w.ownsRow B 60 5 u n (fI g n)) (hne : u ≠ .slice none 0 0) : ∃ b cap, u = .slice (some ⟨b, 0, none⟩) n cap ∧ b < w.heap.size ∧ InsAt w b 0 n g ∧ n ≤ cap := by
 rcases o.2 with ⟨e, _⟩ | ⟨b, cap, cur, rfl, hb, hg, hcap, _⟩
 ·exact absurd e hne
 ·refine ⟨b, cap, rfl, (o.lt b rfl).2, fun i hi => ?_, hcap⟩
  have hc : ∀ j, j < 5 → w.cell? ⟨b, 0 + (i * 5 + j), none⟩ = (cI (g i))[j]? := fun j hj => by
   rw [Nat.zero_add, o.cellAt _ (by omega)]
   exact flat_at (sz := 5) (fun _ _ => rfl) hi hj
  exact ⟨hc 0 (by omega), hc 1 (by omega), hc 2 (by omega), hc 3 (by omega), hc 4 (by omega)⟩
theorem atT {w : World} {B : Nat} {u : Value} {n : Nat} {g : Nat → I2} (o : w.ownsRow B 122 2 u n (fT g n)) (hne : u ≠ .slice none 0 0) : ∃ b cap, u = .slice (some ⟨b, 0, none⟩) n cap ∧ b < w.heap.size ∧ ItAt w b 0 n g ∧ n ≤ cap := by
 rcases o.2 with ⟨e, _⟩ | ⟨b, cap, cur, rfl, hb, hg, hcap, _⟩
 ·exact absurd e hne
 ·refine ⟨b, cap, rfl, (o.lt b rfl).2, fun i hi => ?_, hcap⟩
  have hc : ∀ j, j < 2 → w.cell? ⟨b, 0 + (i * 2 + j), none⟩ = (cT (g i))[j]? := fun j hj => by
   rw [Nat.zero_add, o.cellAt _ (by omega)]
   exact flat_at (sz := 2) (fun _ _ => rfl) hi hj
  exact ⟨hc 0 (by omega), hc 1 (by omega)⟩
theorem atE {w : World} {B : Nat} {u : Value} {n : Nat} {g : Nat → E3} (o : w.ownsRow B 77 3 u n (fE g n)) (hne : u ≠ .slice none 0 0) : ∃ b cap, u = .slice (some ⟨b, 0, none⟩) n cap ∧ b < w.heap.size ∧ EvAt w b 0 n g ∧ n ≤ cap := by
 rcases o.2 with ⟨e, _⟩ | ⟨b, cap, cur, rfl, hb, hg, hcap, _⟩
 ·exact absurd e hne
 ·refine ⟨b, cap, rfl, (o.lt b rfl).2, fun i hi => ?_, hcap⟩
  have hc : ∀ j, j < 3 → w.cell? ⟨b, 0 + (i * 3 + j), none⟩ = (cE (g i))[j]? := fun j hj => by
   rw [Nat.zero_add, o.cellAt _ (by omega)]
   exact flat_at (sz := 3) (fun _ _ => rfl) hi hj
  exact ⟨hc 0 (by omega), hc 1 (by omega), hc 2 (by omega)⟩
def Cl (B : Nat) (c : Nat → Nat) (i : Nat) : Nat → Prop := fun k => B ≤ k ∧ c k = i
abbrev LI (w : World) (P : Nat → Prop) (v : Value) (n : Nat) (u : Nat → Value) (L : Nat → Nat) (H : Nat → Nat → I5) : Prop := LL 60 5 57 w P v n u L fun i => fI (H i) (L i)
abbrev LT (w : World) (P : Nat → Prop) (v : Value) (n : Nat) (u : Nat → Value) (L : Nat → Nat) (H : Nat → Nat → I2) : Prop := LL 122 2 95 w P v n u L fun i => fT (H i) (L i)
abbrev LE (w : World) (P : Nat → Prop) (v : Value) (n : Nat) (u : Nat → Value) (L : Nat → Nat) (H : Nat → Nat → E3) : Prop := LL 77 3 91 w P v n u L fun i => fE (H i) (L i)
open Go
section
variable {P : Program} {ops : Array Oper} {Q : Exit → Act → World → Prop} {md : Region.Mode} {S : World → Prop} {G : Nat → Bool}
def wpG (P : Program) (md : Region.Mode) (ops : Array Oper) (Q : Exit → Act → World → Prop) (S : World → Prop) (G : Nat → Bool) : Nat → Array Bool → Act → World → Prop
 | 0, listed, a, w => Region.ready md ops listed = [] ∧ Q .normal a w
 | fuel + 1, listed, a, w => (Region.ready md ops listed = [] → Q .normal a w) ∧ ∀ i ∈ Region.ready md ops listed, wpOp P ops Q i (fun a' w' => (S w → G i = false → S w') ∧ wpG P md ops Q S G fuel (listed.setIfInBounds i true) a' w') a w
theorem wpAny_of_G : ∀ (fuel : Nat) (listed : Array Bool) (a : Act) (w : World), wpG P md ops Q S G fuel listed a w → wpAny P md ops Q fuel listed a w
 | 0, _, _, _, h => h
 | fuel + 1, _, _, _, h => ⟨h.1, fun i hi => wpOp_mono (fun a' w' h' => wpAny_of_G fuel _ a' w' h'.2) (h.2 i hi)⟩
def waitG (md : Region.Mode) (ops : Array Oper) (G : Nat → Bool) (listed : Array Bool) (i : Nat) : Bool :=
 (List.range ops.size).all fun j => !G j || listed.getD j true || match ops[j]? with
  | some oj => oj.after.any fun e => Region.binds md e && e.on == i
  | none => true
theorem waitG_spec {listed : Array Bool} {i : Nat} (h : waitG md ops G listed i = true) {j : Nat} {oj : Oper} (hj : ops[j]? = some oj) (hg : G j = true) (hu : listed.getD j true = false) : ∃ e ∈ oj.after, Region.binds md e = true ∧ e.on = i := by
 simp only [waitG, List.all_eq_true, List.mem_range] at h
 have h1 := h j (Array.getElem?_eq_some_iff.1 hj).1
 simp only [hj, hg, hu, Bool.not_true, Bool.false_or] at h1
 obtain ⟨e, he, hb⟩ := Array.any_eq_true'.1 h1
 simp only [Bool.and_eq_true, beq_iff_eq] at hb
 exact ⟨e, he, hb.1, hb.2⟩
theorem wpG_first {i : Nat} {oi : Oper} {v : Value} (hi : ops[i]? = some oi) (hsel : ∀ (j : Nat) (o : Oper) cs b, ops[j]? = some o → o.op ≠ .select cs b)
  (hQ : ∀ c a w, Q (.panic c) (a.put oi.dst v) w → Q (.panic c) a w) :
  ∀ (fuel : Nat) (listed : Array Bool) (a : Act) (w : World),
   (∀ j oj, ops[j]? = some oj → j ≠ i → listed.getD j true = false → (∀ e ∈ oj.after, Region.binds md e = true → e.on ≠ i) → oi.apart ops oj = true) →
   (∀ j oj, ops[j]? = some oj → G j = true → listed.getD j true = false → ∃ e ∈ oj.after, Region.binds md e = true ∧ e.on = i) →
   i ∈ Region.ready md ops listed → YieldsIf P ops S oi v a → S w →
   wpG P md ops Q S G fuel (listed.setIfInBounds i true) (a.put oi.dst v) w → wpG P md ops Q S G (fuel + 1) listed a w := by
 intro fuel
 induction fuel with
 | zero =>
  intro listed a w _ _ hr hy hS H
  refine ⟨fun h => (by rw [h] at hr; cases hr), fun j hj => ?_⟩
  by_cases hji : j = i
  ·subst hji
   exact hy.wpOp hi hS ⟨fun _ _ => hS, H⟩
  ·have := ready_mono hj hji
   rw [H.1] at this
   cases this
 | succ fuel ih =>
  intro listed a w hfree hG hr hy hS H
  refine ⟨fun h => (by rw [h] at hr; cases hr), fun j hj => ?_⟩
  by_cases hji : j = i
  ·subst hji
   exact hy.wpOp hi hS ⟨fun _ _ => hS, H⟩
  ·obtain ⟨hjun, oj, hoj, hall⟩ := mem_ready.1 hj
   have hiun := (mem_ready.1 hr).1
   have hnot : ∀ e ∈ oj.after, Region.binds md e = true → e.on ≠ i := fun e he hb heq => by
    have h1 := hall e he hb
    rw [heq] at h1
    rcases Nat.lt_or_ge i listed.size with h' | h'
    ·simp [h'] at hiun h1
     rw [hiun] at h1
     cases h1
    ·simp [Array.getElem?_eq_none h'] at h1
   have hGj : G j = false := by
    cases hg : G j with
    | false => rfl
    | true =>
     obtain ⟨e, he, hb, heq⟩ := hG j oj hoj hg hjun
     exact absurd heq (hnot e he hb)
   have h2 := wpOp_putIf hoj (hfree j oj hoj hji hjun hnot) (fun cs b => hsel i oi cs b hi) (fun cs b => hsel j oj cs b hoj) hQ hy (H.2 j (ready_mono hj hji))
   have hun' : ∀ k, (listed.setIfInBounds j true).getD k true = false → listed.getD k true = false := fun k hk => by
    by_cases hjk : j = k
    ·subst hjk
     exact hjun
    ·rw [_root_.Go.getD_set_ne true hjk] at hk
     exact hk
   refine wpOp_mono (fun a' w' h3 => ⟨h3.2.1, ih (listed.setIfInBounds j true) a' w' (fun k ok hk hki hun hno => hfree k ok hk hki (hun' k hun) hno) (fun k ok hk hg hun => hG k ok hk hg (hun' k hun)) (ready_mono hr (Ne.symm hji)) h3.1 (h3.2.1 hS hGj) ?_⟩) h2
   rw [Array.setIfInBounds_comm _ _ hji]
   exact h3.2.2
theorem wpG_firstW {i : Nat} {oi : Oper} {v : Value} (hi : ops[i]? = some oi) (hsel : ∀ (j : Nat) (o : Oper) cs b, ops[j]? = some o → o.op ≠ .select cs b)
  (hQ : ∀ c a w, Q (.panic c) (a.put oi.dst v) w → Q (.panic c) a w) :
  ∀ (fuel : Nat) (listed : Array Bool) (a : Act) (w : World),
   (∀ j oj, ops[j]? = some oj → j ≠ i → listed.getD j true = false → (∀ e ∈ oj.after, Region.binds md e = true → e.on ≠ i) → oi.apart ops oj = true) →
   i ∈ Region.ready md ops listed → YieldsIf P ops (fun _ => True) oi v a →
   wpG P md ops Q S G fuel (listed.setIfInBounds i true) (a.put oi.dst v) w → wpG P md ops Q S G (fuel + 1) listed a w := by
 intro fuel
 induction fuel with
 | zero =>
  intro listed a w _ hr hy H
  refine ⟨fun h => (by rw [h] at hr; cases hr), fun j hj => ?_⟩
  by_cases hji : j = i
  ·subst hji
   exact hy.wpOp hi trivial ⟨fun h _ => h, H⟩
  ·have := ready_mono hj hji
   rw [H.1] at this
   cases this
 | succ fuel ih =>
  intro listed a w hfree hr hy H
  refine ⟨fun h => (by rw [h] at hr; cases hr), fun j hj => ?_⟩
  by_cases hji : j = i
  ·subst hji
   exact hy.wpOp hi trivial ⟨fun h _ => h, H⟩
  ·obtain ⟨hjun, oj, hoj, hall⟩ := mem_ready.1 hj
   have hiun := (mem_ready.1 hr).1
   have hnot : ∀ e ∈ oj.after, Region.binds md e = true → e.on ≠ i := fun e he hb heq => by
    have h1 := hall e he hb
    rw [heq] at h1
    rcases Nat.lt_or_ge i listed.size with h' | h'
    ·simp [h'] at hiun h1
     rw [hiun] at h1
     cases h1
    ·simp [Array.getElem?_eq_none h'] at h1
   have h2 := wpOp_putIf hoj (hfree j oj hoj hji hjun hnot) (fun cs b => hsel i oi cs b hi) (fun cs b => hsel j oj cs b hoj) hQ hy (H.2 j (ready_mono hj hji))
   have hun' : ∀ k, (listed.setIfInBounds j true).getD k true = false → listed.getD k true = false := fun k hk => by
    by_cases hjk : j = k
    ·subst hjk
     exact hjun
    ·rw [_root_.Go.getD_set_ne true hjk] at hk
     exact hk
   refine wpOp_mono (fun a' w' h3 => ⟨h3.2.1, ih (listed.setIfInBounds j true) a' w' (fun k ok hk hki hun hno => hfree k ok hk hki (hun' k hun) hno) (ready_mono hr (Ne.symm hji)) h3.1 ?_⟩) h2
   rw [Array.setIfInBounds_comm _ _ hji]
   exact h3.2.2
theorem wpG_takeW (i : Nat) {oi : Oper} {fuel : Nat} {listed : Array Bool} {a : Act} {w : World} (hi0 : ops.toList[i]? = some oi) (hs : Region.noSelect ops = true) (hf : Region.free md ops listed i = true) (hr : (Region.ready md ops listed).contains i = true)
  (hQ : ∀ v c a w, Q (.panic c) (a.put oi.dst v) w → Q (.panic c) a w) (hw : Region.wanted oi (yielded ops a.tmps) = true)
  (h : ∃ v, (∀ w, (execOp a.eval oi).run P w = .ok (.value v) w) ∧ wpG P md ops Q S G fuel (listed.setIfInBounds i true) (a.put oi.dst v) w) : wpG P md ops Q S G (fuel + 1) listed a w := by
 obtain ⟨v, hv, h⟩ := h
 have hi : ops[i]? = some oi := by rw [← Array.getElem?_toList]; exact hi0
 exact wpG_firstW hi (Region.noSelect_spec hs) (hQ v) fuel listed a w (Region.free_spec hi hf) (by simpa using hr) (.inl ⟨hw, fun w _ => hv w⟩) h
theorem wpG_take (i : Nat) {oi : Oper} {fuel : Nat} {listed : Array Bool} {a : Act} {w : World} (hi0 : ops.toList[i]? = some oi) (hS : S w)
  (h : ∃ v, (∀ w, S w → (execOp a.eval oi).run P w = .ok (.value v) w) ∧ wpG P md ops Q S G fuel (listed.setIfInBounds i true) (a.put oi.dst v) w) (hs : Region.noSelect ops = true := by kernel_rfl) (hf : Region.free md ops listed i = true := by kernel_rfl) (hr : (Region.ready md ops listed).contains i = true := by kernel_rfl) (hg : waitG md ops G listed i = true := by kernel_rfl)
  (hQ : ∀ v c a w, Q (.panic c) (a.put oi.dst v) w → Q (.panic c) a w := by exact fun _ _ _ _ h => h) (hw : Region.wanted oi (yielded ops a.tmps) = true := by rfl) : wpG P md ops Q S G (fuel + 1) listed a w := by
 obtain ⟨v, hv, h⟩ := h
 have hi : ops[i]? = some oi := by rw [← Array.getElem?_toList]; exact hi0
 exact wpG_first hi (Region.noSelect_spec hs) (hQ v) fuel listed a w (Region.free_spec hi hf) (fun j oj hj hgj hu => waitG_spec hg hj hgj hu) (by simpa using hr) (.inl ⟨hw, hv⟩) hS h
def wpGT (P : Program) (md : Region.Mode) (ops : Array Oper) (Q : Exit → Act → World → Prop) (S : World → Prop) (G : Nat → Bool) (_ : List Nat) (fuel : Nat) (listed : Array Bool) (a : Act) (w : World) : Prop := wpG P md ops Q S G fuel listed a w
theorem wpGT_of (is : List Nat) {fuel : Nat} {listed : Array Bool} {a : Act} {w : World} (h : wpGT P md ops Q S G is fuel listed a w) : wpG P md ops Q S G fuel listed a w := h
theorem wpGT_nil {fuel : Nat} {listed : Array Bool} {a : Act} {w : World} (h : wpG P md ops Q S G fuel listed a w) : wpGT P md ops Q S G [] fuel listed a w := h
theorem wpGT_take {i : Nat} {is : List Nat} {oi : Oper} {fuel : Nat} {listed : Array Bool} {a : Act} {w : World} (hi0 : ops.toList[i]? = some oi) (hS : S w)
  (h : ∃ v, (∀ w, S w → (execOp a.eval oi).run P w = .ok (.value v) w) ∧ wpGT P md ops Q S G is fuel (listed.setIfInBounds i true) (a.put oi.dst v) w) (hs : Region.noSelect ops = true := by kernel_rfl) (hf : Region.free md ops listed i = true := by kernel_rfl) (hr : (Region.ready md ops listed).contains i = true := by kernel_rfl) (hg : waitG md ops G listed i = true := by kernel_rfl)
  (hQ : ∀ v c a w, Q (.panic c) (a.put oi.dst v) w → Q (.panic c) a w := by exact fun _ _ _ _ h => h) (hw : Region.wanted oi (yielded ops a.tmps) = true := by rfl) : wpGT P md ops Q S G (i :: is) (fuel + 1) listed a w := wpG_take i hi0 hS h hs hf hr hg hQ hw
theorem wpG_one (i : Nat) {oi : Oper} {fuel : Nat} {listed : Array Bool} {a : Act} {w : World} (hi0 : ops.toList[i]? = some oi) (hr : Region.ready md ops listed = [i])
  (h : ∀ K' : Act → World → Prop, Shut (∀ a w, (G i = false → S w) → wpG P md ops Q S G fuel (listed.setIfInBounds i true) a w → K' a w) → if Region.wanted oi (yielded ops a.tmps) = true then Oper.wp P oi a w K' Q else K' (a.put oi.dst undef) w) : wpG P md ops Q S G (fuel + 1) listed a w :=
 ⟨fun h0 => (by rw [hr] at h0; cases h0), fun j hj => by
  rw [hr] at hj
  obtain rfl := List.mem_singleton.1 hj
  have hi : ops[j]? = some oi := by rw [← Array.getElem?_toList]; exact hi0
  exact wpOp_step hi fun K' hK => h K' fun a w h1 h2 => hK a w ⟨fun _ => h1, h2⟩⟩
theorem wpG_two (i j : Nat) {oi oj : Oper} {fuel : Nat} {listed : Array Bool} {a : Act} {w : World} (hi0 : ops.toList[i]? = some oi) (hj0 : ops.toList[j]? = some oj) (hr : Region.ready md ops listed = [i, j])
  (h : ∀ K' : Act → World → Prop, Shut (∀ a w, (G i = false → S w) → wpG P md ops Q S G fuel (listed.setIfInBounds i true) a w → K' a w) → if Region.wanted oi (yielded ops a.tmps) = true then Oper.wp P oi a w K' Q else K' (a.put oi.dst undef) w)
  (h' : ∀ K' : Act → World → Prop, Shut (∀ a w, (G j = false → S w) → wpG P md ops Q S G fuel (listed.setIfInBounds j true) a w → K' a w) → if Region.wanted oj (yielded ops a.tmps) = true then Oper.wp P oj a w K' Q else K' (a.put oj.dst undef) w) : wpG P md ops Q S G (fuel + 1) listed a w :=
 ⟨fun h0 => (by rw [hr] at h0; cases h0), fun k hk => by
  rw [hr] at hk
  have hi : ops[i]? = some oi := by rw [← Array.getElem?_toList]; exact hi0
  have hj : ops[j]? = some oj := by rw [← Array.getElem?_toList]; exact hj0
  rcases List.mem_cons.1 hk with rfl | hk
  ·exact wpOp_step hi fun K' hK => h K' fun a w h1 h2 => hK a w ⟨fun _ => h1, h2⟩
  ·obtain rfl := List.mem_singleton.1 hk
   exact wpOp_step hj fun K' hK => h' K' fun a w h1 h2 => hK a w ⟨fun _ => h1, h2⟩⟩
theorem wpG_done {listed : Array Bool} {a : Act} {w : World} (hr : Region.ready md ops listed = []) (h : Q .normal a w) : ∀ fuel, wpG P md ops Q S G fuel listed a w
 | 0 => ⟨hr, h⟩
 | _ + 1 => ⟨fun _ => h, by rw [hr]; simp⟩
theorem wp_region_G {id : Nat} {a : Act} {w : World} (S : World → Prop) (G : Nat → Bool) (hm : P.follows .mixedOrders = true) (h : wpG P .any ops Q S G ops.size (Array.replicate ops.size false) a w.drew) : (Code.region id ops true).wp P Q a w :=
 wp_region_any hm (wpAny_of_G _ _ _ _ h)
end
end Go.Proofs.YtdigofhceahpdaaGreatDoor
