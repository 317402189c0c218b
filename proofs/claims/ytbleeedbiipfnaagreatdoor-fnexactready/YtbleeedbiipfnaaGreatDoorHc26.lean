/- A run done once more: the mathematics; the walk of the model's l3Replay. -/
import Derived.Test.YtbleeedbiipfnaaGreatDoorHc0
import Derived.Test.YtbleeedbiipfnaaGreatDoorHc19
import Derived.Test.YtbleeedbiipfnaaGreatDoorHc18
import Derived.Test.YtbleeedbiipfnaaGreatDoorHc12
import Derived.Test.YtbleeedbiipfnaaGreatDoorHc17
import Derived.Test.YtbleeedbiipfnaaGreatDoorHc24
import Derived.Test.YtbleeedbiipfnaaGreatDoorHc25
import Derived.Deep.RegionWith
import Derived.Test.YtbleeedbiipfnaaGreatDoorHc23
namespace Go.Proofs.YtbleeedbiipfnaaGreatDoor
set_option maxRecDepth 100000
set_option maxHeartbeats 1000000
open Go.ChangeShapes Go.WideShapes Go.ChangeAt Go.RowKit Go.Deep
theorem open_stateCells {H : Type} {enc : TypeId × Value → H} {w : World} {base fuel : Nat} {held : Bool} {c0 c1 c2 c3 : Value} {x : DataW H × List MemPlace}
  (hf' : DataW.trod enc Tryz.prog w base (fun _ => true) held fuel 162 [c0, c1, c2, c3] = some x) :
  ∃ q : St8, (c0 = .int .i64 q.p ∧ c1 = .slice q.ra q.rs.length q.rc ∧ c2 = .slice q.oa q.os.length q.oc ∧ c3 = .int .i64 q.c) ∧ (q.rs.length ≤ maxLen ∧ q.os.length ≤ maxLen) ∧ Sl w q.ra q.rs ∧ Sl w q.oa q.os := by
 obtain ⟨xs, m, -, -, -, hl, hx⟩ := DataW.trod_struct Tryz.underlying162 hf'
 have hl : xs.length = 4 := hl
 have q0 : DataW.trod enc Tryz.prog w base (fun _ => true) held m 3 [c0] = xs[0]? := by simpa [cellsInt] using hx 0 _ rfl
 have q1 : DataW.trod enc Tryz.prog w base (fun _ => true) held m 37 [c1] = xs[1]? := by simpa [cellsInts] using hx 1 _ rfl
 have q2 : DataW.trod enc Tryz.prog w base (fun _ => true) held m 37 [c2] = xs[2]? := by simpa [cellsInts] using hx 2 _ rfl
 have q3 : DataW.trod enc Tryz.prog w base (fun _ => true) held m 3 [c3] = xs[3]? := by simpa [cellsInt] using hx 3 _ rfl
 rw [List.getElem?_eq_getElem (by omega)] at q0 q1 q2 q3
 obtain ⟨z0, e0, -, -⟩ := DataW.trod_int Tryz.underlying3 q0
 obtain ⟨z3, e3, -, -⟩ := DataW.trod_int Tryz.underlying3 q3
 obtain ⟨ra, rc, rs, rfl, hr, h1⟩ := open_intRow q1
 obtain ⟨oa, oc, os, rfl, ho, h2⟩ := open_intRow q2
 simp only [List.cons.injEq, and_true] at e0 e3
 subst e0 e3
 exact ⟨⟨z0, ra, rc, rs, oa, oc, os, z3⟩, ⟨rfl, rfl, rfl, rfl⟩, ⟨hr, ho⟩, h1, h2⟩
theorem open_StateS {H : Type} {enc : TypeId × Value → H} {w : World} {held : Bool} {base : Nat} {a0 : Option Addr} {len cap : Nat} {d : DataW H} {p : List MemPlace}
  (h : DataW.Trod enc Tryz.prog w base (fun _ => true) held 57 (.slice a0 len cap) d p) :
  len ≤ maxLen ∧ ∃ q, AllState w a0 len q ∧ ∀ i, i < len → (q i).rs.length ≤ maxLen ∧ (q i).os.length ≤ maxLen := by
 obtain ⟨fuel, hf⟩ := h
 have inh : Inhabited St8 := ⟨⟨0, none, 0, [], none, 0, [], 0⟩⟩
 rcases Go.Deep.open_slice Tryz.underlying57 hf with ⟨hcs, _⟩ | ⟨a, len', cap', m, n, D, Pl, hcs, _, hl, hm, hmm, _, hx⟩
 ·simp [Value.cells] at hcs
  obtain ⟨_, rfl, _⟩ := hcs
  exact ⟨Nat.zero_le _, fun _ => default, ⟨.inl rfl, fun i hi => by omega⟩, fun i hi => by omega⟩
 ·simp [Value.cells] at hcs
  obtain ⟨rfl, rfl, rfl⟩ := hcs
  refine ⟨Nat.le_trans hl hm, ?_⟩
  have hle : len ≤ m := by rw [hmm]; split <;> omega
  rw [cellsLawState] at hx
  obtain ⟨b, off, spot⟩ := a
  have hcell : ∀ i, i < len → ∃ q : St8, (w.cell? (Addr.add (Addr.add ⟨b, off, spot⟩ (i * 4)) 0) = some (.int .i64 q.p) ∧ w.cell? (Addr.add (Addr.add ⟨b, off, spot⟩ (i * 4)) 1) = some (.slice q.ra q.rs.length q.rc) ∧ w.cell? (Addr.add (Addr.add ⟨b, off, spot⟩ (i * 4)) 2) = some (.slice q.oa q.os.length q.oc) ∧ w.cell? (Addr.add (Addr.add ⟨b, off, spot⟩ (i * 4)) 3) = some (.int .i64 q.c)) ∧ (q.rs.length ≤ maxLen ∧ q.os.length ≤ maxLen) ∧ Sl w q.ra q.rs ∧ Sl w q.oa q.os := by
   intro i hi
   obtain ⟨cs', h1, h2⟩ := hx i (by omega)
   obtain ⟨_, hlen, hc⟩ := World.cells?_some h1
   match cs', hlen with
   | [c0, c1, c2, c3], _ =>
    obtain ⟨q, ⟨rfl, rfl, rfl, rfl⟩, hb, hs⟩ := open_stateCells h2
    exact ⟨q, ⟨hc 0 (by omega), hc 1 (by omega), hc 2 (by omega), hc 3 (by omega)⟩, hb, hs⟩
  obtain ⟨g, hg⟩ := Go.Deep.choose_lt (α := St8) hcell
  refine ⟨g, ⟨?_, fun i hi => (hg i hi).2.2⟩, fun i hi => (hg i hi).2.1⟩
  by_cases h0 : len = 0
  ·exact .inl h0
  have hspot : spot = none := by
   have hx0 := (hg 0 (by omega)).1.1
   simpa [Addr.add] using World.cell?_spot hx0
  subst hspot
  have hI : ∀ i, i < len → w.cell? ⟨b, off + i * 4, none⟩ = some (.int .i64 (g i).p) ∧ w.cell? ⟨b, off + i * 4 + 1, none⟩ = some (.slice (g i).ra (g i).rs.length (g i).rc) ∧ w.cell? ⟨b, off + i * 4 + 2, none⟩ = some (.slice (g i).oa (g i).os.length (g i).oc) ∧ w.cell? ⟨b, off + i * 4 + 3, none⟩ = some (.int .i64 (g i).c) := by
   intro i hi
   obtain ⟨⟨q0, q1, q2, q3⟩, -⟩ := hg i hi
   rw [addr_addO, addr_addO] at q0 q1 q2 q3
   exact ⟨q0, q1, q2, q3⟩
  exact .inr ⟨b, off, rfl, cell_lt (hI 0 (by omega)).1, hI⟩
structure SysIn where
 pa : Option Addr
 pn : Nat
 pc : Nat
 pA : Nat → Option Addr
 pL : Nat → Nat
 pC : Nat → Nat
 pH : Nat → Nat → I5
 sa : Option Addr
 sn : Nat
 sc : Nat
 sQ : Nat → St8
 wa : Option Addr
 wn : Nat
 wc : Nat
 wA : Nat → Option Addr
 wL : Nat → Nat
 wC : Nat → Nat
 wH : Nat → Nat → I2
 ha : Option Addr
 hn : Nat
 hc : Nat
 hA : Nat → Option Addr
 hL : Nat → Nat
 hC : Nat → Nat
 hH : Nat → Nat → E3
def SysIn.sS (x : SysIn) : Nat → S4 := fun i => (x.sQ i).s
def SysIn.size (x : SysIn) : Nat := x.pn + sumL x.pL x.pn + (x.sn + sumL (lenS x.sS) x.sn) + (x.wn + sumL x.wL x.wn) + (x.hn + sumL x.hL x.hn)
abbrev sysV (pa : Option Addr) (pn pc : Nat) (sa : Option Addr) (sn sc : Nat) (wa : Option Addr) (wn wc : Nat) (ha : Option Addr) (hn hc : Nat) : Value := .agg #[.slice pa pn pc, .slice sa sn sc, .slice wa wn wc, .slice ha hn hc]
structure SysIn.Row (W : World) (x : SysIn) : Prop where
 p : RowS W x.pa x.pn fun i => .slice (x.pA i) (x.pL i) (x.pC i)
 s : AllState W x.sa x.sn x.sQ
 w : RowS W x.wa x.wn fun i => .slice (x.wA i) (x.wL i) (x.wC i)
 h : RowS W x.ha x.hn fun i => .slice (x.hA i) (x.hL i) (x.hC i)
structure SysIn.Max (x : SysIn) : Prop where
 p : x.pn ≤ maxLen ∧ ∀ i, i < x.pn → x.pL i ≤ maxLen
 s : x.sn ≤ maxLen ∧ ∀ i, i < x.sn → (x.sQ i).rs.length ≤ maxLen ∧ (x.sQ i).os.length ≤ maxLen
 w : x.wn ≤ maxLen ∧ ∀ i, i < x.wn → x.wL i ≤ maxLen
 h : x.hn ≤ maxLen ∧ ∀ i, i < x.hn → x.hL i ≤ maxLen
structure SysIn.Ok (W : World) (x : SysIn) : Prop where
 p : AllIns W x.pa x.pn x.pA x.pL x.pC x.pH
 s : AllState W x.sa x.sn x.sQ
 w : AllItem W x.wa x.wn x.wA x.wL x.wC x.wH
 h : AllEvent W x.ha x.hn x.hA x.hL x.hC x.hH
theorem SysIn.Ok.row {W : World} {x : SysIn} (h : x.Ok W) : x.Row W := ⟨h.p.row, h.s, h.w.row, h.h.row⟩
theorem SysIn.Row.below {W w : World} {x : SysIn} (h : x.Row W) (hb : Below W.heap.size W w) : x.Row w := ⟨h.p.below hb, h.s.below hb, h.w.below hb, h.h.below hb⟩
theorem szSys_small (x : SysIn) (w : World) (hr : x.Row w) (h : x.size ≤ 1048576) :
  Calls Tryz.prog 42 #[sysV x.pa x.pn x.pc x.sa x.sn x.sc x.wa x.wn x.wc x.ha x.hn x.hc, .int .i64 1048576] w fun e w' => e = .returned (.int .i64 (1048576 - (x.size : Nat))) ∧ Below w.heap.size w w' := by
 have HR : Hid (x.Row w) := hr
 have hh : x.size = x.pn + sumL x.pL x.pn + (x.sn + sumL (lenS x.sS) x.sn) + (x.wn + sumL x.wL x.wn) + (x.hn + sumL x.hL x.hn) := rfl
 generalize e1 : (1048576 : Int) - x.pn - (sumL x.pL x.pn : Nat) = L1
 generalize e2 : L1 - x.sn - (sumL (lenS x.sS) x.sn : Nat) = L2
 generalize e3 : L2 - x.wn - (sumL x.wL x.wn : Nat) = L3
 have n1 : ¬ L1 < 0 := by omega
 have n2 : ¬ L2 < 0 := by omega
 have n3 : ¬ L3 < 0 := by omega
 have n4 : ¬ L3 - x.hn - (sumL x.hL x.hn : Nat) < 0 := by omega
 have q1 : ((x.pn : Int) + (sumL x.pL x.pn : Nat) ≤ 1048576) := by omega
 have q2 : ((x.sn : Int) + (sumL (lenS x.sS) x.sn : Nat) ≤ L1) ∧ L1 ≤ 1048576 := by omega
 have q3 : ((x.wn : Int) + (sumL x.wL x.wn : Nat) ≤ L2) ∧ L2 ≤ 1048576 := by omega
 have q4 : ((x.hn : Int) + (sumL x.hL x.hn : Nat) ≤ L3) ∧ L3 ≤ 1048576 := by omega
 have e4 : L3 - x.hn - (sumL x.hL x.hn : Nat) = 1048576 - (x.size : Nat) := by omega
 have E1 : Hid ((1048576 : Int) - x.pn - (sumL x.pL x.pn : Nat) = L1) := e1
 have E2 : Hid (L1 - x.sn - (sumL (lenS x.sS) x.sn : Nat) = L2) := e2
 have E3 : Hid (L2 - x.wn - (sumL x.wL x.wn : Nat) = L3) := e3
 have E4 : Hid (L3 - x.hn - (sumL x.hL x.hn : Nat) = 1048576 - (x.size : Nat)) := e4
 have Q : Hid (((x.pn : Int) + (sumL x.pL x.pn : Nat) ≤ 1048576) ∧ (((x.sn : Int) + (sumL (lenS x.sS) x.sn : Nat) ≤ L1) ∧ L1 ≤ 1048576) ∧ (((x.wn : Int) + (sumL x.wL x.wn : Nat) ≤ L2) ∧ L2 ≤ 1048576) ∧ (((x.hn : Int) + (sumL x.hL x.hn : Nat) ≤ L3) ∧ L3 ≤ 1048576)) := ⟨q1, q2, q3, q4⟩
 rw [e4] at n4
 clear hr h hh e1 e2 e3 e4 q1 q2 q3 q4
 go_enter Tryz.func42, Tryz.ntmps42
 go_wp2_with fail
 refine (szInsSS_small _ _ _ _ x.pL _ _ _ (HR.out.p.below (by go_grown)) Q.out.1 (Int.le_refl _)).mono ?_
 rintro e w1 ⟨rfl, rfl⟩
 rw [E1.out]
 go_wp2_with fail
 refine (szStateS_small _ _ _ x.sQ _ _ (HR.out.s.below (by go_grown)) Q.out.2.1.1 Q.out.2.1.2).mono ?_
 rintro e w2 ⟨rfl, b2⟩
 rw [show ((sumL (lenS fun i => (x.sQ i).s) x.sn : Nat) : Int) = (sumL (lenS x.sS) x.sn : Nat) from rfl, E2.out]
 have B2 : Hid (Below w.heap.size w w2) := below_up (by go_grown) b2 (by simp)
 have hw2 := b2.size
 obtain ⟨hc2, hf2⟩ := bcell b2
 clear b2
 go_wp2_with fail
 refine (szItemSS_small _ _ _ _ x.wL _ _ _ (HR.out.w.below B2.out) Q.out.2.2.1.1 Q.out.2.2.1.2).mono ?_
 rintro e w3 ⟨rfl, rfl⟩
 rw [E3.out]
 go_wp2_with fail
 refine (szEventSS_small _ _ _ _ x.hL _ _ _ (HR.out.h.below B2.out) Q.out.2.2.2.1 Q.out.2.2.2.2).mono ?_
 rintro e w4 ⟨rfl, rfl⟩
 rw [E4.out]
 go_wp2
 go_ret
 exact ⟨rfl, B2.out⟩
theorem szSys_great (x : SysIn) (w : World) (hr : x.Row w) (hm : x.Max) (h : 1048576 < x.size) :
  Calls Tryz.prog 42 #[sysV x.pa x.pn x.pc x.sa x.sn x.sc x.wa x.wn x.wc x.ha x.hn x.hc, .int .i64 1048576] w fun e w' => e = .returned (.int .i64 (-1)) ∧ Below w.heap.size w w' := by
 have HR : Hid (x.Row w) := hr
 have HM : Hid x.Max := hm
 have hh : x.size = x.pn + sumL x.pL x.pn + (x.sn + sumL (lenS x.sS) x.sn) + (x.wn + sumL x.wL x.wn) + (x.hn + sumL x.hL x.hn) := rfl
 have HH : Hid (1048576 < x.pn + sumL x.pL x.pn + (x.sn + sumL (lenS x.sS) x.sn) + (x.wn + sumL x.wL x.wn) + (x.hn + sumL x.hL x.hn)) := hh ▸ h
 clear hr h hh hm
 by_cases q1 : (x.pn : Int) + (sumL x.pL x.pn : Nat) ≤ 1048576
 case neg =>
  have Q1 : Hid (1048576 < (x.pn : Int) + (sumL x.pL x.pn : Nat)) := by show 1048576 < _; omega
  clear q1
  go_enter Tryz.func42, Tryz.ntmps42
  go_wp2_with fail
  refine (szInsSS_great _ _ _ _ x.pL _ _ _ (HR.out.p.below (by go_grown)) Q1.out (by omega) (Int.le_refl _) HM.out.p.1 HM.out.p.2).mono ?_
  rintro e w1 ⟨rfl, rfl⟩
  go_wp2
  go_ret
  exact ⟨rfl, by go_grown⟩
 generalize e1 : (1048576 : Int) - x.pn - (sumL x.pL x.pn : Nat) = L1
 have E1 : Hid ((1048576 : Int) - x.pn - (sumL x.pL x.pn : Nat) = L1) := e1
 have n1 : ¬ L1 < 0 := by omega
 have n1' : 0 ≤ L1 ∧ L1 ≤ 1048576 := by omega
 have N1 : Hid (0 ≤ L1 ∧ L1 ≤ 1048576) := n1'
 have Q1 : Hid ((x.pn : Int) + (sumL x.pL x.pn : Nat) ≤ 1048576) := q1
 by_cases q2 : (x.sn : Int) + (sumL (lenS x.sS) x.sn : Nat) ≤ L1
 case neg =>
  have Q2 : Hid (L1 < (x.sn : Int) + (sumL (lenS x.sS) x.sn : Nat)) := by show L1 < _; omega
  clear q1 q2 e1 n1'
  go_enter Tryz.func42, Tryz.ntmps42
  go_wp2_with fail
  refine (szInsSS_small _ _ _ _ x.pL _ _ _ (HR.out.p.below (by go_grown)) Q1.out (Int.le_refl _)).mono ?_
  rintro e w1 ⟨rfl, rfl⟩
  rw [E1.out]
  go_wp2_with fail
  refine (szStateS_great _ _ _ x.sQ _ _ (HR.out.s.below (by go_grown)) Q2.out N1.out.1 N1.out.2 HM.out.s.1 HM.out.s.2).mono ?_
  rintro e w2 ⟨rfl, b2⟩
  have B2 : Hid (Below w.heap.size w w2) := below_up (by go_grown) b2 (by simp)
  go_wp2
  go_ret
  exact ⟨rfl, B2.out⟩
 generalize e2 : L1 - x.sn - (sumL (lenS x.sS) x.sn : Nat) = L2
 have E2 : Hid (L1 - x.sn - (sumL (lenS x.sS) x.sn : Nat) = L2) := e2
 have n2 : ¬ L2 < 0 := by omega
 have n2' : 0 ≤ L2 ∧ L2 ≤ 1048576 := by omega
 have N2 : Hid (0 ≤ L2 ∧ L2 ≤ 1048576) := n2'
 have Q2 : Hid ((x.sn : Int) + (sumL (lenS x.sS) x.sn : Nat) ≤ L1) := q2
 by_cases q3 : (x.wn : Int) + (sumL x.wL x.wn : Nat) ≤ L2
 case neg =>
  have Q3 : Hid (L2 < (x.wn : Int) + (sumL x.wL x.wn : Nat)) := by show L2 < _; omega
  clear q1 q2 q3 e1 e2 n1' n2'
  go_enter Tryz.func42, Tryz.ntmps42
  go_wp2_with fail
  refine (szInsSS_small _ _ _ _ x.pL _ _ _ (HR.out.p.below (by go_grown)) Q1.out (Int.le_refl _)).mono ?_
  rintro e w1 ⟨rfl, rfl⟩
  rw [E1.out]
  go_wp2_with fail
  refine (szStateS_small _ _ _ x.sQ _ _ (HR.out.s.below (by go_grown)) Q2.out N1.out.2).mono ?_
  rintro e w2 ⟨rfl, b2⟩
  rw [show ((sumL (lenS fun i => (x.sQ i).s) x.sn : Nat) : Int) = (sumL (lenS x.sS) x.sn : Nat) from rfl, E2.out]
  have B2 : Hid (Below w.heap.size w w2) := below_up (by go_grown) b2 (by simp)
  have hw2 := b2.size
  obtain ⟨hc2, hf2⟩ := bcell b2
  clear b2
  go_wp2_with fail
  refine (szItemSS_great _ _ _ _ x.wL _ _ _ (HR.out.w.below B2.out) Q3.out N2.out.1 N2.out.2 HM.out.w.1 HM.out.w.2).mono ?_
  rintro e w3 ⟨rfl, rfl⟩
  go_wp2
  go_ret
  exact ⟨rfl, B2.out⟩
 generalize e3 : L2 - x.wn - (sumL x.wL x.wn : Nat) = L3
 have E3 : Hid (L2 - x.wn - (sumL x.wL x.wn : Nat) = L3) := e3
 have n3 : ¬ L3 < 0 := by omega
 have n3' : 0 ≤ L3 ∧ L3 ≤ 1048576 := by omega
 have N3 : Hid (0 ≤ L3 ∧ L3 ≤ 1048576) := n3'
 have Q3 : Hid ((x.wn : Int) + (sumL x.wL x.wn : Nat) ≤ L2) := q3
 have Q4 : Hid (L3 < (x.hn : Int) + (sumL x.hL x.hn : Nat)) := by
  show L3 < _
  have := HH.out
  omega
 clear q1 q2 q3 e1 e2 e3 n1' n2' n3' HH
 go_enter Tryz.func42, Tryz.ntmps42
 go_wp2_with fail
 refine (szInsSS_small _ _ _ _ x.pL _ _ _ (HR.out.p.below (by go_grown)) Q1.out (Int.le_refl _)).mono ?_
 rintro e w1 ⟨rfl, rfl⟩
 rw [E1.out]
 go_wp2_with fail
 refine (szStateS_small _ _ _ x.sQ _ _ (HR.out.s.below (by go_grown)) Q2.out N1.out.2).mono ?_
 rintro e w2 ⟨rfl, b2⟩
 rw [show ((sumL (lenS fun i => (x.sQ i).s) x.sn : Nat) : Int) = (sumL (lenS x.sS) x.sn : Nat) from rfl, E2.out]
 have B2 : Hid (Below w.heap.size w w2) := below_up (by go_grown) b2 (by simp)
 have hw2 := b2.size
 obtain ⟨hc2, hf2⟩ := bcell b2
 clear b2
 go_wp2_with fail
 refine (szItemSS_small _ _ _ _ x.wL _ _ _ (HR.out.w.below B2.out) Q3.out N2.out.2).mono ?_
 rintro e w3 ⟨rfl, rfl⟩
 rw [E3.out]
 go_wp2_with fail
 refine (szEventSS_great _ _ _ _ x.hL _ _ _ (HR.out.h.below B2.out) Q4.out N3.out.1 N3.out.2 HM.out.h.1 HM.out.h.2).mono ?_
 rintro e w4 ⟨rfl, rfl⟩
 go_wp2
 go_ret
 exact ⟨rfl, B2.out⟩
structure OutSys (w : World) (lo hi : Nat) (x : SysIn) (v : Value) (D1 D2 D3 D4 : Nat) (b1 : Nat → Nat) (vs : Nat → Value) (b3 b4 : Nat → Nat) (h1 h2 h3 : Nat) : Prop where
 val : v = sysV (some ⟨D1, 0, none⟩) x.pn x.pn (some ⟨D2, 0, none⟩) x.sn x.sn (some ⟨D3, 0, none⟩) x.wn x.wn (some ⟨D4, 0, none⟩) x.hn x.hn
 pp : OutIns w D1 h1 x.pn x.pL b1 x.pH
 ss : OutState w D2 h2 x.sn x.sS vs
 ww : OutItem w D3 h3 x.wn x.wL b3 x.wH
 hh : OutEvent w D4 hi x.hn x.hL b4 x.hH
 lo : lo ≤ D1
 o1 : h1 ≤ D2
 o2 : h2 ≤ D3
 o3 : h3 ≤ D4
def IsSys (w : World) (lo hi : Nat) (x : SysIn) (v : Value) : Prop := ∃ D1 D2 D3 D4 b1 vs b3 b4 h1 h2 h3, OutSys w lo hi x v D1 D2 D3 D4 b1 vs b3 b4 h1 h2 h3
theorem OutSys.hi {w : World} {lo hi : Nat} {x : SysIn} {v : Value} {D1 D2 D3 D4 : Nat} {b1 : Nat → Nat} {vs : Nat → Value} {b3 b4 : Nat → Nat} {h1 h2 h3 : Nat} (o : OutSys w lo hi x v D1 D2 D3 D4 b1 vs b3 b4 h1 h2 h3) : h1 ≤ hi ∧ h2 ≤ hi ∧ h3 ≤ hi ∧ hi ≤ w.heap.size ∧ lo < hi := by
 have := o.pp.lt
 have := o.ss.lt
 have := o.ww.lt
 have := o.hh.lt
 have := o.lo
 have := o.o1
 have := o.o2
 have := o.o3
 have := o.hh.le
 omega
theorem IsSys.below {w w' : World} {lo hi : Nat} {x : SysIn} {v : Value} {B : Nat} (o : IsSys w lo hi x v) (hb : Below B w w') (hB : hi ≤ B) : IsSys w' lo hi x v := by
 obtain ⟨D1, D2, D3, D4, b1, vs, b3, b4, h1, h2, h3, o⟩ := o
 obtain ⟨q1, q2, q3, -, -⟩ := o.hi
 exact ⟨D1, D2, D3, D4, b1, vs, b3, b4, h1, h2, h3, o.val, o.pp.below hb (by omega), o.ss.below hb (by omega), o.ww.below hb (by omega), o.hh.below hb hB, o.lo, o.o1, o.o2, o.o3⟩
theorem append_one {ops : Array Oper} {rest : List Oper} {op : Oper} {act : Act} {Q : Exit → Act → World → Prop} (w : World) (hgd : op.guard = none) (s x : Operand)
  (ho : op.op = .call { callee := .builtin .append, args := #[s, x], argTypes := #[37, 37] })
  (B : Nat) (v : Value) (xs : List Int) (hs : act.eval s = v) (hv : OwnI w B v xs) (y : Int) (hx : act.eval x = .slice (some ⟨w.heap.size, 0, none⟩) 1 1) (hn : xs.length ≤ 1048576) (hB : B ≤ w.heap.size)
  (h : ∀ v' w', OwnI w' B v' (xs ++ [y]) → Below B w w' → wpList Tryz.prog ops Q rest (act.put op.dst v') w') :
  wpList Tryz.prog ops Q (op :: rest) act (w.alloc (.cells #[.int .i64 y] 3)) := by
 have hb : Below w.heap.size w (w.alloc (.cells #[.int .i64 y] 3)) := (Below.refl _ _).alloc (Nat.le_refl _) _
 refine wpList_append_ints _ hgd s x ho B 1 v (some ⟨w.heap.size, 0, none⟩) xs [y] hs hx (hv.below hb) (.inr ⟨w.heap.size, 0, rfl, by simp, fun i hi => ?_⟩) (by simp; omega) (by simp; omega) ?_
 ·have : i = 0 := by simp at hi; omega
  subst this
  exact new_cell _ _ _ 0 rfl
 ·intro v' w' o g _
  refine h v' w' o (Below.grown (hb.mono hB) g (by simp; omega) (fun k hk => (hv.lt k hk).1))
theorem append_oneN {ops : Array Oper} {rest : List Oper} {op : Oper} {act : Act} {Q : Exit → Act → World → Prop} (w : World) {N : Nat} (hN : N = w.heap.size) (hgd : op.guard = none) (s x : Operand)
  (ho : op.op = .call { callee := .builtin .append, args := #[s, x], argTypes := #[37, 37] })
  (B : Nat) (v : Value) (xs : List Int) (hs : act.eval s = v) (hv : OwnI w B v xs) (y : Int) (hx : act.eval x = .slice (some ⟨N, 0, none⟩) 1 1) (hn : xs.length ≤ 1048576) (hB : B ≤ w.heap.size)
  (h : ∀ v' w', OwnI w' B v' (xs ++ [y]) → Below B w w' → wpList Tryz.prog ops Q rest (act.put op.dst v') w') :
  wpList Tryz.prog ops Q (op :: rest) act (w.alloc (.cells #[.int .i64 y] 3)) := by
 subst hN
 exact append_one w hgd s x ho B v xs hs hv y hx hn hB h
theorem OwnI.to {w : World} {B : Nat} {v : Value} {xs ys : List Int} (h : OwnI w B v xs) (e : ys = xs) : OwnI w B v ys := e ▸ h
def ItL (w : World) (a : Option Addr) (len : Nat) (h : Nat → I2) : Prop := len = 0 ∨ ∃ b off, a = some ⟨b, off, none⟩ ∧ b < w.heap.size ∧ ItAt w b off len h
theorem ItL.below {w w' : World} {a : Option Addr} {len : Nat} {h : Nat → I2} (hh : ItL w a len h) (hb : Below w.heap.size w w') : ItL w' a len h := by
 rcases hh with e | ⟨b, off, e, hlt, hc⟩
 ·exact .inl e
 ·exact .inr ⟨b, off, e, Nat.lt_of_lt_of_le hlt hb.size, hc.below hb hlt⟩
theorem ItL.at {w : World} {a : Option Addr} {len : Nat} {h : Nat → I2} (hh : ItL w a len h) {k : Nat} (hk : k < len) : ∃ b off, a = some ⟨b, off, none⟩ ∧ b < w.heap.size ∧ w.cell? ⟨b, off + k * 2, none⟩ = some (.bool (h k).m) ∧ w.cell? ⟨b, off + k * 2 + 1, none⟩ = some (.int .i64 (h k).v) := by
 rcases hh with rfl | ⟨b, off, e, hlt, hc⟩
 ·omega
 ·exact ⟨b, off, e, hlt, hc k hk⟩
theorem run_enter {f : FuncId} {fn : Func} {c : Code} (hf : Tryz.prog.funcs[f]? = some fn) (hname : (fn.name == "runtime.NumGoroutine") = false) (hb : fn.body = some c) (args : Array Value) (w : World) :
  (callFunc f args).run Tryz.prog w = .ok (.enter f args) w := by
 have h1 : fn.name ≠ "runtime.NumGoroutine" := by simpa using hname
 simp [callFunc, hf, h1, hb]
theorem stepR_below {w w' : World} {B : Nat} {o1 : Option Addr} {c1 : Nat} {os : List Int} {p' b1 b2 b3 b4 code' : Int} (hO : OwnI w B (.slice o1 os.length c1) os) (hb : Below w.heap.size w w') :
  StepR w B (.slice o1 os.length c1) os p' b1 b2 b3 b4 os code' (.returned (dV p' b1 b2 b3 b4 o1 os.length c1 code')) w' :=
 ⟨o1, c1, rfl, hO.below hb, hO.below hb, grown_any (grown_of_below hb) _, fun _ h => .inl h⟩
theorem settled_set {len k : Nat} {a1 a2 a3 a4 : Int} {os : List Int} {jr : Nat} {v : Int} (hn : numB a1 = true ∧ numB a2 = true ∧ numB a3 = true ∧ numB a4 = true) (h60 : os.length ≤ 60) (hj : jr < 4) :
  settledS len k a1 a2 a3 a4 os (k + 1) (set4 a1 a2 a3 a4 jr v).1 (set4 a1 a2 a3 a4 jr v).2.1 (set4 a1 a2 a3 a4 jr v).2.2.1 (set4 a1 a2 a3 a4 jr v).2.2.2 os 0 = if numB v = true then goS len k ([a1, a2, a3, a4].set jr v) os 0 else ⟨k, [a1, a2, a3, a4], os, 2⟩ := by
 obtain ⟨n1, n2, n3, n4⟩ := hn
 have h1 : regsB ([a1, a2, a3, a4].set jr v) = numB v := by
  match jr, hj with
  | 0, _ => simp [regsB, allN, n2, n3, n4]
  | 1, _ => simp [regsB, allN, n1, n3, n4]
  | 2, _ => simp [regsB, allN, n1, n2, n4]
  | 3, _ => simp [regsB, allN, n1, n2, n3]
 have h2 : ¬ (60 : Int) < (os.length : Int) := by omega
 unfold settledS
 rw [set4_list _ _ _ _ _ _ hj, h1]
 cases hv : numB v
 ·simp
 ·by_cases h3 : (len : Int) ≤ (k : Int) + 1
  ·have h4 : belB ((k : Int) + 1) len = false := by simp [belB]; omega
   simp [h2, h4, goS, goP, goC, h3]
  ·have h4 : belB ((k : Int) + 1) len = true := by simp [belB]; omega
   simp [h2, h4, goS, goP, goC, h3]
theorem settled_same {len k : Nat} {a1 a2 a3 a4 : Int} {os os' : List Int} (hn : numB a1 = true ∧ numB a2 = true ∧ numB a3 = true ∧ numB a4 = true) (h60 : os'.length ≤ 60) :
  settledS len k a1 a2 a3 a4 os (k + 1) a1 a2 a3 a4 os' 0 = goS len k [a1, a2, a3, a4] os' 0 := by
 obtain ⟨n1, n2, n3, n4⟩ := hn
 have h1 : regsB [a1, a2, a3, a4] = true := by simp [regsB, allN, n1, n2, n3, n4]
 have h2 : ¬ (60 : Int) < (os'.length : Int) := by omega
 unfold settledS
 rw [h1]
 by_cases h3 : (len : Int) ≤ (k : Int) + 1
 ·have h4 : belB ((k : Int) + 1) len = false := by simp [belB]; omega
  simp [h2, h4, goS, goP, goC, h3]
 ·have h4 : belB ((k : Int) + 1) len = true := by simp [belB]; omega
  simp [h2, h4, goS, goP, goC, h3]
theorem settled_over {len k : Nat} {a1 a2 a3 a4 p' b1 b2 b3 b4 code' : Int} {os os' : List Int} (h60 : 60 < os'.length) :
  settledS len k a1 a2 a3 a4 os p' b1 b2 b3 b4 os' code' = ⟨k, [a1, a2, a3, a4], os, 2⟩ := by
 unfold settledS
 rw [if_pos (.inr (by omega))]
theorem settled_to {len k : Nat} {a1 a2 a3 a4 n code' : Int} {os : List Int} (hn : numB a1 = true ∧ numB a2 = true ∧ numB a3 = true ∧ numB a4 = true) (h60 : os.length ≤ 60) (hb : belB n len = true) :
  settledS len k a1 a2 a3 a4 os n a1 a2 a3 a4 os code' = ⟨n, [a1, a2, a3, a4], os, code'⟩ := by
 obtain ⟨n1, n2, n3, n4⟩ := hn
 have h1 : regsB [a1, a2, a3, a4] = true := by simp [regsB, allN, n1, n2, n3, n4]
 have h2 : ¬ (60 : Int) < (os.length : Int) := by omega
 unfold settledS
 rw [h1, hb]
 simp [h2]
theorem do_set (b off len cap k : Nat) (g : Nat → I5) (ra oa : Option Addr) (rc oc : Nat) (a1 a2 a3 a4 : Int) (os : List Int) (ek eq ev : Int) (w : World) (jr ja jb : Nat) (hj : (g k).r = jr ∧ (g k).a = ja ∧ (g k).b = jb) (j4 : jr < 4 ∧ ja < 4 ∧ jb < 4) (hn : numB a1 = true ∧ numB a2 = true ∧ numB a3 = true ∧ numB a4 = true) (_hz : ∀ j, j < 4 → numB (zi [a1, a2, a3, a4] j) = true) (hl : (len : Int) ≤ 30) (hb : b < w.heap.size) (hI : InsAt w b off len g) (h60 : os.length ≤ 60) (h1 : Sl w ra [a1, a2, a3, a4]) (h2 : Sl w oa os) (hk : k < len) (hD : canB (nxK g len k [a1, a2, a3, a4] os 0) (nxP g len k [a1, a2, a3, a4] os 0) (nxW g len k [a1, a2, a3, a4] os 0) ek eq ev = true) (ho : (g k).o = 1) :
  Calls Tryz.prog 133 #[.slice (some ⟨b, off, none⟩) len cap, stV k ra 4 rc oa os.length oc 0, evV ek eq ev] w (DoneR w (doneS len (g k) k [a1, a2, a3, a4] os 0 ev) true) := by
 obtain ⟨hjr, hja, hjb⟩ := hj
 obtain ⟨j1, j2, j3⟩ := j4
 have e : settledS len k a1 a2 a3 a4 os (k + 1) (set4 a1 a2 a3 a4 jr ((g k).n)).1 (set4 a1 a2 a3 a4 jr ((g k).n)).2.1 (set4 a1 a2 a3 a4 jr ((g k).n)).2.2.1 (set4 a1 a2 a3 a4 jr ((g k).n)).2.2.2 os 0 = doneS len (g k) k [a1, a2, a3, a4] os 0 ev := by
  rw [settled_set hn h60 j1]
  simp [doneS, ho, calcN, hjr]
 rw [← e]
 refine doIn_step b off len cap k g ra oa rc oc a1 a2 a3 a4 os ek eq ev w 216 (run_enter Tryz.func216 (by kernel_rfl) rfl) (k + 1) (set4 a1 a2 a3 a4 jr ((g k).n)).1 (set4 a1 a2 a3 a4 jr ((g k).n)).2.1 (set4 a1 a2 a3 a4 jr ((g k).n)).2.2.1 (set4 a1 a2 a3 a4 jr ((g k).n)).2.2.2 os 0 (by unfold maxLen; omega) hb hI h60 h1 h2 hk hD (by rw [ho]; exact stepOf_1) (fun o1 c1 B wx hB hO => ?_)
 rw [hjr, hja, hjb]
 refine (step_set _ _ _ _ _ _ _ _ _ jr ja jb _ _ _ _ _ _ (by omega) (by omega) j1).mono ?_
 rintro e w' ⟨rfl, b⟩
 exact stepR_below hO b
theorem do_add (b off len cap k : Nat) (g : Nat → I5) (ra oa : Option Addr) (rc oc : Nat) (a1 a2 a3 a4 : Int) (os : List Int) (ek eq ev : Int) (w : World) (jr ja jb : Nat) (hj : (g k).r = jr ∧ (g k).a = ja ∧ (g k).b = jb) (j4 : jr < 4 ∧ ja < 4 ∧ jb < 4) (hn : numB a1 = true ∧ numB a2 = true ∧ numB a3 = true ∧ numB a4 = true) (_hz : ∀ j, j < 4 → numB (zi [a1, a2, a3, a4] j) = true) (hl : (len : Int) ≤ 30) (hb : b < w.heap.size) (hI : InsAt w b off len g) (h60 : os.length ≤ 60) (h1 : Sl w ra [a1, a2, a3, a4]) (h2 : Sl w oa os) (hk : k < len) (hD : canB (nxK g len k [a1, a2, a3, a4] os 0) (nxP g len k [a1, a2, a3, a4] os 0) (nxW g len k [a1, a2, a3, a4] os 0) ek eq ev = true) (ho : (g k).o = 2) :
  Calls Tryz.prog 133 #[.slice (some ⟨b, off, none⟩) len cap, stV k ra 4 rc oa os.length oc 0, evV ek eq ev] w (DoneR w (doneS len (g k) k [a1, a2, a3, a4] os 0 ev) true) := by
 obtain ⟨hjr, hja, hjb⟩ := hj
 obtain ⟨j1, j2, j3⟩ := j4
 have zA := numB_iff.mp (_hz ja j2)
 have zB := numB_iff.mp (_hz jb j3)
 have zM := mul_bound (_hz ja j2) (_hz jb j3)
 have e : settledS len k a1 a2 a3 a4 os (k + 1) (set4 a1 a2 a3 a4 jr (zi [a1, a2, a3, a4] ja + zi [a1, a2, a3, a4] jb)).1 (set4 a1 a2 a3 a4 jr (zi [a1, a2, a3, a4] ja + zi [a1, a2, a3, a4] jb)).2.1 (set4 a1 a2 a3 a4 jr (zi [a1, a2, a3, a4] ja + zi [a1, a2, a3, a4] jb)).2.2.1 (set4 a1 a2 a3 a4 jr (zi [a1, a2, a3, a4] ja + zi [a1, a2, a3, a4] jb)).2.2.2 os 0 = doneS len (g k) k [a1, a2, a3, a4] os 0 ev := by
  rw [settled_set hn h60 j1]
  simp [doneS, ho, calcN, hjr, hja, hjb]
 rw [← e]
 refine doIn_step b off len cap k g ra oa rc oc a1 a2 a3 a4 os ek eq ev w 217 (run_enter Tryz.func217 (by kernel_rfl) rfl) (k + 1) (set4 a1 a2 a3 a4 jr (zi [a1, a2, a3, a4] ja + zi [a1, a2, a3, a4] jb)).1 (set4 a1 a2 a3 a4 jr (zi [a1, a2, a3, a4] ja + zi [a1, a2, a3, a4] jb)).2.1 (set4 a1 a2 a3 a4 jr (zi [a1, a2, a3, a4] ja + zi [a1, a2, a3, a4] jb)).2.2.1 (set4 a1 a2 a3 a4 jr (zi [a1, a2, a3, a4] ja + zi [a1, a2, a3, a4] jb)).2.2.2 os 0 (by unfold maxLen; omega) hb hI h60 h1 h2 hk hD (by rw [ho]; exact stepOf_2) (fun o1 c1 B wx hB hO => ?_)
 rw [hjr, hja, hjb]
 refine (step_add _ _ _ _ _ _ _ _ _ jr ja jb _ _ _ _ _ _ (by omega) (by omega) j1 j2 j3 zA.1 zA.2 zB.1 zB.2 zM.1 zM.2).mono ?_
 rintro e w' ⟨rfl, b⟩
 exact stepR_below hO b
theorem do_sub (b off len cap k : Nat) (g : Nat → I5) (ra oa : Option Addr) (rc oc : Nat) (a1 a2 a3 a4 : Int) (os : List Int) (ek eq ev : Int) (w : World) (jr ja jb : Nat) (hj : (g k).r = jr ∧ (g k).a = ja ∧ (g k).b = jb) (j4 : jr < 4 ∧ ja < 4 ∧ jb < 4) (hn : numB a1 = true ∧ numB a2 = true ∧ numB a3 = true ∧ numB a4 = true) (_hz : ∀ j, j < 4 → numB (zi [a1, a2, a3, a4] j) = true) (hl : (len : Int) ≤ 30) (hb : b < w.heap.size) (hI : InsAt w b off len g) (h60 : os.length ≤ 60) (h1 : Sl w ra [a1, a2, a3, a4]) (h2 : Sl w oa os) (hk : k < len) (hD : canB (nxK g len k [a1, a2, a3, a4] os 0) (nxP g len k [a1, a2, a3, a4] os 0) (nxW g len k [a1, a2, a3, a4] os 0) ek eq ev = true) (ho : (g k).o = 3) :
  Calls Tryz.prog 133 #[.slice (some ⟨b, off, none⟩) len cap, stV k ra 4 rc oa os.length oc 0, evV ek eq ev] w (DoneR w (doneS len (g k) k [a1, a2, a3, a4] os 0 ev) true) := by
 obtain ⟨hjr, hja, hjb⟩ := hj
 obtain ⟨j1, j2, j3⟩ := j4
 have zA := numB_iff.mp (_hz ja j2)
 have zB := numB_iff.mp (_hz jb j3)
 have zM := mul_bound (_hz ja j2) (_hz jb j3)
 have e : settledS len k a1 a2 a3 a4 os (k + 1) (set4 a1 a2 a3 a4 jr (zi [a1, a2, a3, a4] ja - zi [a1, a2, a3, a4] jb)).1 (set4 a1 a2 a3 a4 jr (zi [a1, a2, a3, a4] ja - zi [a1, a2, a3, a4] jb)).2.1 (set4 a1 a2 a3 a4 jr (zi [a1, a2, a3, a4] ja - zi [a1, a2, a3, a4] jb)).2.2.1 (set4 a1 a2 a3 a4 jr (zi [a1, a2, a3, a4] ja - zi [a1, a2, a3, a4] jb)).2.2.2 os 0 = doneS len (g k) k [a1, a2, a3, a4] os 0 ev := by
  rw [settled_set hn h60 j1]
  simp [doneS, ho, calcN, hjr, hja, hjb]
 rw [← e]
 refine doIn_step b off len cap k g ra oa rc oc a1 a2 a3 a4 os ek eq ev w 218 (run_enter Tryz.func218 (by kernel_rfl) rfl) (k + 1) (set4 a1 a2 a3 a4 jr (zi [a1, a2, a3, a4] ja - zi [a1, a2, a3, a4] jb)).1 (set4 a1 a2 a3 a4 jr (zi [a1, a2, a3, a4] ja - zi [a1, a2, a3, a4] jb)).2.1 (set4 a1 a2 a3 a4 jr (zi [a1, a2, a3, a4] ja - zi [a1, a2, a3, a4] jb)).2.2.1 (set4 a1 a2 a3 a4 jr (zi [a1, a2, a3, a4] ja - zi [a1, a2, a3, a4] jb)).2.2.2 os 0 (by unfold maxLen; omega) hb hI h60 h1 h2 hk hD (by rw [ho]; exact stepOf_3) (fun o1 c1 B wx hB hO => ?_)
 rw [hjr, hja, hjb]
 refine (step_sub _ _ _ _ _ _ _ _ _ jr ja jb _ _ _ _ _ _ (by omega) (by omega) j1 j2 j3 zA.1 zA.2 zB.1 zB.2 zM.1 zM.2).mono ?_
 rintro e w' ⟨rfl, b⟩
 exact stepR_below hO b
theorem do_mul (b off len cap k : Nat) (g : Nat → I5) (ra oa : Option Addr) (rc oc : Nat) (a1 a2 a3 a4 : Int) (os : List Int) (ek eq ev : Int) (w : World) (jr ja jb : Nat) (hj : (g k).r = jr ∧ (g k).a = ja ∧ (g k).b = jb) (j4 : jr < 4 ∧ ja < 4 ∧ jb < 4) (hn : numB a1 = true ∧ numB a2 = true ∧ numB a3 = true ∧ numB a4 = true) (_hz : ∀ j, j < 4 → numB (zi [a1, a2, a3, a4] j) = true) (hl : (len : Int) ≤ 30) (hb : b < w.heap.size) (hI : InsAt w b off len g) (h60 : os.length ≤ 60) (h1 : Sl w ra [a1, a2, a3, a4]) (h2 : Sl w oa os) (hk : k < len) (hD : canB (nxK g len k [a1, a2, a3, a4] os 0) (nxP g len k [a1, a2, a3, a4] os 0) (nxW g len k [a1, a2, a3, a4] os 0) ek eq ev = true) (ho : (g k).o = 4) :
  Calls Tryz.prog 133 #[.slice (some ⟨b, off, none⟩) len cap, stV k ra 4 rc oa os.length oc 0, evV ek eq ev] w (DoneR w (doneS len (g k) k [a1, a2, a3, a4] os 0 ev) true) := by
 obtain ⟨hjr, hja, hjb⟩ := hj
 obtain ⟨j1, j2, j3⟩ := j4
 have zA := numB_iff.mp (_hz ja j2)
 have zB := numB_iff.mp (_hz jb j3)
 have zM := mul_bound (_hz ja j2) (_hz jb j3)
 have e : settledS len k a1 a2 a3 a4 os (k + 1) (set4 a1 a2 a3 a4 jr (zi [a1, a2, a3, a4] ja * zi [a1, a2, a3, a4] jb)).1 (set4 a1 a2 a3 a4 jr (zi [a1, a2, a3, a4] ja * zi [a1, a2, a3, a4] jb)).2.1 (set4 a1 a2 a3 a4 jr (zi [a1, a2, a3, a4] ja * zi [a1, a2, a3, a4] jb)).2.2.1 (set4 a1 a2 a3 a4 jr (zi [a1, a2, a3, a4] ja * zi [a1, a2, a3, a4] jb)).2.2.2 os 0 = doneS len (g k) k [a1, a2, a3, a4] os 0 ev := by
  rw [settled_set hn h60 j1]
  simp [doneS, ho, calcN, hjr, hja, hjb]
 rw [← e]
 refine doIn_step b off len cap k g ra oa rc oc a1 a2 a3 a4 os ek eq ev w 219 (run_enter Tryz.func219 (by kernel_rfl) rfl) (k + 1) (set4 a1 a2 a3 a4 jr (zi [a1, a2, a3, a4] ja * zi [a1, a2, a3, a4] jb)).1 (set4 a1 a2 a3 a4 jr (zi [a1, a2, a3, a4] ja * zi [a1, a2, a3, a4] jb)).2.1 (set4 a1 a2 a3 a4 jr (zi [a1, a2, a3, a4] ja * zi [a1, a2, a3, a4] jb)).2.2.1 (set4 a1 a2 a3 a4 jr (zi [a1, a2, a3, a4] ja * zi [a1, a2, a3, a4] jb)).2.2.2 os 0 (by unfold maxLen; omega) hb hI h60 h1 h2 hk hD (by rw [ho]; exact stepOf_4) (fun o1 c1 B wx hB hO => ?_)
 rw [hjr, hja, hjb]
 refine (step_mul _ _ _ _ _ _ _ _ _ jr ja jb _ _ _ _ _ _ (by omega) (by omega) j1 j2 j3 zA.1 zA.2 zB.1 zB.2 zM.1 zM.2).mono ?_
 rintro e w' ⟨rfl, b⟩
 exact stepR_below hO b
theorem do_less_yes (b off len cap k : Nat) (g : Nat → I5) (ra oa : Option Addr) (rc oc : Nat) (a1 a2 a3 a4 : Int) (os : List Int) (ek eq ev : Int) (w : World) (jr ja jb : Nat) (hj : (g k).r = jr ∧ (g k).a = ja ∧ (g k).b = jb) (j4 : jr < 4 ∧ ja < 4 ∧ jb < 4) (hn : numB a1 = true ∧ numB a2 = true ∧ numB a3 = true ∧ numB a4 = true) (_hz : ∀ j, j < 4 → numB (zi [a1, a2, a3, a4] j) = true) (hl : (len : Int) ≤ 30) (hb : b < w.heap.size) (hI : InsAt w b off len g) (h60 : os.length ≤ 60) (h1 : Sl w ra [a1, a2, a3, a4]) (h2 : Sl w oa os) (hk : k < len) (hD : canB (nxK g len k [a1, a2, a3, a4] os 0) (nxP g len k [a1, a2, a3, a4] os 0) (nxW g len k [a1, a2, a3, a4] os 0) ek eq ev = true) (ho : (g k).o = 5) (hlt : zi [a1, a2, a3, a4] ja < zi [a1, a2, a3, a4] jb) :
  Calls Tryz.prog 133 #[.slice (some ⟨b, off, none⟩) len cap, stV k ra 4 rc oa os.length oc 0, evV ek eq ev] w (DoneR w (doneS len (g k) k [a1, a2, a3, a4] os 0 ev) true) := by
 obtain ⟨hjr, hja, hjb⟩ := hj
 obtain ⟨j1, j2, j3⟩ := j4
 have e : settledS len k a1 a2 a3 a4 os (k + 1) (set4 a1 a2 a3 a4 jr (1)).1 (set4 a1 a2 a3 a4 jr (1)).2.1 (set4 a1 a2 a3 a4 jr (1)).2.2.1 (set4 a1 a2 a3 a4 jr (1)).2.2.2 os 0 = doneS len (g k) k [a1, a2, a3, a4] os 0 ev := by
  rw [settled_set hn h60 j1]
  simp [doneS, ho, calcN, hjr, hja, hjb, hlt]
 rw [← e]
 refine doIn_step b off len cap k g ra oa rc oc a1 a2 a3 a4 os ek eq ev w 220 (run_enter Tryz.func220 (by kernel_rfl) rfl) (k + 1) (set4 a1 a2 a3 a4 jr (1)).1 (set4 a1 a2 a3 a4 jr (1)).2.1 (set4 a1 a2 a3 a4 jr (1)).2.2.1 (set4 a1 a2 a3 a4 jr (1)).2.2.2 os 0 (by unfold maxLen; omega) hb hI h60 h1 h2 hk hD (by rw [ho]; exact stepOf_5) (fun o1 c1 B wx hB hO => ?_)
 rw [hjr, hja, hjb]
 refine (step_less_yes _ _ _ _ _ _ _ _ _ jr ja jb _ _ _ _ _ _ (by omega) (by omega) j1 j2 j3 hlt).mono ?_
 rintro e w' ⟨rfl, b⟩
 exact stepR_below hO b
theorem do_less_no (b off len cap k : Nat) (g : Nat → I5) (ra oa : Option Addr) (rc oc : Nat) (a1 a2 a3 a4 : Int) (os : List Int) (ek eq ev : Int) (w : World) (jr ja jb : Nat) (hj : (g k).r = jr ∧ (g k).a = ja ∧ (g k).b = jb) (j4 : jr < 4 ∧ ja < 4 ∧ jb < 4) (hn : numB a1 = true ∧ numB a2 = true ∧ numB a3 = true ∧ numB a4 = true) (_hz : ∀ j, j < 4 → numB (zi [a1, a2, a3, a4] j) = true) (hl : (len : Int) ≤ 30) (hb : b < w.heap.size) (hI : InsAt w b off len g) (h60 : os.length ≤ 60) (h1 : Sl w ra [a1, a2, a3, a4]) (h2 : Sl w oa os) (hk : k < len) (hD : canB (nxK g len k [a1, a2, a3, a4] os 0) (nxP g len k [a1, a2, a3, a4] os 0) (nxW g len k [a1, a2, a3, a4] os 0) ek eq ev = true) (ho : (g k).o = 5) (hlt : ¬ zi [a1, a2, a3, a4] ja < zi [a1, a2, a3, a4] jb) :
  Calls Tryz.prog 133 #[.slice (some ⟨b, off, none⟩) len cap, stV k ra 4 rc oa os.length oc 0, evV ek eq ev] w (DoneR w (doneS len (g k) k [a1, a2, a3, a4] os 0 ev) true) := by
 obtain ⟨hjr, hja, hjb⟩ := hj
 obtain ⟨j1, j2, j3⟩ := j4
 have e : settledS len k a1 a2 a3 a4 os (k + 1) (set4 a1 a2 a3 a4 jr (0)).1 (set4 a1 a2 a3 a4 jr (0)).2.1 (set4 a1 a2 a3 a4 jr (0)).2.2.1 (set4 a1 a2 a3 a4 jr (0)).2.2.2 os 0 = doneS len (g k) k [a1, a2, a3, a4] os 0 ev := by
  rw [settled_set hn h60 j1]
  simp [doneS, ho, calcN, hjr, hja, hjb, hlt]
 rw [← e]
 refine doIn_step b off len cap k g ra oa rc oc a1 a2 a3 a4 os ek eq ev w 220 (run_enter Tryz.func220 (by kernel_rfl) rfl) (k + 1) (set4 a1 a2 a3 a4 jr (0)).1 (set4 a1 a2 a3 a4 jr (0)).2.1 (set4 a1 a2 a3 a4 jr (0)).2.2.1 (set4 a1 a2 a3 a4 jr (0)).2.2.2 os 0 (by unfold maxLen; omega) hb hI h60 h1 h2 hk hD (by rw [ho]; exact stepOf_5) (fun o1 c1 B wx hB hO => ?_)
 rw [hjr, hja, hjb]
 refine (step_less_no _ _ _ _ _ _ _ _ _ jr ja jb _ _ _ _ _ _ (by omega) (by omega) j1 j2 j3 hlt).mono ?_
 rintro e w' ⟨rfl, b⟩
 exact stepR_below hO b
theorem do_send (b off len cap k : Nat) (g : Nat → I5) (ra oa : Option Addr) (rc oc : Nat) (a1 a2 a3 a4 : Int) (os : List Int) (ek eq ev : Int) (w : World) (jr ja jb : Nat) (hj : (g k).r = jr ∧ (g k).a = ja ∧ (g k).b = jb) (j4 : jr < 4 ∧ ja < 4 ∧ jb < 4) (hn : numB a1 = true ∧ numB a2 = true ∧ numB a3 = true ∧ numB a4 = true) (_hz : ∀ j, j < 4 → numB (zi [a1, a2, a3, a4] j) = true) (hl : (len : Int) ≤ 30) (hb : b < w.heap.size) (hI : InsAt w b off len g) (h60 : os.length ≤ 60) (h1 : Sl w ra [a1, a2, a3, a4]) (h2 : Sl w oa os) (hk : k < len) (hD : canB (nxK g len k [a1, a2, a3, a4] os 0) (nxP g len k [a1, a2, a3, a4] os 0) (nxW g len k [a1, a2, a3, a4] os 0) ek eq ev = true) (ho : (g k).o = 6) :
  Calls Tryz.prog 133 #[.slice (some ⟨b, off, none⟩) len cap, stV k ra 4 rc oa os.length oc 0, evV ek eq ev] w (DoneR w (doneS len (g k) k [a1, a2, a3, a4] os 0 ev) true) := by
 obtain ⟨hjr, hja, hjb⟩ := hj
 obtain ⟨j1, j2, j3⟩ := j4
 have e : settledS len k a1 a2 a3 a4 os (k + 1) a1 a2 a3 a4 os 0 = doneS len (g k) k [a1, a2, a3, a4] os 0 ev := by
  rw [settled_same hn h60]
  simp [doneS, ho]
 rw [← e]
 refine doIn_step b off len cap k g ra oa rc oc a1 a2 a3 a4 os ek eq ev w 221 (run_enter Tryz.func221 (by kernel_rfl) rfl) (k + 1) a1 a2 a3 a4 os 0 (by unfold maxLen; omega) hb hI h60 h1 h2 hk hD (by rw [ho]; exact stepOf_6) (fun o1 c1 B wx hB hO => ?_)
 rw [hjr, hja, hjb]
 refine (step_send _ _ _ _ _ _ _ _ _ jr ja jb _ _ _ _ _ _ (by omega) (by omega)).mono ?_
 rintro e w' ⟨rfl, b⟩
 exact stepR_below hO b
theorem do_take (b off len cap k : Nat) (g : Nat → I5) (ra oa : Option Addr) (rc oc : Nat) (a1 a2 a3 a4 : Int) (os : List Int) (ek eq ev : Int) (w : World) (jr ja jb : Nat) (hj : (g k).r = jr ∧ (g k).a = ja ∧ (g k).b = jb) (j4 : jr < 4 ∧ ja < 4 ∧ jb < 4) (hn : numB a1 = true ∧ numB a2 = true ∧ numB a3 = true ∧ numB a4 = true) (_hz : ∀ j, j < 4 → numB (zi [a1, a2, a3, a4] j) = true) (hl : (len : Int) ≤ 30) (hb : b < w.heap.size) (hI : InsAt w b off len g) (h60 : os.length ≤ 60) (h1 : Sl w ra [a1, a2, a3, a4]) (h2 : Sl w oa os) (hk : k < len) (hD : canB (nxK g len k [a1, a2, a3, a4] os 0) (nxP g len k [a1, a2, a3, a4] os 0) (nxW g len k [a1, a2, a3, a4] os 0) ek eq ev = true) (ho : (g k).o = 7) (hv : numB ev = true) :
  Calls Tryz.prog 133 #[.slice (some ⟨b, off, none⟩) len cap, stV k ra 4 rc oa os.length oc 0, evV ek eq ev] w (DoneR w (doneS len (g k) k [a1, a2, a3, a4] os 0 ev) true) := by
 obtain ⟨hjr, hja, hjb⟩ := hj
 obtain ⟨j1, j2, j3⟩ := j4
 have e : settledS len k a1 a2 a3 a4 os (k + 1) (set4 a1 a2 a3 a4 jr (ev)).1 (set4 a1 a2 a3 a4 jr (ev)).2.1 (set4 a1 a2 a3 a4 jr (ev)).2.2.1 (set4 a1 a2 a3 a4 jr (ev)).2.2.2 os 0 = doneS len (g k) k [a1, a2, a3, a4] os 0 ev := by
  rw [settled_set hn h60 j1, if_pos hv]
  simp [doneS, ho, hjr]
 rw [← e]
 refine doIn_step b off len cap k g ra oa rc oc a1 a2 a3 a4 os ek eq ev w 222 (run_enter Tryz.func222 (by kernel_rfl) rfl) (k + 1) (set4 a1 a2 a3 a4 jr (ev)).1 (set4 a1 a2 a3 a4 jr (ev)).2.1 (set4 a1 a2 a3 a4 jr (ev)).2.2.1 (set4 a1 a2 a3 a4 jr (ev)).2.2.2 os 0 (by unfold maxLen; omega) hb hI h60 h1 h2 hk hD (by rw [ho]; exact stepOf_7) (fun o1 c1 B wx hB hO => ?_)
 rw [hjr, hja, hjb]
 refine (step_take _ _ _ _ _ _ _ _ _ jr ja jb _ _ _ _ _ _ (by omega) (by omega) j1).mono ?_
 rintro e w' ⟨rfl, b⟩
 exact stepR_below hO b
theorem do_print (b off len cap k : Nat) (g : Nat → I5) (ra oa : Option Addr) (rc oc : Nat) (a1 a2 a3 a4 : Int) (os : List Int) (ek eq ev : Int) (w : World) (jr ja jb : Nat) (hj : (g k).r = jr ∧ (g k).a = ja ∧ (g k).b = jb) (j4 : jr < 4 ∧ ja < 4 ∧ jb < 4) (hn : numB a1 = true ∧ numB a2 = true ∧ numB a3 = true ∧ numB a4 = true) (_hz : ∀ j, j < 4 → numB (zi [a1, a2, a3, a4] j) = true) (hl : (len : Int) ≤ 30) (hb : b < w.heap.size) (hI : InsAt w b off len g) (h60 : os.length ≤ 60) (h1 : Sl w ra [a1, a2, a3, a4]) (h2 : Sl w oa os) (hk : k < len) (hD : canB (nxK g len k [a1, a2, a3, a4] os 0) (nxP g len k [a1, a2, a3, a4] os 0) (nxW g len k [a1, a2, a3, a4] os 0) ek eq ev = true) (ho : (g k).o = 8) :
  Calls Tryz.prog 133 #[.slice (some ⟨b, off, none⟩) len cap, stV k ra 4 rc oa os.length oc 0, evV ek eq ev] w (DoneR w (doneS len (g k) k [a1, a2, a3, a4] os 0 ev) true) := by
 obtain ⟨hjr, hja, hjb⟩ := hj
 obtain ⟨j1, j2, j3⟩ := j4
 have e : settledS len k a1 a2 a3 a4 os (k + 1) a1 a2 a3 a4 (os ++ [ev]) 0 = doneS len (g k) k [a1, a2, a3, a4] os 0 ev := by
  by_cases h : os.length = 60
  ·rw [settled_over (by simp; omega)]
   simp [doneS, ho, h]
  ·rw [settled_same hn (by simp; omega)]
   simp [doneS, ho, h]
 rw [← e]
 refine doIn_step b off len cap k g ra oa rc oc a1 a2 a3 a4 os ek eq ev w 223 (run_enter Tryz.func223 (by kernel_rfl) rfl) (k + 1) a1 a2 a3 a4 (os ++ [ev]) 0 (by unfold maxLen; omega) hb hI h60 h1 h2 hk hD (by rw [ho]; exact stepOf_8) (fun o1 c1 B wx hB hO => ?_)
 rw [hjr, hja, hjb]
 refine (step_print _ _ _ _ _ _ _ os _ jr ja jb _ _ _ _ _ B wx (by omega) (by omega) (by omega) hB hO).mono ?_
 rintro e w' ⟨oa', oc', rfl, p1, p2, p3, p4⟩
 have e1 : (os ++ [ev]).length = os.length + 1 := by simp
 unfold StepR
 rw [e1]
 exact ⟨oa', oc', rfl, p1, p2, p3, p4⟩
theorem do_jump (b off len cap k : Nat) (g : Nat → I5) (ra oa : Option Addr) (rc oc : Nat) (a1 a2 a3 a4 : Int) (os : List Int) (ek eq ev : Int) (w : World) (jr ja jb : Nat) (hj : (g k).r = jr ∧ (g k).a = ja ∧ (g k).b = jb) (j4 : jr < 4 ∧ ja < 4 ∧ jb < 4) (hn : numB a1 = true ∧ numB a2 = true ∧ numB a3 = true ∧ numB a4 = true) (_hz : ∀ j, j < 4 → numB (zi [a1, a2, a3, a4] j) = true) (hl : (len : Int) ≤ 30) (hb : b < w.heap.size) (hI : InsAt w b off len g) (h60 : os.length ≤ 60) (h1 : Sl w ra [a1, a2, a3, a4]) (h2 : Sl w oa os) (hk : k < len) (hD : canB (nxK g len k [a1, a2, a3, a4] os 0) (nxP g len k [a1, a2, a3, a4] os 0) (nxW g len k [a1, a2, a3, a4] os 0) ek eq ev = true) (ho : (g k).o = 9) (hb9 : belB (g k).n len = true) :
  Calls Tryz.prog 133 #[.slice (some ⟨b, off, none⟩) len cap, stV k ra 4 rc oa os.length oc 0, evV ek eq ev] w (DoneR w (doneS len (g k) k [a1, a2, a3, a4] os 0 ev) true) := by
 obtain ⟨hjr, hja, hjb⟩ := hj
 obtain ⟨j1, j2, j3⟩ := j4
 have e : settledS len k a1 a2 a3 a4 os (g k).n a1 a2 a3 a4 os 0 = doneS len (g k) k [a1, a2, a3, a4] os 0 ev := by
  rw [settled_to hn h60 hb9]
  simp [doneS, ho]
 rw [← e]
 refine doIn_step b off len cap k g ra oa rc oc a1 a2 a3 a4 os ek eq ev w 224 (run_enter Tryz.func224 (by kernel_rfl) rfl) (g k).n a1 a2 a3 a4 os 0 (by unfold maxLen; omega) hb hI h60 h1 h2 hk hD (by rw [ho]; exact stepOf_9) (fun o1 c1 B wx hB hO => ?_)
 rw [hjr, hja, hjb]
 refine (step_jump _ _ _ _ _ _ _ _ _ jr ja jb _ _ _ _ _ _ (by omega) (by omega)).mono ?_
 rintro e w' ⟨rfl, b⟩
 exact stepR_below hO b
theorem do_zero_yes (b off len cap k : Nat) (g : Nat → I5) (ra oa : Option Addr) (rc oc : Nat) (a1 a2 a3 a4 : Int) (os : List Int) (ek eq ev : Int) (w : World) (jr ja jb : Nat) (hj : (g k).r = jr ∧ (g k).a = ja ∧ (g k).b = jb) (j4 : jr < 4 ∧ ja < 4 ∧ jb < 4) (hn : numB a1 = true ∧ numB a2 = true ∧ numB a3 = true ∧ numB a4 = true) (_hz : ∀ j, j < 4 → numB (zi [a1, a2, a3, a4] j) = true) (hl : (len : Int) ≤ 30) (hb : b < w.heap.size) (hI : InsAt w b off len g) (h60 : os.length ≤ 60) (h1 : Sl w ra [a1, a2, a3, a4]) (h2 : Sl w oa os) (hk : k < len) (hD : canB (nxK g len k [a1, a2, a3, a4] os 0) (nxP g len k [a1, a2, a3, a4] os 0) (nxW g len k [a1, a2, a3, a4] os 0) ek eq ev = true) (ho : (g k).o = 10) (hb9 : belB (g k).n len = true) (hz0 : zi [a1, a2, a3, a4] ja = 0) :
  Calls Tryz.prog 133 #[.slice (some ⟨b, off, none⟩) len cap, stV k ra 4 rc oa os.length oc 0, evV ek eq ev] w (DoneR w (doneS len (g k) k [a1, a2, a3, a4] os 0 ev) true) := by
 obtain ⟨hjr, hja, hjb⟩ := hj
 obtain ⟨j1, j2, j3⟩ := j4
 have e : settledS len k a1 a2 a3 a4 os (g k).n a1 a2 a3 a4 os 0 = doneS len (g k) k [a1, a2, a3, a4] os 0 ev := by
  rw [settled_to hn h60 hb9]
  simp [doneS, ho, hja, hz0]
 rw [← e]
 refine doIn_step b off len cap k g ra oa rc oc a1 a2 a3 a4 os ek eq ev w 225 (run_enter Tryz.func225 (by kernel_rfl) rfl) (g k).n a1 a2 a3 a4 os 0 (by unfold maxLen; omega) hb hI h60 h1 h2 hk hD (by rw [ho]; exact stepOf_10) (fun o1 c1 B wx hB hO => ?_)
 rw [hjr, hja, hjb]
 refine (step_zero_yes _ _ _ _ _ _ _ _ _ jr ja jb _ _ _ _ _ _ (by omega) (by omega) j2 (by simp [hz0])).mono ?_
 rintro e w' ⟨rfl, b⟩
 exact stepR_below hO b
theorem do_zero_no (b off len cap k : Nat) (g : Nat → I5) (ra oa : Option Addr) (rc oc : Nat) (a1 a2 a3 a4 : Int) (os : List Int) (ek eq ev : Int) (w : World) (jr ja jb : Nat) (hj : (g k).r = jr ∧ (g k).a = ja ∧ (g k).b = jb) (j4 : jr < 4 ∧ ja < 4 ∧ jb < 4) (hn : numB a1 = true ∧ numB a2 = true ∧ numB a3 = true ∧ numB a4 = true) (_hz : ∀ j, j < 4 → numB (zi [a1, a2, a3, a4] j) = true) (hl : (len : Int) ≤ 30) (hb : b < w.heap.size) (hI : InsAt w b off len g) (h60 : os.length ≤ 60) (h1 : Sl w ra [a1, a2, a3, a4]) (h2 : Sl w oa os) (hk : k < len) (hD : canB (nxK g len k [a1, a2, a3, a4] os 0) (nxP g len k [a1, a2, a3, a4] os 0) (nxW g len k [a1, a2, a3, a4] os 0) ek eq ev = true) (ho : (g k).o = 10) (hz0 : ¬ zi [a1, a2, a3, a4] ja = 0) :
  Calls Tryz.prog 133 #[.slice (some ⟨b, off, none⟩) len cap, stV k ra 4 rc oa os.length oc 0, evV ek eq ev] w (DoneR w (doneS len (g k) k [a1, a2, a3, a4] os 0 ev) true) := by
 obtain ⟨hjr, hja, hjb⟩ := hj
 obtain ⟨j1, j2, j3⟩ := j4
 have e : settledS len k a1 a2 a3 a4 os (k + 1) a1 a2 a3 a4 os 0 = doneS len (g k) k [a1, a2, a3, a4] os 0 ev := by
  rw [settled_same hn h60]
  simp [doneS, ho, hja, hz0]
 rw [← e]
 refine doIn_step b off len cap k g ra oa rc oc a1 a2 a3 a4 os ek eq ev w 225 (run_enter Tryz.func225 (by kernel_rfl) rfl) (k + 1) a1 a2 a3 a4 os 0 (by unfold maxLen; omega) hb hI h60 h1 h2 hk hD (by rw [ho]; exact stepOf_10) (fun o1 c1 B wx hB hO => ?_)
 rw [hjr, hja, hjb]
 refine (step_zero_no _ _ _ _ _ _ _ _ _ jr ja jb _ _ _ _ _ _ (by omega) (by omega) j2 (by simpa using hz0)).mono ?_
 rintro e w' ⟨rfl, b⟩
 exact stepR_below hO b
theorem do_end (b off len cap k : Nat) (g : Nat → I5) (ra oa : Option Addr) (rc oc : Nat) (a1 a2 a3 a4 : Int) (os : List Int) (ek eq ev : Int) (w : World) (jr ja jb : Nat) (hj : (g k).r = jr ∧ (g k).a = ja ∧ (g k).b = jb) (j4 : jr < 4 ∧ ja < 4 ∧ jb < 4) (hn : numB a1 = true ∧ numB a2 = true ∧ numB a3 = true ∧ numB a4 = true) (_hz : ∀ j, j < 4 → numB (zi [a1, a2, a3, a4] j) = true) (hl : (len : Int) ≤ 30) (hb : b < w.heap.size) (hI : InsAt w b off len g) (h60 : os.length ≤ 60) (h1 : Sl w ra [a1, a2, a3, a4]) (h2 : Sl w oa os) (hk : k < len) (hD : canB (nxK g len k [a1, a2, a3, a4] os 0) (nxP g len k [a1, a2, a3, a4] os 0) (nxW g len k [a1, a2, a3, a4] os 0) ek eq ev = true) (ho : (g k).o = 11) :
  Calls Tryz.prog 133 #[.slice (some ⟨b, off, none⟩) len cap, stV k ra 4 rc oa os.length oc 0, evV ek eq ev] w (DoneR w (doneS len (g k) k [a1, a2, a3, a4] os 0 ev) true) := by
 obtain ⟨hjr, hja, hjb⟩ := hj
 obtain ⟨j1, j2, j3⟩ := j4
 have e : settledS len k a1 a2 a3 a4 os k a1 a2 a3 a4 os 1 = doneS len (g k) k [a1, a2, a3, a4] os 0 ev := by
  rw [settled_to hn h60 (by simp [belB]; omega)]
  simp [doneS, ho]
 rw [← e]
 refine doIn_step b off len cap k g ra oa rc oc a1 a2 a3 a4 os ek eq ev w 226 (run_enter Tryz.func226 (by kernel_rfl) rfl) k a1 a2 a3 a4 os 1 (by unfold maxLen; omega) hb hI h60 h1 h2 hk hD (by rw [ho]; exact stepOf_11) (fun o1 c1 B wx hB hO => ?_)
 rw [hjr, hja, hjb]
 refine (step_end _ _ _ _ _ _ _ _ _ jr ja jb _ _ _ _ _ _ (by omega) (by omega)).mono ?_
 rintro e w' ⟨rfl, b⟩
 exact stepR_below hO b
theorem jump_to {x : I5} {len : Nat} (h : insOkB x.o x.r x.a x.b x.n len 4 = true) (h9 : x.o = 9 ∨ x.o = 10) : belB x.n len = true := by
 simp only [insOkB, Bool.and_eq_true] at h
 have h5 := h.2
 unfold opOkB at h5
 rcases h9 with h9 | h9 <;> (rw [h9] at h5; simp [belB] at h5 ⊢; omega)
theorem doIn_any (b off len cap : Nat) (g : Nat → I5) (p code : Int) (ra oa : Option Addr) (rc oc : Nat) (rs os : List Int) (ek eq ev : Int) (w : World) (hlen : len ≤ maxLen) (hb : b < w.heap.size) (hI : InsAt w b off len g) (hr : rs.length ≤ 1048576) (ho : os.length ≤ 1048576) (h1 : Sl w ra rs) (h2 : Sl w oa os) (hP : progOkB g len 4 = true) :
  Calls Tryz.prog 133 #[.slice (some ⟨b, off, none⟩) len cap, stV p ra rs.length rc oa os.length oc code, evV ek eq ev] w (DoneR w (doS g len p rs os code ek eq ev) (doB g len p rs os code ek eq ev)) := by
 rcases Bool.eq_false_or_eq_true (doB g len p rs os code ek eq ev) with hB | hB
 case inr =>
  have hS : doS g len p rs os code ek eq ev = ⟨p, rs, os, code⟩ := by
   unfold doS
   rw [if_neg (by rw [hB]; decide)]
  rw [hB, hS]
  exact doIn_no b off len cap g p code ra oa rc oc rs os ek eq ev w hlen hb hI hr ho h1 h2 hB hP
 have hR := doB_right hB
 obtain ⟨hp, hs, rfl⟩ := right_parts hR
 obtain ⟨⟨a1, a2, a3, a4, rfl, n1, n2, n3, n4⟩, ⟨k, rfl, hk⟩, h60, -⟩ := st_parts hs
 have hS : doS g len k [a1, a2, a3, a4] os 0 ek eq ev = doneS len (g k) k [a1, a2, a3, a4] os 0 ev := by
  unfold doS
  rw [if_pos hB, Int.toNat_natCast]
 rw [hB, hS]
 have hl : (len : Int) ≤ 30 := by
  simp only [progOkB, Bool.and_eq_true] at hp
  have := hp.2.1
  simp [inB] at this
  omega
 have hins := right_ins hp hk
 obtain ⟨⟨o1, o11⟩, ⟨r0, r3⟩, ⟨m0, m3⟩, ⟨q0, q3⟩⟩ := ins_range hins
 have hn : numB a1 = true ∧ numB a2 = true ∧ numB a3 = true ∧ numB a4 = true := ⟨n1, n2, n3, n4⟩
 have hz : ∀ j, j < 4 → numB (zi [a1, a2, a3, a4] j) = true := fun j hj => by
  match j, hj with
  | 0, _ => exact n1
  | 1, _ => exact n2
  | 2, _ => exact n3
  | 3, _ => exact n4
 have hj : (g k).r = ((g k).r.toNat : Int) ∧ (g k).a = ((g k).a.toNat : Int) ∧ (g k).b = ((g k).b.toNat : Int) := ⟨by omega, by omega, by omega⟩
 have j4 : (g k).r.toNat < 4 ∧ (g k).a.toNat < 4 ∧ (g k).b.toNat < 4 := ⟨by omega, by omega, by omega⟩
 rcases opCases (g k).o with h | h | h | h | h | h | h | h | h | h | h | h
 ·omega
 ·exact do_set b off len cap k g ra oa rc oc a1 a2 a3 a4 os ek eq ev w _ _ _ hj j4 hn hz hl hb hI h60 h1 h2 hk hB h
 ·exact do_add b off len cap k g ra oa rc oc a1 a2 a3 a4 os ek eq ev w _ _ _ hj j4 hn hz hl hb hI h60 h1 h2 hk hB h
 ·exact do_sub b off len cap k g ra oa rc oc a1 a2 a3 a4 os ek eq ev w _ _ _ hj j4 hn hz hl hb hI h60 h1 h2 hk hB h
 ·exact do_mul b off len cap k g ra oa rc oc a1 a2 a3 a4 os ek eq ev w _ _ _ hj j4 hn hz hl hb hI h60 h1 h2 hk hB h
 ·by_cases hlt : zi [a1, a2, a3, a4] (g k).a.toNat < zi [a1, a2, a3, a4] (g k).b.toNat
  ·exact do_less_yes b off len cap k g ra oa rc oc a1 a2 a3 a4 os ek eq ev w _ _ _ hj j4 hn hz hl hb hI h60 h1 h2 hk hB h hlt
  ·exact do_less_no b off len cap k g ra oa rc oc a1 a2 a3 a4 os ek eq ev w _ _ _ hj j4 hn hz hl hb hI h60 h1 h2 hk hB h hlt
 ·exact do_send b off len cap k g ra oa rc oc a1 a2 a3 a4 os ek eq ev w _ _ _ hj j4 hn hz hl hb hI h60 h1 h2 hk hB h
 ·have hv : numB ev = true := by
   have hc := hB
   unfold doB nxK at hc
   rw [if_pos hR, Int.toNat_natCast, h, show evK 7 = 3 from rfl, canB_take] at hc
   simp only [Bool.and_eq_true] at hc
   exact hc.1.2
  exact do_take b off len cap k g ra oa rc oc a1 a2 a3 a4 os ek eq ev w _ _ _ hj j4 hn hz hl hb hI h60 h1 h2 hk hB h hv
 ·exact do_print b off len cap k g ra oa rc oc a1 a2 a3 a4 os ek eq ev w _ _ _ hj j4 hn hz hl hb hI h60 h1 h2 hk hB h
 ·exact do_jump b off len cap k g ra oa rc oc a1 a2 a3 a4 os ek eq ev w _ _ _ hj j4 hn hz hl hb hI h60 h1 h2 hk hB h (jump_to hins (.inl h))
 ·by_cases hz0 : zi [a1, a2, a3, a4] (g k).a.toNat = 0
  ·exact do_zero_yes b off len cap k g ra oa rc oc a1 a2 a3 a4 os ek eq ev w _ _ _ hj j4 hn hz hl hb hI h60 h1 h2 hk hB h (jump_to hins (.inr h)) hz0
  ·exact do_zero_no b off len cap k g ra oa rc oc a1 a2 a3 a4 os ek eq ev w _ _ _ hj j4 hn hz hl hb hI h60 h1 h2 hk hB h hz0
 ·exact do_end b off len cap k g ra oa rc oc a1 a2 a3 a4 os ek eq ev w _ _ _ hj j4 hn hz hl hb hI h60 h1 h2 hk hB h
theorem stOk_mk {n : Nat} {p code : Int} {rs os : List Int} (h1 : rs.length = 4) (h2 : allN rs = true) (h3 : 0 ≤ code ∧ code ≤ 2) (h4 : belB p n = true) (h5 : os.length ≤ 60) (h6 : allN os = true) : stOkB n p rs os code = true := by
 have e : inB code 0 2 = true := by simp [inB]; omega
 have e5 : ((os.length : Int) ≤ 60) := by omega
 simp [stOkB, regsB, outB, h1, h2, e, h4, e5, h6]
theorem allN_set {xs : List Int} {j : Nat} {v : Int} (h : allN xs = true) (hv : numB v = true) : allN (xs.set j v) = true := by
 unfold allN at h ⊢
 rw [List.all_eq_true] at h ⊢
 intro x hx
 rcases List.mem_or_eq_of_mem_set hx with h1 | h1
 ·exact h x h1
 ·rw [h1]; exact hv
def OkS (len : Nat) (S : S4) : Prop := stOkB len S.p S.rs S.os S.c = true
theorem goS_ok {len k : Nat} {rs os : List Int} (hk : k < len) (h1 : rs.length = 4) (h2 : allN rs = true) (h5 : os.length ≤ 60) (h6 : allN os = true) : OkS len (goS len k rs os 0) := by
 unfold OkS goS goP goC
 by_cases h : (len : Int) ≤ (k : Int) + 1
 ·simp only [h, if_true]
  exact stOk_mk h1 h2 (by omega) (by simp [belB]; omega) h5 h6
 ·simp only [h, if_false]
  exact stOk_mk h1 h2 (by omega) (by simp [belB]; omega) h5 h6
theorem doS_ok {g : Nat → I5} {len : Nat} {p : Int} {rs os : List Int} {code ek eq ev : Int} (hB : doB g len p rs os code ek eq ev = true) : OkS len (doS g len p rs os code ek eq ev) := by
 have hR := doB_right hB
 obtain ⟨hp, hs, rfl⟩ := right_parts hR
 obtain ⟨⟨a1, a2, a3, a4, rfl, n1, n2, n3, n4⟩, ⟨k, rfl, hk⟩, h60, hN⟩ := st_parts hs
 have hS : doS g len k [a1, a2, a3, a4] os 0 ek eq ev = doneS len (g k) k [a1, a2, a3, a4] os 0 ev := by
  unfold doS
  rw [if_pos hB, Int.toNat_natCast]
 rw [hS]
 have hins := right_ins hp hk
 obtain ⟨⟨o1, o11⟩, ⟨r0, r3⟩, ⟨m0, m3⟩, ⟨q0, q3⟩⟩ := ins_range hins
 have hA : allN [a1, a2, a3, a4] = true := by simp [allN, n1, n2, n3, n4]
 have hz : ∀ j, j < 4 → numB (zi [a1, a2, a3, a4] j) = true := fun j hj => by
  match j, hj with
  | 0, _ => exact n1
  | 1, _ => exact n2
  | 2, _ => exact n3
  | 3, _ => exact n4
 have hkB : belB (k : Int) len = true := by simp [belB]; omega
 have hc := hB
 unfold doB nxK nxP nxW at hc
 rw [if_pos hR, if_pos hR, if_pos hR, Int.toNat_natCast] at hc
 have v7 : (g k).o = 7 → numB ev = true := fun h => by
  rw [h, show evK 7 = 3 from rfl, canB_take] at hc
  simp only [Bool.and_eq_true] at hc
  exact hc.1.2
 have v8 : (g k).o = 8 → numB ev = true := fun h => by
  rw [h, show evK 8 = 4 from rfl, canB_other (by decide) (by decide)] at hc
  unfold evEqB at hc
  simp only [Bool.and_eq_true, beq_iff_eq] at hc
  rw [hc.2.2]
  exact hz _ (by omega)
 unfold doneS
 split
 ·exact goS_ok hk rfl hA h60 hN
 split
 ·rename_i h7
  exact goS_ok hk (by simp) (allN_set hA (v7 h7)) h60 hN
 split
 ·rename_i h8
  split
  ·exact stOk_mk rfl hA (by simp) hkB h60 hN
  ·refine goS_ok hk rfl hA (by simp; omega) ?_
   unfold allN at hN ⊢
   rw [List.all_append, hN]
   simp [v8 h8]
 split
 ·rename_i h9
  exact stOk_mk rfl hA (by simp) (jump_to hins (.inl h9)) h60 hN
 split
 ·rename_i h10
  split
  ·exact stOk_mk rfl hA (by simp) (jump_to hins (.inr h10)) h60 hN
  ·exact goS_ok hk rfl hA h60 hN
 split
 ·exact stOk_mk rfl hA (by simp) hkB h60 hN
 split
 ·rename_i hv
  exact goS_ok hk (by simp) (allN_set hA hv) h60 hN
 ·exact stOk_mk rfl hA (by simp) hkB h60 hN
def lenV : Value → Nat
 | .slice _ n _ => n
 | _ => 0
def Way (w wr : World) (W0 c len cap : Nat) (a0 : Option Addr) (g n gc : Nat) : Prop :=
 Lst wr w.heap.size (.slice (some ⟨g, 0, none⟩) n gc) n ∧ Cur wr W0 c a0 len cap ∧ w.grownBy wr (some c)
def LstE (w : World) (B : Nat) (v : Value) (n : Nat) : Prop := ∃ xs, w.ownsRow B 91 3 v n xs ∧ xs.all isI = true ∧ v ≠ .slice none 0 0
theorem specStateNew_any (w : World) :
  Calls Tryz.prog 173 #[] w fun e w' => ∃ v, e = .returned v ∧ StOwn w' w.heap.size v 0 [0, 0, 0, 0] [] 0 ∧ Below w.heap.size w w' := by
 have hmk : ∀ w : World, (Instr.makeSlice 37 (.int .i64 4) (.int .i64 4)).run Tryz.prog w = .ok (.slice (some ⟨w.heap.size, 0, none⟩) 4 4) (w.alloc (.cells (madeCells #[.int .i64 0] 4) 3)) := fun w => run_make_int 4 (by omega) w
 have HM : Hid (∀ w : World, OwnI (w.alloc (.cells (madeCells #[.int .i64 0] 4) 3)) w.heap.size (.slice (some ⟨w.heap.size, 0, none⟩) 4 4) [0, 0, 0, 0]) := fun w => made_own w 4 (by omega)
 go_enter Tryz.func173, Tryz.ntmps173
 go_wp2
 have hB : w.heap.size ≤ w.heap.size + 1 := by omega
 have hM := HM.out (w.alloc (oQ2 0 (some ⟨w.heap.size + 1, 0, none⟩) 4 4 none 0 0 0))
 rw [World.size_alloc] at hM
 refine bodyPost_ret (v := stV 0 (some ⟨w.heap.size + 1, 0, none⟩) 4 4 none 0 0 0) (by simp [results, Tryz.results173, go_sem]) rfl ⟨_, rfl, ⟨_, _, rfl, hM.mono hB, World.ownsRow_nil _ _ _ _, fun k _ => by simp [Value.ownBlock]⟩, by go_grown⟩
theorem Tl.widen {w : World} {B C C' N : Nat} {p c : Int} {ra : Option Addr} {rn rc : Nat} {oa : Option Addr} {on oc : Nat} {rs os : List Int} (h : Tl w B C N p c ra rn rc oa on oc rs os) (h1 : C ≤ C') (h2 : C' ≤ w.heap.size) : Tl w B C' N p c ra rn rc oa on oc rs os :=
 ⟨h.lo, Nat.lt_of_lt_of_le h.hi h1, h2, h.box, h.own, fun k hk => Nat.lt_of_lt_of_le (h.up k hk) h1, h.ne⟩
structure Dr (w wr : World) (C W0 c len cap : Nat) (a0 : Option Addr) (Bs : Nat) (out : Value) (k : Nat) (p code : Int) (ra : Option Addr) (rc : Nat) (oa : Option Addr) (oc : Nat) (rs os : List Int) : Prop where
 ls : LstE wr w.heap.size out k
 cu : Cur wr W0 c a0 len cap
 gr : w.grownBy wr (some c)
 tl : Tl wr w.heap.size C Bs p code ra rs.length rc oa os.length oc rs os
 fz : ∀ j, wr.frozen? ⟨Bs, j, none⟩ = false
 oC : ∀ j, out.ownBlock = some j → j < C
 nB : out.ownBlock ≠ some Bs
 ap : ∀ j, hasBlock (stV p ra rs.length rc oa os.length oc code) j → out.ownBlock ≠ some j
 lr : rs.length ≤ 1048576
 lo : os.length ≤ 1048576
def EvB (w : World) (N : Nat) (k q v : Int) : Prop := EvC3 w N k q v ∧ ∀ j, w.frozen? ⟨N, j, none⟩ = false
def newS : S4 := ⟨0, [0, 0, 0, 0], [], 0⟩
def rpStep (g : Nat → I5) (len : Nat) (x : E3) (S : S4) : Option S4 := if doB g len S.p S.rs S.os S.c x.k x.q x.v = true then some (doS g len S.p S.rs S.os S.c x.k x.q x.v) else none
def rp (g : Nat → I5) (len : Nat) (h : Nat → E3) : Nat → Option S4
 | 0 => some newS
 | k + 1 => (rp g len h k).bind (rpStep g len (h k))
theorem rp_none {g : Nat → I5} {len : Nat} {h : Nat → E3} {k : Nat} (hk : rp g len h k = none) : ∀ d, rp g len h (k + d) = none
 | 0 => hk
 | d + 1 => by
  have := rp_none hk d
  show (rp g len h (k + d)).bind _ = none
  rw [this]
  rfl
theorem rp_over {g : Nat → I5} {len : Nat} {h : Nat → E3} {k m : Nat} (hk : rp g len h k = none) (hm : k ≤ m) : rp g len h m = none := by
 have := rp_none hk (m - k)
 rwa [show k + (m - k) = m by omega] at this
theorem rp_yes {g : Nat → I5} {len : Nat} {h : Nat → E3} {k : Nat} {S : S4} (hk : rp g len h k = some S) (hd : doB g len S.p S.rs S.os S.c (h k).k (h k).q (h k).v = true) : rp g len h (k + 1) = some (doS g len S.p S.rs S.os S.c (h k).k (h k).q (h k).v) := by
 show (rp g len h k).bind _ = _
 rw [hk]
 show rpStep g len (h k) S = _
 unfold rpStep
 rw [if_pos hd]
theorem rp_no {g : Nat → I5} {len : Nat} {h : Nat → E3} {k : Nat} {S : S4} (hk : rp g len h k = some S) (hd : doB g len S.p S.rs S.os S.c (h k).k (h k).q (h k).v = false) : rp g len h (k + 1) = none := by
 show (rp g len h k).bind _ = _
 rw [hk]
 show rpStep g len (h k) S = _
 unfold rpStep
 rw [if_neg (by rw [hd]; decide)]
def resS (o : Option S4) : S4 := o.getD ⟨0, [], [], 0⟩
theorem prog_len {g : Nat → I5} {len : Nat} (hp : progOkB g len 4 = true) : 1 ≤ len ∧ len ≤ 30 := by
 simp only [progOkB, Bool.and_eq_true] at hp
 have := hp.2.1
 simp [inB] at this
 omega
theorem newS_ok {g : Nat → I5} {len : Nat} (hp : progOkB g len 4 = true) : OkS len newS := by
 have := prog_len hp
 exact stOk_mk rfl (by simp [newS, allN, numB, inB]) (by simp [newS]) (by simp [belB, newS]; omega) (by simp [newS]) rfl
theorem right_of {g : Nat → I5} {len : Nat} {S : S4} (hp : progOkB g len 4 = true) (hS : OkS len S) (hc : S.c = 0) : rightB g len S.p S.rs S.os S.c = true := by
 unfold OkS at hS
 rw [rightB, hp, hS, hc]
 rfl
theorem doB_code {g : Nat → I5} {len : Nat} {S : S4} {k q v : Int} (hc : S.c ≠ 0) : doB g len S.p S.rs S.os S.c k q v = false := by
 rcases Bool.eq_false_or_eq_true (doB g len S.p S.rs S.os S.c k q v) with h | h
 ·obtain ⟨-, -, h0⟩ := right_parts (doB_right h)
  exact absurd h0 hc
 ·exact h
theorem OkS.len {n : Nat} {S : S4} (h : OkS n S) : S.rs.length = 4 ∧ S.os.length ≤ 60 := by
 obtain ⟨⟨a, b, c, d, e, -⟩, -, h60, -⟩ := st_parts h
 exact ⟨by rw [e]; rfl, h60⟩
end Go.Proofs.YtbleeedbiipfnaaGreatDoor
