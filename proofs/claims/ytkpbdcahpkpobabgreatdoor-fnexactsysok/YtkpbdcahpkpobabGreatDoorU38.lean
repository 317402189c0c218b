/- The walks of the program's rows of events: canPut, putOne, putNext, allPut. -/
import Derived.Test.YtkpbdcahpkpobabGreatDoorU37
import Derived.Test.YtkpbdcahpkpobabGreatDoorU36
import Derived.Test.YtkpbdcahpkpobabGreatDoorU35
import Derived.Lib.QuietBelow
import Derived.BigRegion
import Derived.BigQuiet
namespace Go.Proofs.YtkpbdcahpkpobabGreatDoor
open Go.ChangeShapes Go.WideShapes Go.ChangeAt Go.RowKit Go.Deep

set_option maxRecDepth 100000 in
theorem open_stateCells {H : Type} {enc : TypeId × Value → H} {w : World} {base fuel : Nat} {held : Bool} {c0 c1 c2 c3 : Value} {x : DataW H × List MemPlace}
    (hf' : DataW.trod enc Tryz.prog w base (fun _ => true) held fuel 104 [c0, c1, c2, c3] = some x) :
    ∃ q : St8, (c0 = .int .i64 q.p ∧ c1 = .slice q.ra q.rs.length q.rc ∧ c2 = .slice q.oa q.os.length q.oc ∧ c3 = .int .i64 q.c) ∧ (q.rs.length ≤ maxLen ∧ q.os.length ≤ maxLen) ∧ Sl w q.ra q.rs ∧ Sl w q.oa q.os := by
  obtain ⟨xs, m, -, -, -, hl, hx⟩ := DataW.trod_struct Tryz.underlying104 hf'
  have hl : xs.length = 4 := hl
  have q0 : DataW.trod enc Tryz.prog w base (fun _ => true) held m 3 [c0] = xs[0]? := by simpa [cellsInt] using hx 0 _ rfl
  have q1 : DataW.trod enc Tryz.prog w base (fun _ => true) held m 50 [c1] = xs[1]? := by simpa [cellsInts] using hx 1 _ rfl
  have q2 : DataW.trod enc Tryz.prog w base (fun _ => true) held m 50 [c2] = xs[2]? := by simpa [cellsInts] using hx 2 _ rfl
  have q3 : DataW.trod enc Tryz.prog w base (fun _ => true) held m 3 [c3] = xs[3]? := by simpa [cellsInt] using hx 3 _ rfl
  rw [List.getElem?_eq_getElem (by omega)] at q0 q1 q2 q3
  obtain ⟨z0, e0, -, -⟩ := DataW.trod_int Tryz.underlying3 q0
  obtain ⟨z3, e3, -, -⟩ := DataW.trod_int Tryz.underlying3 q3
  obtain ⟨ra, rc, rs, rfl, hr, h1⟩ := open_intRow q1
  obtain ⟨oa, oc, os, rfl, ho, h2⟩ := open_intRow q2
  simp only [List.cons.injEq, and_true] at e0 e3
  subst e0 e3
  exact ⟨⟨z0, ra, rc, rs, oa, oc, os, z3⟩, ⟨rfl, rfl, rfl, rfl⟩, ⟨hr, ho⟩, h1, h2⟩

theorem open_StateS {H : Type} {enc : TypeId × Value → H} {w : World} {held : Bool} {base : Nat} {a0 : Option Addr} {len cap : Nat} {d : DataW H} {p : List MemPlace}
    (h : DataW.Trod enc Tryz.prog w base (fun _ => true) held 23 (.slice a0 len cap) d p) :
    len ≤ maxLen ∧ ∃ q, AllState w a0 len q ∧ ∀ i, i < len → (q i).rs.length ≤ maxLen ∧ (q i).os.length ≤ maxLen := by
  obtain ⟨fuel, hf⟩ := h
  have inh : Inhabited St8 := ⟨⟨0, none, 0, [], none, 0, [], 0⟩⟩
  rcases Go.Deep.open_slice Tryz.underlying23 hf with ⟨hcs, _⟩ | ⟨a, len', cap', m, n, D, Pl, hcs, _, hl, hm, hmm, _, hx⟩
  · simp [Value.cells] at hcs
    obtain ⟨_, rfl, _⟩ := hcs
    exact ⟨Nat.zero_le _, fun _ => default, ⟨.inl rfl, fun i hi => by omega⟩, fun i hi => by omega⟩
  · simp [Value.cells] at hcs
    obtain ⟨rfl, rfl, rfl⟩ := hcs
    refine ⟨Nat.le_trans hl hm, ?_⟩
    have hle : len ≤ m := by rw [hmm]; split <;> omega
    rw [cellsLawState] at hx
    obtain ⟨b, off, spot⟩ := a
    have hcell : ∀ i, i < len → ∃ q : St8, (w.cell? (Addr.add (Addr.add ⟨b, off, spot⟩ (i * 4)) 0) = some (.int .i64 q.p) ∧ w.cell? (Addr.add (Addr.add ⟨b, off, spot⟩ (i * 4)) 1) = some (.slice q.ra q.rs.length q.rc) ∧ w.cell? (Addr.add (Addr.add ⟨b, off, spot⟩ (i * 4)) 2) = some (.slice q.oa q.os.length q.oc) ∧ w.cell? (Addr.add (Addr.add ⟨b, off, spot⟩ (i * 4)) 3) = some (.int .i64 q.c)) ∧ (q.rs.length ≤ maxLen ∧ q.os.length ≤ maxLen) ∧ Sl w q.ra q.rs ∧ Sl w q.oa q.os := by
      intro i hi
      obtain ⟨cs', h1, h2⟩ := hx i (by omega)
      obtain ⟨_, hlen, hc⟩ := World.cells?_some h1
      match cs', hlen with
      | [c0, c1, c2, c3], _ =>
        obtain ⟨q, ⟨rfl, rfl, rfl, rfl⟩, hb, hs⟩ := open_stateCells h2
        exact ⟨q, ⟨hc 0 (by omega), hc 1 (by omega), hc 2 (by omega), hc 3 (by omega)⟩, hb, hs⟩
    obtain ⟨g, hg⟩ := Go.Deep.choose_lt (α := St8) hcell
    refine ⟨g, ⟨?_, fun i hi => (hg i hi).2.2⟩, fun i hi => (hg i hi).2.1⟩
    by_cases h0 : len = 0
    · exact .inl h0
    have hspot : spot = none := by
      have hx0 := (hg 0 (by omega)).1.1
      simpa [Addr.add] using World.cell?_spot hx0
    subst hspot
    have hI : ∀ i, i < len → w.cell? ⟨b, off + i * 4, none⟩ = some (.int .i64 (g i).p) ∧ w.cell? ⟨b, off + i * 4 + 1, none⟩ = some (.slice (g i).ra (g i).rs.length (g i).rc) ∧ w.cell? ⟨b, off + i * 4 + 2, none⟩ = some (.slice (g i).oa (g i).os.length (g i).oc) ∧ w.cell? ⟨b, off + i * 4 + 3, none⟩ = some (.int .i64 (g i).c) := by
      intro i hi
      obtain ⟨⟨q0, q1, q2, q3⟩, -⟩ := hg i hi
      rw [addr_addO, addr_addO] at q0 q1 q2 q3
      exact ⟨q0, q1, q2, q3⟩
    exact .inr ⟨b, off, rfl, cell_lt (hI 0 (by omega)).1, hI⟩

end Go.Proofs.YtkpbdcahpkpobabGreatDoor

namespace Go.Proofs.YtkpbdcahpkpobabGreatDoor
open Go.ChangeShapes Go.WideShapes Go.ChangeAt Go.RowKit Go.Deep

/-- A system that came in, with where its parts lie. -/
structure SysIn where
  pa : Option Addr
  pn : Nat
  pc : Nat
  pA : Nat → Option Addr
  pL : Nat → Nat
  pC : Nat → Nat
  pH : Nat → Nat → I5
  sa : Option Addr
  sn : Nat
  sc : Nat
  sQ : Nat → St8
  wa : Option Addr
  wn : Nat
  wc : Nat
  wA : Nat → Option Addr
  wL : Nat → Nat
  wC : Nat → Nat
  wH : Nat → Nat → I2
  ha : Option Addr
  hn : Nat
  hc : Nat
  hA : Nat → Option Addr
  hL : Nat → Nat
  hC : Nat → Nat
  hH : Nat → Nat → E3
def SysIn.sS (x : SysIn) : Nat → S4 := fun i => (x.sQ i).s
def SysIn.size (x : SysIn) : Nat := x.pn + sumL x.pL x.pn + (x.sn + sumL (lenS x.sS) x.sn) + (x.wn + sumL x.wL x.wn) + (x.hn + sumL x.hL x.hn)
abbrev sysV (pa : Option Addr) (pn pc : Nat) (sa : Option Addr) (sn sc : Nat) (wa : Option Addr) (wn wc : Nat) (ha : Option Addr) (hn hc : Nat) : Value := .agg #[.slice pa pn pc, .slice sa sn sc, .slice wa wn wc, .slice ha hn hc]

/-- Its parts stand in memory. -/
structure SysIn.Row (W : World) (x : SysIn) : Prop where
  p : RowS W x.pa x.pn fun i => .slice (x.pA i) (x.pL i) (x.pC i)
  s : AllState W x.sa x.sn x.sQ
  w : RowS W x.wa x.wn fun i => .slice (x.wA i) (x.wL i) (x.wC i)
  h : RowS W x.ha x.hn fun i => .slice (x.hA i) (x.hL i) (x.hC i)
structure SysIn.Max (x : SysIn) : Prop where
  p : x.pn ≤ maxLen ∧ ∀ i, i < x.pn → x.pL i ≤ maxLen
  s : x.sn ≤ maxLen ∧ ∀ i, i < x.sn → (x.sQ i).rs.length ≤ maxLen ∧ (x.sQ i).os.length ≤ maxLen
  w : x.wn ≤ maxLen ∧ ∀ i, i < x.wn → x.wL i ≤ maxLen
  h : x.hn ≤ maxLen ∧ ∀ i, i < x.hn → x.hL i ≤ maxLen
structure SysIn.Ok (W : World) (x : SysIn) : Prop where
  p : AllIns W x.pa x.pn x.pA x.pL x.pC x.pH
  s : AllState W x.sa x.sn x.sQ
  w : AllItem W x.wa x.wn x.wA x.wL x.wC x.wH
  h : AllEvent W x.ha x.hn x.hA x.hL x.hC x.hH
theorem SysIn.Ok.row {W : World} {x : SysIn} (h : x.Ok W) : x.Row W := ⟨h.p.row, h.s, h.w.row, h.h.row⟩
theorem SysIn.Row.below {W w : World} {x : SysIn} (h : x.Row W) (hb : Below W.heap.size W w) : x.Row w := ⟨h.p.below hb, h.s.below hb, h.w.below hb, h.h.below hb⟩

set_option maxRecDepth 100000 in
set_option maxHeartbeats 1000000 in
theorem szSys_small (x : SysIn) (w : World) (hr : x.Row w) (h : x.size ≤ 1048576) :
    Calls Tryz.prog 8 #[sysV x.pa x.pn x.pc x.sa x.sn x.sc x.wa x.wn x.wc x.ha x.hn x.hc, .int .i64 1048576] w fun e w' => e = .returned (.int .i64 (1048576 - (x.size : Nat))) ∧ Below w.heap.size w w' := by
  have HR : Hid (x.Row w) := hr
  have hh : x.size = x.pn + sumL x.pL x.pn + (x.sn + sumL (lenS x.sS) x.sn) + (x.wn + sumL x.wL x.wn) + (x.hn + sumL x.hL x.hn) := rfl
  generalize e1 : (1048576 : Int) - x.pn - (sumL x.pL x.pn : Nat) = L1
  generalize e2 : L1 - x.sn - (sumL (lenS x.sS) x.sn : Nat) = L2
  generalize e3 : L2 - x.wn - (sumL x.wL x.wn : Nat) = L3
  have n1 : ¬ L1 < 0 := by omega
  have n2 : ¬ L2 < 0 := by omega
  have n3 : ¬ L3 < 0 := by omega
  have n4 : ¬ L3 - x.hn - (sumL x.hL x.hn : Nat) < 0 := by omega
  have q1 : ((x.pn : Int) + (sumL x.pL x.pn : Nat) ≤ 1048576) := by omega
  have q2 : ((x.sn : Int) + (sumL (lenS x.sS) x.sn : Nat) ≤ L1) ∧ L1 ≤ 1048576 := by omega
  have q3 : ((x.wn : Int) + (sumL x.wL x.wn : Nat) ≤ L2) ∧ L2 ≤ 1048576 := by omega
  have q4 : ((x.hn : Int) + (sumL x.hL x.hn : Nat) ≤ L3) ∧ L3 ≤ 1048576 := by omega
  have e4 : L3 - x.hn - (sumL x.hL x.hn : Nat) = 1048576 - (x.size : Nat) := by omega
  have E1 : Hid ((1048576 : Int) - x.pn - (sumL x.pL x.pn : Nat) = L1) := e1
  have E2 : Hid (L1 - x.sn - (sumL (lenS x.sS) x.sn : Nat) = L2) := e2
  have E3 : Hid (L2 - x.wn - (sumL x.wL x.wn : Nat) = L3) := e3
  have E4 : Hid (L3 - x.hn - (sumL x.hL x.hn : Nat) = 1048576 - (x.size : Nat)) := e4
  have Q : Hid (((x.pn : Int) + (sumL x.pL x.pn : Nat) ≤ 1048576) ∧ (((x.sn : Int) + (sumL (lenS x.sS) x.sn : Nat) ≤ L1) ∧ L1 ≤ 1048576) ∧ (((x.wn : Int) + (sumL x.wL x.wn : Nat) ≤ L2) ∧ L2 ≤ 1048576) ∧ (((x.hn : Int) + (sumL x.hL x.hn : Nat) ≤ L3) ∧ L3 ≤ 1048576)) := ⟨q1, q2, q3, q4⟩
  rw [e4] at n4
  clear hr h hh e1 e2 e3 e4 q1 q2 q3 q4
  go_enter Tryz.func8, Tryz.ntmps8
  go_wp2_with fail
  refine (szInsSS_small _ _ _ _ x.pL _ _ _ (HR.out.p.below (by go_grown)) Q.out.1 (Int.le_refl _)).mono ?_
  rintro e w1 ⟨rfl, rfl⟩
  rw [E1.out]
  go_wp2_with fail
  refine (szStateS_small _ _ _ x.sQ _ _ (HR.out.s.below (by go_grown)) Q.out.2.1.1 Q.out.2.1.2).mono ?_
  rintro e w2 ⟨rfl, b2⟩
  rw [show ((sumL (lenS fun i => (x.sQ i).s) x.sn : Nat) : Int) = (sumL (lenS x.sS) x.sn : Nat) from rfl, E2.out]
  have B2 : Hid (Below w.heap.size w w2) := below_up (by go_grown) b2 (by simp)
  have hw2 := b2.size
  obtain ⟨hc2, hf2⟩ := bcell b2
  clear b2
  go_wp2_with fail
  refine (szItemSS_small _ _ _ _ x.wL _ _ _ (HR.out.w.below B2.out) Q.out.2.2.1.1 Q.out.2.2.1.2).mono ?_
  rintro e w3 ⟨rfl, rfl⟩
  rw [E3.out]
  go_wp2_with fail
  refine (szEventSS_small _ _ _ _ x.hL _ _ _ (HR.out.h.below B2.out) Q.out.2.2.2.1 Q.out.2.2.2.2).mono ?_
  rintro e w4 ⟨rfl, rfl⟩
  rw [E4.out]
  go_wp2
  go_ret
  exact ⟨rfl, B2.out⟩

set_option maxRecDepth 100000 in
set_option maxHeartbeats 1000000 in
theorem szSys_great (x : SysIn) (w : World) (hr : x.Row w) (hm : x.Max) (h : 1048576 < x.size) :
    Calls Tryz.prog 8 #[sysV x.pa x.pn x.pc x.sa x.sn x.sc x.wa x.wn x.wc x.ha x.hn x.hc, .int .i64 1048576] w fun e w' => e = .returned (.int .i64 (-1)) ∧ Below w.heap.size w w' := by
  have HR : Hid (x.Row w) := hr
  have HM : Hid x.Max := hm
  have hh : x.size = x.pn + sumL x.pL x.pn + (x.sn + sumL (lenS x.sS) x.sn) + (x.wn + sumL x.wL x.wn) + (x.hn + sumL x.hL x.hn) := rfl
  have HH : Hid (1048576 < x.pn + sumL x.pL x.pn + (x.sn + sumL (lenS x.sS) x.sn) + (x.wn + sumL x.wL x.wn) + (x.hn + sumL x.hL x.hn)) := hh ▸ h
  clear hr h hh hm
  by_cases q1 : (x.pn : Int) + (sumL x.pL x.pn : Nat) ≤ 1048576
  case neg =>
    have Q1 : Hid (1048576 < (x.pn : Int) + (sumL x.pL x.pn : Nat)) := by show 1048576 < _; omega
    clear q1
    go_enter Tryz.func8, Tryz.ntmps8
    go_wp2_with fail
    refine (szInsSS_great _ _ _ _ x.pL _ _ _ (HR.out.p.below (by go_grown)) Q1.out (by omega) (Int.le_refl _) HM.out.p.1 HM.out.p.2).mono ?_
    rintro e w1 ⟨rfl, rfl⟩
    go_wp2
    go_ret
    exact ⟨rfl, by go_grown⟩
  generalize e1 : (1048576 : Int) - x.pn - (sumL x.pL x.pn : Nat) = L1
  have E1 : Hid ((1048576 : Int) - x.pn - (sumL x.pL x.pn : Nat) = L1) := e1
  have n1 : ¬ L1 < 0 := by omega
  have n1' : 0 ≤ L1 ∧ L1 ≤ 1048576 := by omega
  have N1 : Hid (0 ≤ L1 ∧ L1 ≤ 1048576) := n1'
  have Q1 : Hid ((x.pn : Int) + (sumL x.pL x.pn : Nat) ≤ 1048576) := q1
  by_cases q2 : (x.sn : Int) + (sumL (lenS x.sS) x.sn : Nat) ≤ L1
  case neg =>
    have Q2 : Hid (L1 < (x.sn : Int) + (sumL (lenS x.sS) x.sn : Nat)) := by show L1 < _; omega
    clear q1 q2 e1 n1'
    go_enter Tryz.func8, Tryz.ntmps8
    go_wp2_with fail
    refine (szInsSS_small _ _ _ _ x.pL _ _ _ (HR.out.p.below (by go_grown)) Q1.out (Int.le_refl _)).mono ?_
    rintro e w1 ⟨rfl, rfl⟩
    rw [E1.out]
    go_wp2_with fail
    refine (szStateS_great _ _ _ x.sQ _ _ (HR.out.s.below (by go_grown)) Q2.out N1.out.1 N1.out.2 HM.out.s.1 HM.out.s.2).mono ?_
    rintro e w2 ⟨rfl, b2⟩
    have B2 : Hid (Below w.heap.size w w2) := below_up (by go_grown) b2 (by simp)
    go_wp2
    go_ret
    exact ⟨rfl, B2.out⟩
  generalize e2 : L1 - x.sn - (sumL (lenS x.sS) x.sn : Nat) = L2
  have E2 : Hid (L1 - x.sn - (sumL (lenS x.sS) x.sn : Nat) = L2) := e2
  have n2 : ¬ L2 < 0 := by omega
  have n2' : 0 ≤ L2 ∧ L2 ≤ 1048576 := by omega
  have N2 : Hid (0 ≤ L2 ∧ L2 ≤ 1048576) := n2'
  have Q2 : Hid ((x.sn : Int) + (sumL (lenS x.sS) x.sn : Nat) ≤ L1) := q2
  by_cases q3 : (x.wn : Int) + (sumL x.wL x.wn : Nat) ≤ L2
  case neg =>
    have Q3 : Hid (L2 < (x.wn : Int) + (sumL x.wL x.wn : Nat)) := by show L2 < _; omega
    clear q1 q2 q3 e1 e2 n1' n2'
    go_enter Tryz.func8, Tryz.ntmps8
    go_wp2_with fail
    refine (szInsSS_small _ _ _ _ x.pL _ _ _ (HR.out.p.below (by go_grown)) Q1.out (Int.le_refl _)).mono ?_
    rintro e w1 ⟨rfl, rfl⟩
    rw [E1.out]
    go_wp2_with fail
    refine (szStateS_small _ _ _ x.sQ _ _ (HR.out.s.below (by go_grown)) Q2.out N1.out.2).mono ?_
    rintro e w2 ⟨rfl, b2⟩
    rw [show ((sumL (lenS fun i => (x.sQ i).s) x.sn : Nat) : Int) = (sumL (lenS x.sS) x.sn : Nat) from rfl, E2.out]
    have B2 : Hid (Below w.heap.size w w2) := below_up (by go_grown) b2 (by simp)
    have hw2 := b2.size
    obtain ⟨hc2, hf2⟩ := bcell b2
    clear b2
    go_wp2_with fail
    refine (szItemSS_great _ _ _ _ x.wL _ _ _ (HR.out.w.below B2.out) Q3.out N2.out.1 N2.out.2 HM.out.w.1 HM.out.w.2).mono ?_
    rintro e w3 ⟨rfl, rfl⟩
    go_wp2
    go_ret
    exact ⟨rfl, B2.out⟩
  generalize e3 : L2 - x.wn - (sumL x.wL x.wn : Nat) = L3
  have E3 : Hid (L2 - x.wn - (sumL x.wL x.wn : Nat) = L3) := e3
  have n3 : ¬ L3 < 0 := by omega
  have n3' : 0 ≤ L3 ∧ L3 ≤ 1048576 := by omega
  have N3 : Hid (0 ≤ L3 ∧ L3 ≤ 1048576) := n3'
  have Q3 : Hid ((x.wn : Int) + (sumL x.wL x.wn : Nat) ≤ L2) := q3
  have Q4 : Hid (L3 < (x.hn : Int) + (sumL x.hL x.hn : Nat)) := by
    show L3 < _
    have := HH.out
    omega
  clear q1 q2 q3 e1 e2 e3 n1' n2' n3' HH
  go_enter Tryz.func8, Tryz.ntmps8
  go_wp2_with fail
  refine (szInsSS_small _ _ _ _ x.pL _ _ _ (HR.out.p.below (by go_grown)) Q1.out (Int.le_refl _)).mono ?_
  rintro e w1 ⟨rfl, rfl⟩
  rw [E1.out]
  go_wp2_with fail
  refine (szStateS_small _ _ _ x.sQ _ _ (HR.out.s.below (by go_grown)) Q2.out N1.out.2).mono ?_
  rintro e w2 ⟨rfl, b2⟩
  rw [show ((sumL (lenS fun i => (x.sQ i).s) x.sn : Nat) : Int) = (sumL (lenS x.sS) x.sn : Nat) from rfl, E2.out]
  have B2 : Hid (Below w.heap.size w w2) := below_up (by go_grown) b2 (by simp)
  have hw2 := b2.size
  obtain ⟨hc2, hf2⟩ := bcell b2
  clear b2
  go_wp2_with fail
  refine (szItemSS_small _ _ _ _ x.wL _ _ _ (HR.out.w.below B2.out) Q3.out N2.out.2).mono ?_
  rintro e w3 ⟨rfl, rfl⟩
  rw [E3.out]
  go_wp2_with fail
  refine (szEventSS_great _ _ _ _ x.hL _ _ _ (HR.out.h.below B2.out) Q4.out N3.out.1 N3.out.2 HM.out.h.1 HM.out.h.2).mono ?_
  rintro e w4 ⟨rfl, rfl⟩
  go_wp2
  go_ret
  exact ⟨rfl, B2.out⟩

/-- A copy of a system: four lists, each behind the last. -/
structure OutSys (w : World) (lo hi : Nat) (x : SysIn) (v : Value) (D1 D2 D3 D4 : Nat) (b1 : Nat → Nat) (vs : Nat → Value) (b3 b4 : Nat → Nat) (h1 h2 h3 : Nat) : Prop where
  val : v = sysV (some ⟨D1, 0, none⟩) x.pn x.pn (some ⟨D2, 0, none⟩) x.sn x.sn (some ⟨D3, 0, none⟩) x.wn x.wn (some ⟨D4, 0, none⟩) x.hn x.hn
  pp : OutIns w D1 h1 x.pn x.pL b1 x.pH
  ss : OutState w D2 h2 x.sn x.sS vs
  ww : OutItem w D3 h3 x.wn x.wL b3 x.wH
  hh : OutEvent w D4 hi x.hn x.hL b4 x.hH
  lo : lo ≤ D1
  o1 : h1 ≤ D2
  o2 : h2 ≤ D3
  o3 : h3 ≤ D4
def IsSys (w : World) (lo hi : Nat) (x : SysIn) (v : Value) : Prop := ∃ D1 D2 D3 D4 b1 vs b3 b4 h1 h2 h3, OutSys w lo hi x v D1 D2 D3 D4 b1 vs b3 b4 h1 h2 h3
theorem OutSys.hi {w : World} {lo hi : Nat} {x : SysIn} {v : Value} {D1 D2 D3 D4 : Nat} {b1 : Nat → Nat} {vs : Nat → Value} {b3 b4 : Nat → Nat} {h1 h2 h3 : Nat} (o : OutSys w lo hi x v D1 D2 D3 D4 b1 vs b3 b4 h1 h2 h3) : h1 ≤ hi ∧ h2 ≤ hi ∧ h3 ≤ hi ∧ hi ≤ w.heap.size ∧ lo < hi := by
  have := o.pp.lt
  have := o.ss.lt
  have := o.ww.lt
  have := o.hh.lt
  have := o.lo
  have := o.o1
  have := o.o2
  have := o.o3
  have := o.hh.le
  omega
theorem IsSys.below {w w' : World} {lo hi : Nat} {x : SysIn} {v : Value} {B : Nat} (o : IsSys w lo hi x v) (hb : Below B w w') (hB : hi ≤ B) : IsSys w' lo hi x v := by
  obtain ⟨D1, D2, D3, D4, b1, vs, b3, b4, h1, h2, h3, o⟩ := o
  obtain ⟨q1, q2, q3, -, -⟩ := o.hi
  exact ⟨D1, D2, D3, D4, b1, vs, b3, b4, h1, h2, h3, o.val, o.pp.below hb (by omega), o.ss.below hb (by omega), o.ww.below hb (by omega), o.hh.below hb hB, o.lo, o.o1, o.o2, o.o3⟩

end Go.Proofs.YtkpbdcahpkpobabGreatDoor

namespace Go.Proofs.YtkpbdcahpkpobabGreatDoor
open Go.RowKit Go.Deep

theorem valL_length (eh : Nat → E3) (kd pr : Int) (n : Nat) : (valL eh kd pr n).length = (plN eh kd pr n).length := by simp [valL]
theorem plI_length (eh : Nat → E3) (kd pr : Int) (n : Nat) : (plI eh kd pr n).length = (plN eh kd pr n).length := by simp [plI]
theorem zi_append {xs ys : List Int} {i : Nat} (h : i < xs.length) : zi (xs ++ ys) i = zi xs i := by
  unfold zi
  rw [List.getD_eq_getElem?_getD, List.getD_eq_getElem?_getD, List.getElem?_append_left h]
theorem zi_end (xs : List Int) (y : Int) : zi (xs ++ [y]) xs.length = y := by
  unfold zi
  rw [List.getD_eq_getElem?_getD, List.getElem?_append_right (Nat.le_refl _)]
  simp
def nthV (eh : Nat → E3) (kd pr : Int) (len : Nat) (n : Int) : Int := if belB n ((plI eh kd pr len).length : Nat) = true then zi (plI eh kd pr len) n.toNat else -1

theorem plI_at (eh : Nat → E3) (kd pr : Int) (k : Nat) (hh : hitB eh kd pr k = true) : ∀ d, zi (plI eh kd pr (k + 1 + d)) (plI eh kd pr k).length = k ∧ (plI eh kd pr k).length < (plI eh kd pr (k + 1 + d)).length
  | 0 => by
    rw [Nat.add_zero, plI_hit hh]
    exact ⟨zi_end _ _, by simp⟩
  | d + 1 => by
    obtain ⟨h1, h2⟩ := plI_at eh kd pr k hh d
    rw [← Nat.add_assoc]
    rcases Bool.eq_false_or_eq_true (hitB eh kd pr (k + 1 + d)) with h | h
    · rw [plI_hit h, zi_append h2]
      exact ⟨h1, by simp; omega⟩
    · rw [plI_not h]
      exact ⟨h1, h2⟩

theorem nthV_hit {eh : Nat → E3} {kd pr : Int} {k len : Nat} {n : Int} (hk : k < len) (hh : hitB eh kd pr k = true) (hn : n = (plI eh kd pr k).length) : nthV eh kd pr len n = k := by
  obtain ⟨d, rfl⟩ : ∃ d, len = k + 1 + d := ⟨len - k - 1, by omega⟩
  obtain ⟨h1, h2⟩ := plI_at eh kd pr k hh d
  subst hn
  unfold nthV
  rw [if_pos (by simp [belB]; omega), Int.toNat_natCast, h1]

/-- What stands at number j among the places is a place. -/
theorem plN_mem (eh : Nat → E3) (kd pr : Int) : ∀ n, ∀ q ∈ plN eh kd pr n, q < n
  | 0, q, h => by simp [plN] at h
  | n + 1, q, h => by
    unfold plN at h
    split at h
    · simp at h
      rcases h with h | h
      · have := plN_mem eh kd pr n q h
        omega
      · omega
    · have := plN_mem eh kd pr n q h
      omega
theorem plI_place (eh : Nat → E3) (kd pr : Int) (len j : Nat) (hj : j < (plI eh kd pr len).length) : ∃ q : Nat, zi (plI eh kd pr len) j = (q : Int) ∧ q < len ∧ (plN eh kd pr len)[j]? = some q := by
  have hj' : j < (plN eh kd pr len).length := by rw [plI_length] at hj; exact hj
  refine ⟨(plN eh kd pr len)[j], ?_, plN_mem eh kd pr len _ (List.getElem_mem hj'), List.getElem?_eq_getElem hj'⟩
  unfold zi plI
  rw [List.getD_eq_getElem?_getD, List.getElem?_map, List.getElem?_eq_getElem hj']
  rfl

set_option maxRecDepth 100000 in
set_option maxHeartbeats 1000000 in
theorem specCount_any (b off len cap : Nat) (eh : Nat → E3) (kd pr : Int) (w : World) (hlen : len ≤ 1048576) (hb : b < w.heap.size) (hc : EvAt w b off len eh) :
    Calls Tryz.prog 81 #[.slice (some ⟨b, off, none⟩) len cap, .int .i64 kd, .int .i64 pr] w fun e w' => e = .returned (.int .i64 ((plN eh kd pr len).length : Nat)) ∧ Below w.heap.size w w' := by
  have HC : Hid (EvAt w b off len eh) := hc
  clear hc
  go_enter Tryz.func81, Tryz.ntmps81
  go_wp2_with fail
  refine (specValues_any b off len cap eh kd pr w hlen hb HC.out).mono ?_
  rintro e w1 ⟨v, rfl, o1, b1⟩
  obtain ⟨a0, cp, rfl, -⟩ := o1.form
  rw [valL_length]
  go_wp2
  go_ret
  exact ⟨rfl, b1⟩

theorem append_far {ops : Array Oper} {rest : List Oper} {op : Oper} {act : Act} {Q : Exit → Act → World → Prop} (w : World) (hgd : op.guard = none) (s x : Operand)
    (ho : op.op = .call { callee := .builtin .append, args := #[s, x], argTypes := #[50, 50] })
    (B : Nat) (v : Value) (xs : List Int) (hs : act.eval s = v) (hv : OwnI w B v xs) (y : Int) (hx : act.eval x = .slice (some ⟨w.heap.size, 0, none⟩) 1 1) (hn : xs.length ≤ 1048576) (hB : B ≤ w.heap.size)
    (h : ∀ v' w', OwnI w' B v' (xs ++ [y]) → w.grownBy w' v.ownBlock → (∀ j, v'.ownBlock = some j → v.ownBlock = some j ∨ w.heap.size ≤ j) → wpList Tryz.prog ops Q rest (act.put op.dst v') w') :
    wpList Tryz.prog ops Q (op :: rest) act (w.alloc (.cells #[.int .i64 y] 3)) := by
  have hb : Below w.heap.size w (w.alloc (.cells #[.int .i64 y] 3)) := (Below.refl _ _).alloc (Nat.le_refl _) _
  refine wpList_append_ints _ hgd s x ho B 1 v (some ⟨w.heap.size, 0, none⟩) xs [y] hs hx (hv.below hb) (.inr ⟨w.heap.size, 0, rfl, by simp, fun i hi => ?_⟩) (by simp; omega) (by simp; omega) ?_
  · have : i = 0 := by simp at hi; omega
    subst this
    exact new_cell _ _ _ 0 rfl
  · intro v' w' o g a
    refine h v' w' o ⟨g.os, g.tape, g.output, Nat.le_trans hb.size g.size, fun k hk hne => (g.block k (Nat.lt_of_lt_of_le hk hb.size) hne).trans (hb.block k hk)⟩ fun j hj => ?_
    rcases a with a | a
    · exact .inl (a.symm.trans hj)
    · rw [hj] at a
      simp only [Option.some.injEq] at a
      right
      rw [a]
      simp

/-- What is appended to stands apart from what was made between w and w1. -/
def Away (w w1 wr : World) (o : Value) : Prop := (∀ j, o.ownBlock = some j → j = w.heap.size ∨ w1.heap.size ≤ j) ∧ (∀ j, w.heap.size < j → j < w1.heap.size → wr.heap[j]? = w1.heap[j]?) ∧ w1.heap.size ≤ wr.heap.size
theorem Away.step {w w1 wr w4 : World} {o v' : Value} (h : Away w w1 wr o) (g : wr.grownBy w4 o.ownBlock) (a : ∀ j, v'.ownBlock = some j → o.ownBlock = some j ∨ wr.heap.size ≤ j) : Away w w1 w4 v' := by
  obtain ⟨h1, h2, h3⟩ := h
  refine ⟨fun j hj => ?_, fun j p1 p2 => ?_, Nat.le_trans h3 g.size⟩
  · rcases a j hj with a | a
    · exact h1 j a
    · right; omega
  · rw [g.block j (by omega) (fun e => ?_), h2 j p1 p2]
    rcases h1 j e.symm with e | e <;> omega
theorem Away.sl {w w1 wr : World} {o : Value} (h : Away w w1 wr o) {B cp : Nat} {a0 : Option Addr} {xs : List Int} (hB : w.heap.size < B) (hO : OwnI w1 B (.slice a0 xs.length cp) xs) : Sl wr a0 xs := by
  by_cases hx : 0 < xs.length
  · obtain ⟨g, cap, e, hg, hl⟩ := hO.block hx
    simp only [Value.slice.injEq] at e
    obtain ⟨rfl, -, rfl⟩ := e
    refine .inr ⟨g, 0, rfl, Nat.lt_of_lt_of_le hl h.2.2, fun i hi => ?_⟩
    rw [Nat.zero_add, World.cell?_of_block (h.2.1 g (by omega) hl)]
    exact hO.cell hi
  · exact .inl (List.eq_nil_of_length_eq_zero (by omega))

/-- The numbers of the first j of these events. -/
def valT (eh : Nat → E3) (kd pr : Int) (len j : Nat) : List Int := ((plN eh kd pr len).take j).map fun i => (eh i).v
theorem valT_le (eh : Nat → E3) (kd pr : Int) (len j : Nat) : (valT eh kd pr len j).length ≤ j := by simp [valT]; omega
theorem valT_all (eh : Nat → E3) (kd pr : Int) (len : Nat) : valT eh kd pr len (plI eh kd pr len).length = valL eh kd pr len := by
  unfold valT valL
  rw [plI_length, List.take_length]
theorem valT_next {eh : Nat → E3} {kd pr : Int} {len j q : Nat} (h : (plN eh kd pr len)[j]? = some q) : valT eh kd pr len (j + 1) = valT eh kd pr len j ++ [(eh q).v] := by
  unfold valT
  rw [List.take_add_one, h, List.map_append]
  rfl

set_option maxRecDepth 100000 in
set_option maxHeartbeats 1000000 in
theorem implValues_any (b off len cap : Nat) (eh : Nat → E3) (kd pr : Int) (w : World) (hlen : len ≤ 1048576) (hb : b < w.heap.size) (hc : EvAt w b off len eh) :
    Calls Tryz.prog 135 #[.slice (some ⟨b, off, none⟩) len cap, .int .i64 kd, .int .i64 pr] w fun e w' => ∃ v, e = .returned v ∧ OwnI w' w.heap.size v (valL eh kd pr len) ∧ Below w.heap.size w w' := by
  have hl' : (len : Int) ≤ 1048576 := by omega
  have HC : Hid (EvAt w b off len eh) := hc
  clear hc
  have hpl := plI_le eh kd pr len
  go_enter Tryz.func135, Tryz.ntmps135
  go_wp2_with fail
  refine (placesOf_any b off len cap eh kd pr _ hlen (by simp; omega) (HC.out.below (by go_grown) hb)).mono ?_
  rintro e w1 ⟨v, rfl, o1, b1⟩
  have B1 : Hid (Below w.heap.size w w1) := below_up (by go_grown) b1 (by simp)
  obtain ⟨a0, cp, rfl, -⟩ := o1.form
  have HS : Hid (OwnI w1 (w.heap.size + 1) (.slice a0 (plI eh kd pr len).length cp) (plI eh kd pr len)) := by
    rw [World.size_alloc] at o1
    exact o1
  clear o1
  go_wp2_with fail
  have HO : Hid (OwnI w1 w.heap.size (.slice (some ⟨w.heap.size, 0, none⟩) 0 0) []) := (own_empty w).below b1
  clear b1
  go_loopw [7, 16] (fun o i wr => ∃ k : Nat, k ≤ (plI eh kd pr len).length ∧ i = .int .i64 k ∧ Hid (OwnI wr w.heap.size o (valT eh kd pr len k)) ∧ Below w.heap.size w wr ∧ Hid (Away w w1 wr o)) (fun _ i _ => (plI eh kd pr len).length - (intOf i).toNat)
  case atStart => exact ⟨0, Nat.zero_le _, rfl, HO.out, B1.out, ⟨fun j hj => by simp [Value.ownBlock] at hj; exact .inl hj.symm, fun _ _ _ => rfl, Nat.le_refl _⟩⟩
  case round =>
    clear HO B1
    obtain ⟨k, hk, rfl, HO, hbw, HA⟩ := hrel
    have hs := hbw.size
    by_cases hlt : k < (plI eh kd pr len).length
    · have hlt' : (k : Int) < ((plI eh kd pr len).length : Int) := by omega
      obtain ⟨b0, o0, e0, hb0, hcell⟩ := (HA.out.sl (Nat.lt_succ_self _) HS.out).at hlt
      obtain ⟨q, hq, hql, hqe⟩ := plI_place eh kd pr len k hlt
      have hql' : (q : Int) < (len : Int) := by omega
      rw [hq] at hcell
      subst e0
      have hvl := valT_le eh kd pr len k
      have HH : Hid (valT eh kd pr len (k + 1) = valT eh kd pr len k ++ [(eh q).v]) := valT_next hqe
      obtain ⟨c0, c1, c2⟩ := HC.out.below hbw hb q hql
      clear hq hqe
      go_wp2_with (at_builtin; refine append_far wr rfl _ _ rfl w.heap.size u7 (valT eh kd pr len k) rfl HO.out (eh q).v rfl (by omega) hs ?_; intro v' w4 o4 g4 a4; have A4 : Hid (Away w w1 w4 v') := HA.out.step g4 a4; have b4 : Below w.heap.size wr w4 := ⟨g4.os, g4.tape, g4.output, g4.size, fun j hj => g4.block j (Nat.lt_of_lt_of_le hj hs) (fun e => Nat.not_le_of_lt hj (HO.out.lt j e.symm).1)⟩; have H4 : Hid (OwnI w4 w.heap.size v' (valT eh kd pr len (k + 1))) := o4.to HH.out; clear o4 g4 a4)
      go_roundw
      case rel => exact ⟨k + 1, by omega, by go_num, H4.out, hbw.trans b4, A4.out⟩
      case measure => simp [intOf]; omega
    · have hkl : k = (plI eh kd pr len).length := by omega
      have H4 : Hid (OwnI wr w.heap.size u7 (valL eh kd pr len)) := by
        have := HO.out
        rw [hkl, valT_all] at this
        exact this
      clear HO hkl
      go_wp2
      go_ret
      exact ⟨_, rfl, H4.out, hbw⟩

end Go.Proofs.YtkpbdcahpkpobabGreatDoor

namespace Go.Proofs.YtkpbdcahpkpobabGreatDoor
open Go.ChangeShapes Go.WideShapes Go.ChangeAt Go.RowKit Go.Deep Go.Sort

noncomputable def qB (p : Prop) : Bool := @decide p (Classical.propDecidable _)
theorem qB_true {p : Prop} (h : p) : qB p = true := by simp [qB, h]
theorem qB_false {p : Prop} (h : ¬ p) : qB p = false := by simp [qB, h]
theorem qB_iff {p : Prop} : qB p = true ↔ p := by simp [qB]

/-- The events of a history, wherever they lie. -/
structure HisE (w : World) (ha : Option Addr) (hA : Nat → Option Addr) (hC : Nat → Nat) (y : Hs) : Prop where
  row : RowS w ha y.n fun i => .slice (hA i) (y.l i) (hC i)
  ev : ∀ i, i < y.n → EvL w (hA i) (y.l i) (y.e i)
theorem HisE.below {w w' : World} {ha : Option Addr} {hA : Nat → Option Addr} {hC : Nat → Nat} {y : Hs} (h : HisE w ha hA hC y) (hb : Below w.heap.size w w') : HisE w' ha hA hC y := ⟨h.row.below hb, fun i hi => (h.ev i hi).below hb⟩
/-- What is put so far stands in block X behind the system. -/
structure HisP (w : World) (X : Nat) (ha : Option Addr) (hc : Nat) (y : Hs) (d : Nat → Nat) : Prop where
  c4 : w.cell? ⟨X, 4, none⟩ = some (.slice ha y.n hc)
  pt : ∀ i, i < 4 → w.cell? ⟨X, 5 + i, none⟩ = some (.int .i64 (d i))
  op : ∀ a b, a < 4 → b < 4 → w.cell? ⟨X, 9 + a * 4 + b, none⟩ = some (.int .i64 (y.opn d a b))
  fr : ∀ j, w.frozen? ⟨X, j, none⟩ = false
theorem HisP.lt {w : World} {X : Nat} {ha : Option Addr} {hc : Nat} {y : Hs} {d : Nat → Nat} (h : HisP w X ha hc y d) : X < w.heap.size := World.block_lt_of_cell? w _ h.c4
theorem HisP.blk {w w' : World} {X : Nat} {ha : Option Addr} {hc : Nat} {y : Hs} {d : Nat → Nat} (h : HisP w X ha hc y d) (hb : w'.heap[X]? = w.heap[X]?) : HisP w' X ha hc y d :=
  ⟨(World.cell?_of_block hb).trans h.c4, fun i hi => (World.cell?_of_block hb).trans (h.pt i hi), fun a b h1 h2 => (World.cell?_of_block hb).trans (h.op a b h1 h2), fun j => (World.frozen?_of_block hb).trans (h.fr j)⟩
theorem HisP.below {w w' : World} {X : Nat} {ha : Option Addr} {hc : Nat} {y : Hs} {d : Nat → Nat} (h : HisP w X ha hc y d) (hb : Below w.heap.size w w') : HisP w' X ha hc y d := h.blk (hb.block X h.lt)

theorem cell_allocs {w : World} {a : Addr} {v : Value} (h : w.cell? a = some v) (o : Obj) : (w.alloc o).cell? a = some v := (World.cell?_alloc_lt w o a (World.block_lt_of_cell? w _ h)).trans h

set_option maxRecDepth 100000 in
set_option maxHeartbeats 1000000 in
theorem canPut_any (X : Nat) (ha : Option Addr) (hc : Nat) (hA : Nat → Option Addr) (hC : Nat → Nat) (y : Hs) (d : Nat → Nat) (k : Nat) (w : World) (hE : HisE w ha hA hC y) (hP : HisP w X ha hc y d) (h4 : y.n ≤ 4) (hk : k < y.n) (hp : y.Peers) (hl : ∀ i, i < y.n → y.l i ≤ 200) (hd : ∀ i, d i ≤ y.l i) :
    Calls Tryz.prog 136 #[.pointer (some ⟨X, 4, none⟩), .int .i64 k] w fun e w' => e = .returned (.bool (qB (y.Can d k))) ∧ Below w.heap.size w w' := by
  have HE : Hid (HisE w ha hA hC y) := hE
  have HP : Hid (HisP w X ha hc y d) := hP
  have HCan : Hid (y.Can d k ↔ d k < y.l k ∧ ((y.e k (d k)).k = 3 → 0 < y.opn d (y.e k (d k)).q.toNat k)) := Hs.can_iff hp hk
  have hk4 : (k : Int) < 4 := by omega
  have hk' : (k : Int) < (y.n : Int) := by omega
  have hl200 : (y.l k : Int) ≤ 200 := by have := hl k hk; omega
  have hdk : (d k : Int) ≤ (y.l k : Int) := by have := hd k; omega
  obtain ⟨bh, oh, eh, ch⟩ := hE.row.at hk
  obtain ⟨c4, pt, op, -⟩ := hP
  have pk := pt k (by omega)
  rw [eh] at c4
  clear hE
  by_cases he : d k = y.l k
  · have HN : Hid (qB (y.Can d k) = false) := qB_false fun h => by have := h.1; omega
    rw [he] at pk
    clear op pt
    go_enter Tryz.func136, Tryz.ntmps136
    go_wp2_with fail
    go_quiet (fail)
    go_wp2
    go_ret
    rw [HN.out]
    exact ⟨rfl, below_drewN (Below.refl _ _) _⟩
  · have hlt : d k < y.l k := by have := hd k; omega
    have hlt' : (d k : Int) < (y.l k : Int) := by omega
    have hne : ((d k : Int) == (y.l k : Int)) = false := by
      have : ¬ (d k : Int) = (y.l k : Int) := by omega
      simpa using this
    obtain ⟨b, off, ea, zb, e0, e1, e2⟩ := (HE.out.ev k hk).at hlt
    rw [ea] at ch
    have n1 : w.heap.size ≠ X := by have := HP.out.lt; omega
    have n2 : w.heap.size ≠ b := by omega
    have n3 : w.heap.size ≠ bh := by have := World.block_lt_of_cell? w _ ch; simp at this; omega
    clear zb
    have hq := hp k hk (d k) hlt
    obtain ⟨q, hqe⟩ : ∃ q : Nat, (y.e k (d k)).q = (q : Int) := ⟨(y.e k (d k)).q.toNat, by omega⟩
    have hq4 : (q : Int) < 4 := by omega
    have oq := op q k (by omega) (by omega)
    rw [hqe] at e1
    rcases Bool.eq_false_or_eq_true ((y.e k (d k)).k != 3) with t | t
    · have HN : Hid (qB (y.Can d k) = true) := qB_true (HCan.out.2 ⟨hlt, fun h => by rw [h] at t; cases t⟩)
      clear op pt hq hqe oq HCan
      generalize (y.e k (d k)).k = kd at *
      generalize (y.e k (d k)).v = vd at *
      go_enter Tryz.func136, Tryz.ntmps136
      go_wp2_with fail
      go_quiet (fail)
      go_wp2_with fail
      have BD : Hid (Below w.heap.size w (w.drewN nq)) := below_drewN (Below.refl _ _) _
      replace n1 : (w.drewN nq).heap.size ≠ X := n1
      replace n2 : (w.drewN nq).heap.size ≠ b := n2
      replace n3 : (w.drewN nq).heap.size ≠ bh := n3
      replace c4 : (w.drewN nq).cell? ⟨X, 4, none⟩ = _ := c4
      replace pk : (w.drewN nq).cell? ⟨X, 5 + k, none⟩ = _ := pk
      replace ch : (w.drewN nq).cell? ⟨bh, oh + k, none⟩ = _ := ch
      replace e0 : (w.drewN nq).cell? ⟨b, off + d k * 3, none⟩ = _ := e0
      replace e1 : (w.drewN nq).cell? ⟨b, off + d k * 3 + 1, none⟩ = _ := e1
      replace e2 : (w.drewN nq).cell? ⟨b, off + d k * 3 + 2, none⟩ = _ := e2
      generalize w.drewN nq = wd at *
      have c4' := cell_allocs c4
      have pk' := cell_allocs pk
      have ch' := cell_allocs ch
      have e0' := cell_allocs e0
      have e1' := cell_allocs e1
      have e2' := cell_allocs e2
      go_region
      all_goals
        go_wp2_with fail
        go_quiet (fail)
        go_wp2
        go_ret
        rw [HN.out]
        exact ⟨rfl, below_drewN (BD.out.trans ((below_alloc _ _).mono BD.out.size)).drew _⟩
    · have hk3 : (y.e k (d k)).k = 3 := by simpa using t
      have HN : Hid (qB (y.Can d k) = decide (0 < y.opn d q k)) := by
        show qB (y.Can d k) = decide (0 < y.opn d q k)
        have e : (y.e k (d k)).q.toNat = q := by omega
        by_cases h0 : 0 < y.opn d q k
        · rw [decide_eq_true h0]
          exact qB_true (HCan.out.2 ⟨hlt, fun _ => by rw [e]; exact h0⟩)
        · rw [decide_eq_false h0]
          refine qB_false fun h => h0 ?_
          have := (HCan.out.1 h).2 hk3
          rwa [e] at this
      rw [hk3] at e0
      clear op pt hq hqe HCan t hk3
      generalize (y.e k (d k)).v = vd at *
      generalize y.opn d q k = on at *
      go_enter Tryz.func136, Tryz.ntmps136
      go_wp2_with fail
      go_quiet (fail)
      go_wp2_with fail
      have BD : Hid (Below w.heap.size w (w.drewN nq)) := below_drewN (Below.refl _ _) _
      replace n1 : (w.drewN nq).heap.size ≠ X := n1
      replace n2 : (w.drewN nq).heap.size ≠ b := n2
      replace n3 : (w.drewN nq).heap.size ≠ bh := n3
      replace c4 : (w.drewN nq).cell? ⟨X, 4, none⟩ = _ := c4
      replace pk : (w.drewN nq).cell? ⟨X, 5 + k, none⟩ = _ := pk
      replace ch : (w.drewN nq).cell? ⟨bh, oh + k, none⟩ = _ := ch
      replace e0 : (w.drewN nq).cell? ⟨b, off + d k * 3, none⟩ = _ := e0
      replace e1 : (w.drewN nq).cell? ⟨b, off + d k * 3 + 1, none⟩ = _ := e1
      replace e2 : (w.drewN nq).cell? ⟨b, off + d k * 3 + 2, none⟩ = _ := e2
      replace oq : (w.drewN nq).cell? ⟨X, 9 + q * 4 + k, none⟩ = _ := oq
      generalize w.drewN nq = wd at *
      have c4' := cell_allocs c4
      have pk' := cell_allocs pk
      have ch' := cell_allocs ch
      have e0' := cell_allocs e0
      have e1' := cell_allocs e1
      have e2' := cell_allocs e2
      have oq' := cell_allocs oq
      go_region
      all_goals
        go_wp2_with fail
        go_quiet (fail)
        go_wp2
        go_ret
        rw [HN.out]
        exact ⟨rfl, below_drewN (BD.out.trans ((below_alloc _ _).mono BD.out.size)).drew _⟩

/-- What putOne leaves: one event more of k is put. -/
theorem HisP.put {w w' : World} {X : Nat} {ha : Option Addr} {hc : Nat} {y : Hs} {d : Nat → Nat} {k : Nat} (h : HisP w X ha hc y d) (c4 : w'.cell? ⟨X, 4, none⟩ = w.cell? ⟨X, 4, none⟩) (pt : ∀ i, i < 4 → w'.cell? ⟨X, 5 + i, none⟩ = if i = k then some (.int .i64 (d k + 1 : Nat)) else w.cell? ⟨X, 5 + i, none⟩)
    (op : ∀ a b, a < 4 → b < 4 → w'.cell? ⟨X, 9 + a * 4 + b, none⟩ = some (.int .i64 (y.opn (up d k) a b))) (fr : ∀ j, w'.frozen? ⟨X, j, none⟩ = false) : HisP w' X ha hc y (up d k) := by
  refine ⟨c4.trans h.c4, fun i hi => ?_, op, fr⟩
  rw [pt i hi]
  by_cases e : i = k
  · subst e
    rw [if_pos rfl, up_same]
  · rw [if_neg e, up_other e]
    exact h.pt i hi

end Go.Proofs.YtkpbdcahpkpobabGreatDoor
