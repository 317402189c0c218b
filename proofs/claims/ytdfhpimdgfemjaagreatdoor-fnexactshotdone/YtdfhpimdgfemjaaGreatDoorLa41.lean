/- The model's LiveOk, walked. -/
import Derived.Test.YtdfhpimdgfemjaaGreatDoorLa40
import Derived.Test.YtdfhpimdgfemjaaGreatDoorLa27
import Derived.Deep.RegionWith
import Derived.Test.YtdfhpimdgfemjaaGreatDoorLa35
import Derived.Laws.LoneSync
import Derived.Lib.QuietBelow
namespace Go.Proofs.YtdfhpimdgfemjaaGreatDoor
open Go.ChangeShapes Go.WideShapes Go.ChangeAt Go.RowKit Go.Deep Go.Sort

theorem IsSys.g2 {w : World} {lo hi : Nat} {x : SysIn} {v : Value} (o : IsSys w lo hi x v) : ∃ x' : SysIn, v = x'.v ∧ SysG w x' ∧ x'.y = x.y ∧ ∀ i, i < x'.hn → x'.hL i ≤ x'.hC i := by
  obtain ⟨D1, D2, D3, D4, b1, vs, b3, b4, h1, h2, h3, o⟩ := o
  obtain ⟨q1, q2, q3, q4, -⟩ := o.hi
  have hst : ∀ i, i < x.sn → ∃ t : Option Addr × Nat × Option Addr × Nat, vs i = stV (x.sS i).p t.1 (x.sS i).rs.length t.2.1 t.2.2.1 (x.sS i).os.length t.2.2.2 (x.sS i).c ∧ w.cell? ⟨D2, i * 4, none⟩ = some (.int .i64 (x.sS i).p) ∧ w.cell? ⟨D2, i * 4 + 1, none⟩ = some (.slice t.1 (x.sS i).rs.length t.2.1) ∧ w.cell? ⟨D2, i * 4 + 2, none⟩ = some (.slice t.2.2.1 (x.sS i).os.length t.2.2.2) ∧ w.cell? ⟨D2, i * 4 + 3, none⟩ = some (.int .i64 (x.sS i).c) := by
    intro i hi
    obtain ⟨ra, rc, oa, oc, e, c0, c1, c2, c3⟩ := o.ss.cel i hi
    exact ⟨(ra, rc, oa, oc), e, c0, c1, c2, c3⟩
  have inh : Inhabited (Option Addr × Nat × Option Addr × Nat) := ⟨(none, 0, none, 0)⟩
  obtain ⟨t, ht⟩ := Go.Deep.choose_lt hst
  refine ⟨⟨some ⟨D1, 0, none⟩, x.pn, x.pn, fun i => some ⟨b1 i, 0, none⟩, x.pL, x.pL, x.pH, some ⟨D2, 0, none⟩, x.sn, x.sn, fun i => ⟨(x.sS i).p, (t i).1, (t i).2.1, (x.sS i).rs, (t i).2.2.1, (t i).2.2.2, (x.sS i).os, (x.sS i).c⟩, some ⟨D3, 0, none⟩, x.wn, x.wn, fun i => some ⟨b3 i, 0, none⟩, x.wL, x.wL, x.wH, some ⟨D4, 0, none⟩, x.hn, x.hn, fun i => some ⟨b4 i, 0, none⟩, x.hL, x.hL, x.hH⟩, o.val, ?_, rfl, fun i _ => Nat.le_refl _⟩
  have l1 := o.pp.lt
  have l2 := o.ss.lt
  have l3 := o.ww.lt
  have l4 := o.hh.lt
  refine ⟨.inr ⟨D1, 0, rfl, by omega, fun i hi => ?_⟩, fun i hi => ⟨b1 i, rfl, Nat.lt_of_lt_of_le (o.pp.bd i hi).2 o.pp.le, o.pp.row i hi⟩, ⟨.inr ⟨D2, 0, rfl, by omega, fun i hi => ?_⟩, fun i hi => ?_⟩, .inr ⟨D3, 0, rfl, by omega, fun i hi => ?_⟩, fun i hi => .inr ⟨b3 i, 0, rfl, Nat.lt_of_lt_of_le (o.ww.bd i hi).2 o.ww.le, o.ww.row i hi⟩, .inr ⟨D4, 0, rfl, by omega, fun i hi => ?_⟩, fun i hi => .inr ⟨b4 i, 0, rfl, Nat.lt_of_lt_of_le (o.hh.bd i hi).2 o.hh.le, o.hh.row i hi⟩⟩
  · have := o.pp.cel i hi
    simpa using this
  · have := (ht i hi).2
    simpa using this
  · have h4 := o.ss.own i hi
    rw [(ht i hi).1] at h4
    exact ⟨h4.parts.1.slOf, h4.parts.2.1.slOf⟩
  · have := o.ww.cel i hi
    simpa using this
  · have := o.hh.cel i hi
    simpa using this
theorem SysIn.len_of {x x' : SysIn} (hs : x.size ≤ 1048576) (hy : x'.y = x.y) : x'.Len := by
  have l := SysIn.lens hs
  have e1 : x'.pn = x.pn := congrArg Sy.pn hy
  have e2 : x'.pL = x.pL := congrArg Sy.pL hy
  have e3 : x'.sn = x.sn := congrArg Sy.sn hy
  have e4 : x'.sS = x.sS := congrArg Sy.sS hy
  have e5 : x'.wn = x.wn := congrArg Sy.wn hy
  have e6 : x'.wL = x.wL := congrArg Sy.wL hy
  have e7 : x'.hn = x.hn := congrArg Sy.hn hy
  have e8 : x'.hL = x.hL := congrArg Sy.hL hy
  refine ⟨⟨by omega, fun i hi => ?_⟩, ⟨by omega, fun i hi => ?_⟩, ⟨by omega, fun i hi => ?_⟩, ⟨by omega, fun i hi => ?_⟩⟩
  · rw [e2]
    exact sum_le l.1.2 i (by omega)
  · have h1 := SysIn.lensS hs i (by omega)
    have h2 : x'.sS i = x.sS i := by rw [e4]
    have h3 : (x'.sQ i).rs = (x.sQ i).rs := congrArg S4.rs h2
    have h4 : (x'.sQ i).os = (x.sQ i).os := congrArg S4.os h2
    rw [h3, h4]
    exact h1
  · rw [e6]
    exact sum_le l.2.2.1.2 i (by omega)
  · rw [e8]
    exact sum_le l.2.2.2.2 i (by omega)

/-- What came in stands in its box; nothing older has turned. -/
structure Px (W : World) (x : SysIn) (w : World) : Prop where
  be : Below W.heap.size W w
  bx : BoxC w W.heap.size (.slice x.pa x.pn x.pc) (.slice x.sa x.sn x.sc) (.slice x.wa x.wn x.wc) (.slice x.ha x.hn x.hc)
  lt : W.heap.size < w.heap.size
theorem Px.below {W : World} {x : SysIn} {w w' : World} (h : Px W x w) (hb : Below w.heap.size w w') : Px W x w' := ⟨h.be.trans (hb.mono (Nat.le_of_lt h.lt)), h.bx.below hb, Nat.lt_of_lt_of_le h.lt hb.size⟩

end Go.Proofs.YtdfhpimdgfemjaaGreatDoor

namespace Go.Proofs.YtdfhpimdgfemjaaGreatDoor
open Go.ChangeShapes Go.WideShapes Go.ChangeAt Go.RowKit Go.Deep

def ZL (w : World) (a : Option Addr) (n : Nat) (h : Nat → Int) : Prop := n = 0 ∨ ∃ b off, a = some ⟨b, off, none⟩ ∧ b < w.heap.size ∧ ZAt w b off n h
def BL (w : World) (a : Option Addr) (n : Nat) (h : Nat → Bool) : Prop := n = 0 ∨ ∃ b off, a = some ⟨b, off, none⟩ ∧ b < w.heap.size ∧ BlAt w b off n h
theorem ZL.below {w w' : World} {a : Option Addr} {n : Nat} {h : Nat → Int} (o : ZL w a n h) (hb : Below w.heap.size w w') : ZL w' a n h := by
  rcases o with h0 | ⟨b, off, e, hlt, hc⟩
  · exact .inl h0
  · exact .inr ⟨b, off, e, Nat.lt_of_lt_of_le hlt hb.size, hc.below hb hlt⟩
theorem BL.below {w w' : World} {a : Option Addr} {n : Nat} {h : Nat → Bool} (o : BL w a n h) (hb : Below w.heap.size w w') : BL w' a n h := by
  rcases o with h0 | ⟨b, off, e, hlt, hc⟩
  · exact .inl h0
  · exact .inr ⟨b, off, e, Nat.lt_of_lt_of_le hlt hb.size, hc.below hb hlt⟩
theorem ZL.at {w : World} {a : Option Addr} {n : Nat} {h : Nat → Int} (o : ZL w a n h) {i : Nat} (hi : i < n) : ∃ b off, a = some ⟨b, off, none⟩ ∧ b < w.heap.size ∧ w.cell? ⟨b, off + i, none⟩ = some (.int .i64 (h i)) := by
  rcases o with h0 | ⟨b, off, e, hlt, hc⟩
  · omega
  · exact ⟨b, off, e, hlt, hc i hi⟩
theorem BL.at {w : World} {a : Option Addr} {n : Nat} {h : Nat → Bool} (o : BL w a n h) {i : Nat} (hi : i < n) : ∃ b off, a = some ⟨b, off, none⟩ ∧ b < w.heap.size ∧ w.cell? ⟨b, off + i, none⟩ = some (.bool (h i)) := by
  rcases o with h0 | ⟨b, off, e, hlt, hc⟩
  · omega
  · exact ⟨b, off, e, hlt, hc i hi⟩

/-- A shot's parts, as they read. -/
structure Sh where
  on : Bool
  cn : Nat
  cH : Nat → Int
  ol : Nat
  oH : Nat → Bool
  kn : Nat
  kL : Nat → Nat
  kH : Nat → Nat → Int
def ShIn.z (x : ShIn) : Sh := ⟨x.on, x.cn, x.cH, x.ol, x.oH, x.kn, x.kL, x.kH⟩
/-- Its lists can be read. -/
structure ShG (w : World) (x : ShIn) : Prop where
  c : ZL w x.ca x.cn x.cH
  o : BL w x.oa x.ol x.oH
  k : RowS w x.ka x.kn fun i => .slice (x.kA i) (x.kL i) (x.kC i)
  l : ∀ i, i < x.kn → ZL w (x.kA i) (x.kL i) (x.kH i)
theorem ShG.below {w w' : World} {x : ShIn} (o : ShG w x) (hb : Below w.heap.size w w') : ShG w' x := ⟨o.c.below hb, o.o.below hb, o.k.below hb, fun i hi => (o.l i hi).below hb⟩
theorem IsSh.g {w : World} {lo hi : Nat} {x : ShIn} {v : Value} (o : IsSh w lo hi x v) : ∃ x' : ShIn, v = x'.v ∧ ShG w x' ∧ x'.z = x.z := by
  obtain ⟨D1, D2, D3, bs, o⟩ := o
  have l3 := o.kk.lt
  have l4 := o.kk.le
  have l1 := o.o1
  have l2 := o.o2
  refine ⟨⟨x.on, some ⟨D1, 0, none⟩, x.cn, x.cn, x.cH, some ⟨D2, 0, none⟩, x.ol, x.ol, x.oH, some ⟨D3, 0, none⟩, x.kn, x.kn, fun i => some ⟨bs i, 0, none⟩, x.kL, x.kL, x.kH⟩, o.val, ⟨.inr ⟨D1, 0, rfl, by omega, o.cc⟩, .inr ⟨D2, 0, rfl, by omega, o.oo⟩, .inr ⟨D3, 0, rfl, by omega, fun i hi => ?_⟩, fun i hi => .inr ⟨bs i, 0, rfl, Nat.lt_of_lt_of_le (o.kk.bd i hi).2 o.kk.le, o.kk.row i hi⟩⟩, rfl⟩
  have := o.kk.cel i hi
  simpa using this
structure ShIn.Len (x : ShIn) : Prop where
  c : x.cn ≤ 1048576
  o : x.ol ≤ 1048576
  k : x.kn ≤ 1048576 ∧ ∀ i, i < x.kn → x.kL i ≤ 1048576
theorem ShIn.len_of {x x' : ShIn} (hs : x.size ≤ 1048576) (hz : x'.z = x.z) : x'.Len := by
  have l := ShIn.lens hs
  have e1 : x'.cn = x.cn := congrArg Sh.cn hz
  have e2 : x'.ol = x.ol := congrArg Sh.ol hz
  have e3 : x'.kn = x.kn := congrArg Sh.kn hz
  have e4 : x'.kL = x.kL := congrArg Sh.kL hz
  refine ⟨by omega, by omega, by omega, fun i hi => ?_⟩
  rw [e4]
  exact sum_le l.2.2.2 i (by omega)

/-- A live system in any memory. -/
structure LvG (w : World) (x : LvIn) : Prop where
  s : SysG w x.s
  h : ShG w x.h
theorem LvG.below {w w' : World} {x : LvIn} (o : LvG w x) (hb : Below w.heap.size w w') : LvG w' x := ⟨o.s.below hb, o.h.below hb⟩
structure LvIn.Len (x : LvIn) : Prop where
  s : x.s.Len
  h : x.h.Len
theorem IsLive.g {w : World} {lo hi : Nat} {x : LvIn} {v : Value} (o : IsLive w lo hi x v) : ∃ x' : LvIn, v = x'.v ∧ LvG w x' ∧ x'.s.y = x.s.y ∧ x'.h.z = x.h.z ∧ ∀ i, i < x'.s.hn → x'.s.hL i ≤ x'.s.hC i := by
  obtain ⟨D1, D2, D3, D4, E1, E2, E3, m, rfl, o1, o2⟩ := o
  obtain ⟨x1, e1, g1, y1, c1⟩ := o1.g2
  obtain ⟨x2, e2, g2, z2⟩ := o2.g
  refine ⟨⟨x1, x2⟩, ?_, ⟨g1, g2⟩, y1, z2, c1⟩
  simp only [SysIn.v, Value.agg.injEq, Array.mk.injEq, List.cons.injEq, and_true] at e1
  simp only [ShIn.v, Value.agg.injEq, Array.mk.injEq, List.cons.injEq, and_true] at e2
  show _ = Value.agg #[.slice x1.pa x1.pn x1.pc, .slice x1.sa x1.sn x1.sc, .slice x1.wa x1.wn x1.wc, .slice x1.ha x1.hn x1.hc, .bool x2.on, .slice x2.ca x2.cn x2.cc, .slice x2.oa x2.ol x2.oc, .slice x2.ka x2.kn x2.kc]
  rw [e1.1, e1.2.1, e1.2.2.1, e1.2.2.2, e2.1, e2.2.1, e2.2.2.1, e2.2.2.2]
theorem LvIn.len_of {x x' : LvIn} (hs : x.size ≤ 1048576) (hy : x'.s.y = x.s.y) (hz : x'.h.z = x.h.z) : x'.Len :=
  ⟨SysIn.len_of (show x.s.size ≤ 1048576 by unfold LvIn.size at hs; omega) hy, ShIn.len_of (show x.h.size ≤ 1048576 by unfold LvIn.size at hs; omega) hz⟩

/-- As many of everything as the system has. -/
def Sh.Fit (z : Sh) (y : Sy) : Prop := z.cn = y.pn ∧ z.ol = y.wn ∧ z.kn = y.wn
/-- Each of the cut is -1, or from 0 up to how many events there are. -/
def Sh.DrOk (z : Sh) (y : Sy) : Prop := ∀ p, p < z.cn → -1 ≤ z.cH p ∧ z.cH p ≤ y.hL p
/-- Of a way to who is not drawn nothing is open or kept. -/
def Sh.UnOk (z : Sh) : Prop := ∀ i, i < z.ol → z.cH (i % z.cn) = -1 → z.oH i = false ∧ z.kL i = 0
/-- How many are drawn. -/
def cntD (h : Nat → Int) : Nat → Nat
  | 0 => 0
  | n + 1 => cntD h n + (if h n = -1 then 0 else 1)
theorem cntD_le (h : Nat → Int) : ∀ n, cntD h n ≤ n
  | 0 => Nat.le_refl _
  | n + 1 => by
    have := cntD_le h n
    unfold cntD
    split <;> omega
theorem cntD_pos (h : Nat → Int) : ∀ n, 0 < cntD h n ↔ ∃ p, p < n ∧ h p ≠ -1
  | 0 => by simp [cntD]
  | n + 1 => by
    have ih := cntD_pos h n
    constructor
    · intro hp
      by_cases h1 : 0 < cntD h n
      · obtain ⟨p, hp, hq⟩ := ih.1 h1
        exact ⟨p, by omega, hq⟩
      · unfold cntD at hp
        by_cases h2 : h n = -1
        · rw [if_pos h2] at hp
          omega
        · exact ⟨n, by omega, h2⟩
    · rintro ⟨p, hp, hq⟩
      unfold cntD
      by_cases e : p = n
      · subst e
        rw [if_neg hq]
        omega
      · have := ih.2 ⟨p, by omega, hq⟩
        omega
/-- Somebody is drawn. -/
def Sh.Drawn (z : Sh) : Prop := 0 < cntD z.cH z.cn
/-- A mark is on a way. -/
def Sy.Marks (y : Sy) : Prop := ∃ i, i < y.wn ∧ ∃ k, k < y.wL i ∧ (y.wH i k).m = true
/-- A live system is right. -/
structure LvOk (y : Sy) (z : Sh) : Prop where
  s : y.okB = true
  f : z.Fit y
  d : z.DrOk y
  u : z.UnOk
  o : z.on = true ↔ z.Drawn
  m : z.on = true ∨ ¬ y.Marks

end Go.Proofs.YtdfhpimdgfemjaaGreatDoor

namespace Go.Proofs.YtdfhpimdgfemjaaGreatDoor
open Go.ChangeShapes Go.WideShapes Go.ChangeAt Go.RowKit Go.Deep

theorem assert_mark (w : World) : (Instr.typeAssert (.iface 230 (.agg #[])) 20 230 true).run Tryz.prog w = .ok (.tuple #[.agg #[], .bool true]) w := by kernel_rfl
theorem assert_num (v : Int) (w : World) : (Instr.typeAssert (.iface 3 (.int .i64 v)) 20 230 true).run Tryz.prog w = .ok (.tuple #[.agg #[], .bool false]) w := by kernel_rfl

set_option maxRecDepth 100000 in
set_option maxHeartbeats 1000000 in
theorem isMark_any (m : Bool) (v : Int) (w : World) :
    Calls Tryz.prog 139 #[itV m v] w fun e w' => e = .returned (.bool m) ∧ Below w.heap.size w w' := by
  have h1 := assert_mark
  have h2 := assert_num v
  cases m
  · go_enter Tryz.func139, Tryz.ntmps139
    go_wp2
    go_ret
    exact ⟨rfl, by go_grown⟩
  · go_enter Tryz.func139, Tryz.ntmps139
    go_wp2
    go_ret
    exact ⟨rfl, by go_grown⟩

/-- A mark among these. -/
def hasM (h : Nat → I2) (n : Nat) : Prop := ∃ k, k < n ∧ (h k).m = true

set_option maxRecDepth 100000 in
set_option maxHeartbeats 1000000 in
theorem indexMark_any (a : Option Addr) (n cap : Nat) (h : Nat → I2) (w : World) (hn : n ≤ 1048576) (hI : ItL w a n h) :
    Calls Tryz.prog 193 #[.slice a n cap, .func (.func 139) #[] #[]] w fun e w' => (∃ k : Int, e = .returned (.int .i64 k) ∧ (0 ≤ k ↔ hasM h n)) ∧ Below w.heap.size w w' := by
  have hn' : (n : Int) ≤ 1048576 := by omega
  have HI : Hid (ItL w a n h) := hI
  clear hI
  go_enter Tryz.func193, Tryz.ntmps193
  go_wp2_with fail
  go_loopw [8] (fun i wr => ∃ j : Nat, j ≤ n ∧ i = .int .i64 j ∧ Hid (∀ k, k < j → (h k).m = false) ∧ Hid (Below w.heap.size w wr)) (fun i _ => n - (intOf i).toNat)
  case atStart => exact ⟨0, Nat.zero_le _, rfl, fun k hk => by omega, Below.refl _ _⟩
  case round =>
    obtain ⟨j, hj, rfl, HF, HB⟩ := hrel
    by_cases hlt : j < n
    · have hlt' : (j : Int) < (n : Int) := by omega
      obtain ⟨b, off, rfl, hb, c0, c1⟩ := (HI.out.below HB.out).at hlt
      go_wp2_with fail
      refine (isMark_any (h j).m (h j).v _).mono ?_
      rintro e w1 ⟨rfl, b1⟩
      have HB1 : Hid (Below w.heap.size w w1) := HB.out.trans (b1.mono HB.out.size)
      generalize hm : (h j).m = t at *
      have HM : Hid ((h j).m = t) := hm
      clear b1 HB hm c0 c1
      cases t
      · go_wp2
        go_roundw
        case rel =>
          refine ⟨j + 1, by omega, by go_num, fun k hk => ?_, HB1.out⟩
          by_cases e : k = j
          · subst e; exact HM.out
          · exact HF.out k (by omega)
        case measure => simp [intOf]; omega
      · go_wp2
        go_ret
        exact ⟨⟨_, rfl, ⟨fun _ => ⟨j, hlt, HM.out⟩, fun _ => by omega⟩⟩, HB1.out⟩
    · have hjn : j = n := by omega
      have HN : Hid (¬ hasM h n) := fun ⟨k, hk, hm⟩ => by
        have := HF.out k (by omega)
        rw [this] at hm
        cases hm
      clear HF
      go_wp2
      go_ret
      exact ⟨⟨_, rfl, ⟨fun h => by omega, fun h => absurd h HN.out⟩⟩, HB.out⟩

set_option maxRecDepth 100000 in
set_option maxHeartbeats 1000000 in
theorem hasMark_any (a : Option Addr) (n cap : Nat) (h : Nat → I2) (w : World) (hn : n ≤ 1048576) (hI : ItL w a n h) :
    Calls Tryz.prog 138 #[.slice a n cap, .func (.func 139) #[] #[]] w fun e w' => e = .returned (.bool (pB (hasM h n))) ∧ Below w.heap.size w w' := by
  have HC := indexMark_any a n cap h w hn hI
  clear hI hn
  go_enter Tryz.func138, Tryz.ntmps138
  go_wp2_with fail
  refine HC.mono ?_
  clear HC
  rintro e w1 ⟨⟨k, rfl, hk⟩, b1⟩
  by_cases hm : hasM h n
  · have k0 : k ≥ 0 := hk.2 hm
    have HM : Hid (hasM h n) := hm
    clear hk hm
    go_wp2
    go_ret
    exact ⟨ret_bool (pB_true HM.out).symm, b1⟩
  · have k0 : ¬ k ≥ 0 := fun h => hm (hk.1 h)
    have HM : Hid (¬ hasM h n) := hm
    clear hk hm
    go_wp2
    go_ret
    exact ⟨ret_bool ((decide_eq_false (by omega)).trans (pB_false HM.out).symm), b1⟩

set_option maxRecDepth 100000 in
set_option maxHeartbeats 1000000 in
theorem hasMarks_any (x : SysIn) (w : World) (hG : SysG w x) (hL : x.Len) :
    Calls Tryz.prog 64 #[x.v] w fun e w' => e = .returned (.bool (pB x.y.Marks)) ∧ Below w.heap.size w w' := by
  have HG : Hid (SysG w x) := hG
  have HL : Hid x.Len := hL
  have hn' : (x.wn : Int) ≤ 1048576 := by have := hL.w.1; omega
  clear hG hL
  go_enter Tryz.func64, Tryz.ntmps64
  have B0 : Hid (Below w.heap.size w (w.alloc (.cells #[.slice x.pa x.pn x.pc, .slice x.sa x.sn x.sc, .slice x.wa x.wn x.wc, .slice x.ha x.hn x.hc] 34))) := below_allocS _ _
  go_wp2_with fail
  generalize w.alloc (.cells #[.slice x.pa x.pn x.pc, .slice x.sa x.sn x.sc, .slice x.wa x.wn x.wc, .slice x.ha x.hn x.hc] 34) = wA at *
  go_loopw [8] (fun i wr => ∃ j : Nat, j ≤ x.wn ∧ i = .int .i64 j ∧ Hid (∀ k, k < j → ¬ hasM (x.wH k) (x.wL k)) ∧ Hid (Below w.heap.size w wr)) (fun i _ => x.wn - (intOf i).toNat)
  case atStart => exact ⟨0, Nat.zero_le _, rfl, fun k hk => by omega, B0.out⟩
  case round =>
    clear B0
    obtain ⟨j, hj, rfl, HF, HB⟩ := hrel
    by_cases hlt : j < x.wn
    · have hlt' : (j : Int) < (x.wn : Int) := by omega
      obtain ⟨b, off, ea, c0⟩ := (HG.out.w.below HB.out).at hlt
      rw [ea]
      clear ea
      go_wp2_with fail
      refine (hasMark_any (x.wA j) (x.wL j) (x.wC j) (x.wH j) wr (HL.out.w.2 j hlt) ((HG.out.wi j hlt).below HB.out)).mono ?_
      rintro e w1 ⟨rfl, b1⟩
      have HB1 : Hid (Below w.heap.size w w1) := HB.out.trans (b1.mono HB.out.size)
      clear b1 HB c0
      by_cases hm : hasM (x.wH j) (x.wL j)
      · have HM : Hid x.y.Marks := ⟨j, hlt, hm⟩
        rw [pB_true hm]
        clear hm
        go_wp2
        go_ret
        exact ⟨ret_bool (pB_true HM.out).symm, HB1.out⟩
      · rw [pB_false hm]
        have HM : Hid (¬ hasM (x.wH j) (x.wL j)) := hm
        clear hm
        go_wp2
        go_roundw
        case rel =>
          refine ⟨j + 1, by omega, by go_num, fun k hk => ?_, HB1.out⟩
          by_cases e : k = j
          · subst e; exact HM.out
          · exact HF.out k (by omega)
        case measure => simp [intOf]; omega
    · have HM : Hid (¬ x.y.Marks) := fun ⟨i, hi, k, hk, hm⟩ => HF.out i (by have : i < x.wn := hi; omega) ⟨k, hk, hm⟩
      clear HF
      go_wp2
      go_ret
      exact ⟨ret_bool (pB_false HM.out).symm, HB.out⟩

set_option maxRecDepth 100000 in
set_option maxHeartbeats 1000000 in
theorem shotFits_any (x : LvIn) (w : World) :
    Calls Tryz.prog 59 #[x.s.v, x.h.v] w fun e w' => e = .returned (.bool (pB (x.h.z.Fit x.s.y))) ∧ Below w.heap.size w w' := by
  have hF : x.h.z.Fit x.s.y ↔ x.h.cn = x.s.pn ∧ x.h.ol = x.s.wn ∧ x.h.kn = x.s.wn := Iff.rfl
  by_cases h1 : x.h.cn = x.s.pn
  · by_cases h2 : x.h.ol = x.s.wn
    · by_cases h3 : x.h.kn = x.s.wn
      · rw [pB_true (hF.2 ⟨h1, h2, h3⟩)]
        have k1 : ((x.h.cn : Int) == (x.s.pn : Int)) = true := by simp; omega
        have k2 : ((x.h.ol : Int) == (x.s.wn : Int)) = true := by simp; omega
        have k3 : ((x.h.kn : Int) == (x.s.wn : Int)) = true := by simp; omega
        clear h1 h2 h3 hF
        go_enter Tryz.func59, Tryz.ntmps59
        go_wp2
        go_ret
        exact ⟨rfl, by go_grown⟩
      · rw [pB_false (fun h => h3 (hF.1 h).2.2)]
        have k1 : ((x.h.cn : Int) == (x.s.pn : Int)) = true := by simp; omega
        have k2 : ((x.h.ol : Int) == (x.s.wn : Int)) = true := by simp; omega
        have k3 : ((x.h.kn : Int) == (x.s.wn : Int)) = false := by simp; omega
        clear h1 h2 h3 hF
        go_enter Tryz.func59, Tryz.ntmps59
        go_wp2
        go_ret
        exact ⟨rfl, by go_grown⟩
    · rw [pB_false (fun h => h2 (hF.1 h).2.1)]
      have k1 : ((x.h.cn : Int) == (x.s.pn : Int)) = true := by simp; omega
      have k2 : ((x.h.ol : Int) == (x.s.wn : Int)) = false := by simp; omega
      clear h1 h2 hF
      go_enter Tryz.func59, Tryz.ntmps59
      go_wp2
      go_ret
      exact ⟨rfl, by go_grown⟩
  · rw [pB_false (fun h => h1 (hF.1 h).1)]
    have k1 : ((x.h.cn : Int) == (x.s.pn : Int)) = false := by simp; omega
    clear h1 hF
    go_enter Tryz.func59, Tryz.ntmps59
    go_wp2
    go_ret
    exact ⟨rfl, by go_grown⟩

set_option maxRecDepth 100000 in
set_option maxHeartbeats 1000000 in
theorem drawnOk_any (x : LvIn) (w : World) (hG : LvG w x) (hL : x.Len) (hn : x.h.cn = x.s.hn) :
    Calls Tryz.prog 60 #[x.s.v, .slice x.h.ca x.h.cn x.h.cc] w fun e w' => e = .returned (.bool (pB (x.h.z.DrOk x.s.y))) ∧ Below w.heap.size w w' := by
  have HG : Hid (LvG w x) := hG
  have HL : Hid x.Len := hL
  have HN : Hid (x.h.cn = x.s.hn) := hn
  have hc' : (x.h.cn : Int) ≤ 1048576 := by have := hL.h.c; omega
  clear hG hL hn
  go_enter Tryz.func60, Tryz.ntmps60
  have B0 : Hid (Below w.heap.size w (w.alloc (.cells #[.slice x.s.pa x.s.pn x.s.pc, .slice x.s.sa x.s.sn x.s.sc, .slice x.s.wa x.s.wn x.s.wc, .slice x.s.ha x.s.hn x.s.hc] 34)) ∧ BoxC (w.alloc (.cells #[.slice x.s.pa x.s.pn x.s.pc, .slice x.s.sa x.s.sn x.s.sc, .slice x.s.wa x.s.wn x.s.wc, .slice x.s.ha x.s.hn x.s.hc] 34)) w.heap.size (.slice x.s.pa x.s.pn x.s.pc) (.slice x.s.sa x.s.sn x.s.sc) (.slice x.s.wa x.s.wn x.s.wc) (.slice x.s.ha x.s.hn x.s.hc)) := ⟨below_allocS _ _, BoxC.new _ _ _ _ _ _⟩
  go_wp2_with fail
  generalize w.alloc (.cells #[.slice x.s.pa x.s.pn x.s.pc, .slice x.s.sa x.s.sn x.s.sc, .slice x.s.wa x.s.wn x.s.wc, .slice x.s.ha x.s.hn x.s.hc] 34) = wA at *
  go_loopw [9] (fun i wr => ∃ j : Nat, j ≤ x.h.cn ∧ i = .int .i64 j ∧ Hid (∀ k, k < j → -1 ≤ x.h.cH k ∧ x.h.cH k ≤ x.s.hL k) ∧ wr = wA) (fun i _ => x.h.cn - (intOf i).toNat)
  case atStart => exact ⟨0, Nat.zero_le _, rfl, fun k hk => by omega, rfl⟩
  case round =>
    obtain ⟨j, hj, rfl, HF, rfl⟩ := hrel
    by_cases hlt : j < x.h.cn
    · have hlt' : (j : Int) < (x.h.cn : Int) := by omega
      obtain ⟨b, off, ea, -, c0⟩ := (HG.out.h.c.below B0.out.1).at hlt
      have hlh : j < x.s.hn := by have := HN.out; omega
      have hlh' : (j : Int) < (x.s.hn : Int) := by omega
      obtain ⟨b2, off2, eb, c1⟩ := (HG.out.s.h.below B0.out.1).at hlh
      have hll : (x.s.hL j : Int) ≤ 1048576 := by have := HL.out.s.h.2 j hlh; omega
      obtain ⟨-, -, -, p3⟩ := B0.out.2
      by_cases h1 : x.h.cH j < -1
      · have HNo : Hid (¬ x.h.z.DrOk x.s.y) := fun h => by
          have h9 : -1 ≤ x.h.cH j := (h j hlt).1
          omega
        rw [eb] at p3
        rw [ea]
        clear HF ea eb
        go_wp2
        go_ret
        exact ⟨ret_bool (pB_false HNo.out).symm, B0.out.1⟩
      · by_cases h2 : x.h.cH j > (x.s.hL j : Int)
        · have HNo : Hid (¬ x.h.z.DrOk x.s.y) := fun h => by
            have h9 : x.h.cH j ≤ (x.s.hL j : Int) := (h j hlt).2
            omega
          rw [eb] at p3
          rw [ea]
          clear HF ea eb
          go_wp2
          go_ret
          exact ⟨ret_bool (pB_false HNo.out).symm, B0.out.1⟩
        · have HJ : Hid (-1 ≤ x.h.cH j ∧ x.h.cH j ≤ x.s.hL j) := ⟨by omega, by omega⟩
          rw [eb] at p3
          rw [ea]
          clear ea eb
          go_wp2
          go_roundw
          case rel =>
            refine ⟨j + 1, by omega, by go_num, fun k hk => ?_, by trivial⟩
            by_cases e : k = j
            · subst e; exact HJ.out
            · exact HF.out k (by omega)
          case measure => simp [intOf]; omega
    · have HY : Hid (x.h.z.DrOk x.s.y) := fun p hp => HF.out p (by have : p < x.h.cn := hp; omega)
      clear HF
      go_wp2
      go_ret
      exact ⟨ret_bool (pB_true HY.out).symm, B0.out.1⟩

end Go.Proofs.YtdfhpimdgfemjaaGreatDoor

namespace Go.Proofs.YtdfhpimdgfemjaaGreatDoor
open Go.ChangeShapes Go.WideShapes Go.ChangeAt Go.RowKit Go.Deep

set_option maxRecDepth 100000 in
set_option maxHeartbeats 1000000 in
theorem undrawnOk_any (x : ShIn) (w : World) (hG : ShG w x) (hL : x.Len) (hn : x.kn = x.ol) (hc : 0 < x.cn) :
    Calls Tryz.prog 61 #[x.v] w fun e w' => e = .returned (.bool (pB x.z.UnOk)) ∧ Below w.heap.size w w' := by
  have HG : Hid (ShG w x) := hG
  have HL : Hid x.Len := hL
  have HN : Hid (x.kn = x.ol) := hn
  have ho' : (x.ol : Int) ≤ 1048576 := by have := hL.o; omega
  have hc' : (x.cn : Int) ≤ 1048576 := by have := hL.c; omega
  have hcz : ((x.cn : Int) == 0) = false := by simp; omega
  have hcp : 0 < (x.cn : Int) := by omega
  clear hG hL hn
  go_enter Tryz.func61, Tryz.ntmps61
  have B0 : Hid (Below w.heap.size w (w.alloc (.cells #[.bool x.on, .slice x.ca x.cn x.cc, .slice x.oa x.ol x.oc, .slice x.ka x.kn x.kc] 39)) ∧ BoxC (w.alloc (.cells #[.bool x.on, .slice x.ca x.cn x.cc, .slice x.oa x.ol x.oc, .slice x.ka x.kn x.kc] 39)) w.heap.size (.bool x.on) (.slice x.ca x.cn x.cc) (.slice x.oa x.ol x.oc) (.slice x.ka x.kn x.kc)) := ⟨below_allocS _ _, BoxC.new _ _ _ _ _ _⟩
  go_wp2_with fail
  generalize w.alloc (.cells #[.bool x.on, .slice x.ca x.cn x.cc, .slice x.oa x.ol x.oc, .slice x.ka x.kn x.kc] 39) = wA at *
  go_loopw [9] (fun i wr => ∃ j : Nat, j ≤ x.ol ∧ i = .int .i64 j ∧ Hid (∀ k, k < j → x.cH (k % x.cn) = -1 → x.oH k = false ∧ x.kL k = 0) ∧ wr = wA) (fun i _ => x.ol - (intOf i).toNat)
  case atStart => exact ⟨0, Nat.zero_le _, rfl, fun k hk => by omega, rfl⟩
  case round =>
    obtain ⟨j, hj, rfl, HF, rfl⟩ := hrel
    by_cases hlt : j < x.ol
    · have hlt' : (j : Int) < (x.ol : Int) := by omega
      obtain ⟨b, off, ea, -, c0⟩ := (HG.out.o.below B0.out.1).at hlt
      have hlk : j < x.kn := by have := HN.out; omega
      have hlk' : (j : Int) < (x.kn : Int) := by omega
      obtain ⟨b2, off2, eb, c1⟩ := (HG.out.k.below B0.out.1).at hlk
      have hm : j % x.cn < x.cn := Nat.mod_lt _ hc
      have hm' : ((j % x.cn : Nat) : Int) < (x.cn : Int) := by omega
      have eq2 : Int.tmod (j : Int) (x.cn : Int) = ((j % x.cn : Nat) : Int) := (Int.ofNat_tmod j x.cn).symm
      obtain ⟨b3, off3, ec, -, c2⟩ := (HG.out.c.below B0.out.1).at hm
      have hll : (x.kL j : Int) ≤ 1048576 := by have := HL.out.k.2 j hlk; omega
      obtain ⟨-, p1, -, p3⟩ := B0.out.2
      rw [ec] at p1
      rw [eb] at p3
      have HY : Hid (∀ i : Nat, i < j + 1 → (j = i → x.cH (j % x.cn) = -1 → x.oH j = false ∧ x.kL j = 0) → x.cH (i % x.cn) = -1 → x.oH i = false ∧ x.kL i = 0) := fun i hi h1 h2 => by
        by_cases e : j = i
        · subst e; exact h1 rfl h2
        · exact HF.out i (by omega) h2
      have HNo : Hid (x.cH (j % x.cn) = -1 → (x.oH j = true ∨ 0 < x.kL j) → ¬ x.z.UnOk) := fun h1 h2 h => by
        obtain ⟨h3, h4⟩ := h j hlt h1
        have h3 : x.oH j = false := h3
        have h4 : x.kL j = 0 := h4
        rcases h2 with h2 | h2
        · rw [h3] at h2; cases h2
        · omega
      rw [ea]
      clear ea eb ec hm HF
      generalize j % x.cn = m at *
      by_cases d1 : x.cH m = -1
      · have d1' : (x.cH m == -1) = true := by simp [d1]
        generalize hq : x.oH j = t at *
        cases t
        · by_cases d2 : (x.kL j : Int) > 0
          · have HNN : Hid (¬ x.z.UnOk) := HNo.out d1 (.inr (by omega))
            clear d1 HY HNo
            go_wp2
            go_ret
            exact ⟨ret_bool (pB_false HNN.out).symm, B0.out.1⟩
          · have HZ : Hid (x.oH j = false ∧ x.kL j = 0) := ⟨hq, by omega⟩
            clear d1 HNo hq
            go_wp2
            go_roundw
            case rel => exact ⟨j + 1, by omega, by go_num, fun k hk => HY.out k hk (fun _ _ => ⟨rfl, HZ.out.2⟩), by trivial⟩
            case measure => simp [intOf]; omega
        · have HNN : Hid (¬ x.z.UnOk) := HNo.out d1 (.inl rfl)
          clear d1 HY HNo
          go_wp2
          go_ret
          exact ⟨ret_bool (pB_false HNN.out).symm, B0.out.1⟩
      · have d1' : (x.cH m == -1) = false := by simp [d1]
        have HD : Hid (¬ x.cH m = -1) := d1
        clear d1 HNo
        go_wp2
        go_roundw
        case rel => exact ⟨j + 1, by omega, by go_num, fun k hk => HY.out k hk (fun _ h => absurd h HD.out), by trivial⟩
        case measure => simp [intOf]; omega
    · have HY : Hid x.z.UnOk := fun i hi h => HF.out i (by have : i < x.ol := hi; omega) h
      clear HF
      go_wp2
      go_ret
      exact ⟨ret_bool (pB_true HY.out).symm, B0.out.1⟩

/-- A picture: its lock, free; the shot; how many are drawn. -/
structure PicAt (w : World) (P : Nat) (v0 v1 v2 v3 : Value) (n : Int) : Prop where
  l0 : w.cell? ⟨P, 0, none⟩ = some (.int .i32 0)
  l1 : w.cell? ⟨P, 1, none⟩ = some (.int .u32 0)
  s0 : w.cell? ⟨P, 2, none⟩ = some v0
  s1 : w.cell? ⟨P, 3, none⟩ = some v1
  s2 : w.cell? ⟨P, 4, none⟩ = some v2
  s3 : w.cell? ⟨P, 5, none⟩ = some v3
  dr : w.cell? ⟨P, 6, none⟩ = some (.int .i64 n)
  fz : ∀ j, w.frozen? ⟨P, j, none⟩ = false
theorem PicAt.lt {w : World} {P : Nat} {v0 v1 v2 v3 : Value} {n : Int} (h : PicAt w P v0 v1 v2 v3 n) : P < w.heap.size := World.block_lt_of_cell? w _ h.l0
theorem PicAt.blk {w w' : World} {P : Nat} {v0 v1 v2 v3 : Value} {n : Int} (h : PicAt w P v0 v1 v2 v3 n) (hb : w'.heap[P]? = w.heap[P]?) : PicAt w' P v0 v1 v2 v3 n := by
  have hc : ∀ i, w'.cell? ⟨P, i, none⟩ = w.cell? ⟨P, i, none⟩ := fun i => World.cell?_of_block hb
  exact ⟨(hc _).trans h.l0, (hc _).trans h.l1, (hc _).trans h.s0, (hc _).trans h.s1, (hc _).trans h.s2, (hc _).trans h.s3, (hc _).trans h.dr, fun j => (World.frozen?_of_block hb).trans (h.fz j)⟩
theorem PicAt.below {w w' : World} {P : Nat} {v0 v1 v2 v3 : Value} {n : Int} (h : PicAt w P v0 v1 v2 v3 n) (hb : Below w.heap.size w w') : PicAt w' P v0 v1 v2 v3 n := h.blk (hb.block P h.lt)
theorem PicAt.setD {w : World} {P : Nat} {v0 v1 v2 v3 : Value} {n : Int} (h : PicAt w P v0 v1 v2 v3 n) (m : Int) : PicAt (w.setCell ⟨P, 6, none⟩ (.int .i64 m)) P v0 v1 v2 v3 m := by
  have hc : ∀ i, 6 ≠ i → (w.setCell ⟨P, 6, none⟩ (.int .i64 m)).cell? ⟨P, i, none⟩ = w.cell? ⟨P, i, none⟩ := fun i hi => World.cell?_setCell_other _ _ _ _ fun e => hi (by injection e)
  exact ⟨(hc _ (by omega)).trans h.l0, (hc _ (by omega)).trans h.l1, (hc _ (by omega)).trans h.s0, (hc _ (by omega)).trans h.s1, (hc _ (by omega)).trans h.s2, (hc _ (by omega)).trans h.s3, World.cell?_setCell_same _ _ _ h.dr, fun j => by rw [World.frozen?_setCell]; exact h.fz j⟩

set_option maxRecDepth 100000 in
set_option maxHeartbeats 1000000 in
theorem atomAdd_any (a : Addr) (x y : Int) (w : World) (hc : w.cell? a = some (.int .i64 x)) (hz : w.frozen? a = false) (ha : a.spot = none) (hx : 0 ≤ x) (hx' : x ≤ 4000000) (hy : 0 ≤ y) (hy' : y ≤ 4000000) :
    Calls Tryz.prog 136 #[.pointer (some a), .int .i64 y] w fun e w' => e = .returned (.int .i64 (x + y)) ∧ w' = w.setCell a (.int .i64 (x + y)) := by
  obtain ⟨b, off, spot⟩ := a
  obtain rfl : spot = none := ha
  have hw : IntKind.i64.wrap (x + y) = x + y := by rw [IntKind.wrap_i64]; omega
  have hadd := run_call_add (P := Tryz.prog) Tryz.func191 (by kernel_rfl) (by kernel_rfl) (by kernel_rfl) .i64 (by kernel_rfl) (y := y) (s := x + y) hc hz (by simp [go_sem, hw])
  clear hw
  go_enter Tryz.func136, Tryz.ntmps136
  go_wp2
  go_ret
  exact ⟨rfl, rfl⟩

set_option maxRecDepth 100000 in
set_option maxHeartbeats 1000000 in
theorem atomLoad_any (a : Addr) (x : Int) (w : World) (hc : w.cell? a = some (.int .i64 x)) (ha : a.spot = none) :
    Calls Tryz.prog 137 #[.pointer (some a)] w fun e w' => e = .returned (.int .i64 x) ∧ w' = w := by
  obtain ⟨b, off, spot⟩ := a
  obtain rfl : spot = none := ha
  have hl := run_call_load (P := Tryz.prog) Tryz.func192 (by kernel_rfl) (by kernel_rfl) (by kernel_rfl) .i64 (by kernel_rfl) hc
  go_enter Tryz.func137, Tryz.ntmps137
  go_wp2
  go_ret
  exact ⟨rfl, rfl⟩

set_option maxRecDepth 100000 in
set_option maxHeartbeats 1000000 in
theorem pictureOf_any (x : ShIn) (w : World) (hG : ZL w x.ca x.cn x.cH) (hL : x.cn ≤ 1048576) :
    Calls Tryz.prog 62 #[x.v] w fun e w' => ∃ P, e = .returned (.pointer (some ⟨P, 0, none⟩)) ∧ w.heap.size ≤ P ∧ PicAt w' P (.bool x.on) (.slice x.ca x.cn x.cc) (.slice x.oa x.ol x.oc) (.slice x.ka x.kn x.kc) (cntD x.cH x.cn) ∧ Below w.heap.size w w' := by
  have HG : Hid (ZL w x.ca x.cn x.cH) := hG
  have hc' : (x.cn : Int) ≤ 1048576 := by omega
  clear hG
  go_enter Tryz.func62, Tryz.ntmps62
  have X0 : Hid (Below w.heap.size w ((w.alloc (.cells #[.bool x.on, .slice x.ca x.cn x.cc, .slice x.oa x.ol x.oc, .slice x.ka x.kn x.kc] 39)).alloc (.cells #[.int .i32 0, .int .u32 0, .bool x.on, .slice x.ca x.cn x.cc, .slice x.oa x.ol x.oc, .slice x.ka x.kn x.kc, .int .i64 0] 182)) ∧ PicAt ((w.alloc (.cells #[.bool x.on, .slice x.ca x.cn x.cc, .slice x.oa x.ol x.oc, .slice x.ka x.kn x.kc] 39)).alloc (.cells #[.int .i32 0, .int .u32 0, .bool x.on, .slice x.ca x.cn x.cc, .slice x.oa x.ol x.oc, .slice x.ka x.kn x.kc, .int .i64 0] 182)) (w.heap.size + 1) (.bool x.on) (.slice x.ca x.cn x.cc) (.slice x.oa x.ol x.oc) (.slice x.ka x.kn x.kc) (cntD x.cH 0 : Nat)) := by
    refine ⟨((Below.refl _ _).alloc (Nat.le_refl _) _).alloc (by simp) _, ?_⟩
    have hs : (w.alloc (.cells #[.bool x.on, .slice x.ca x.cn x.cc, .slice x.oa x.ol x.oc, .slice x.ka x.kn x.kc] 39)).heap.size = w.heap.size + 1 := by simp
    exact ⟨new_cell _ _ _ 0 hs.symm, new_cell _ _ _ 1 hs.symm, new_cell _ _ _ 2 hs.symm, new_cell _ _ _ 3 hs.symm, new_cell _ _ _ 4 hs.symm, new_cell _ _ _ 5 hs.symm, new_cell _ _ _ 6 hs.symm, fun j => new_frozen _ _ _ j hs.symm⟩
  go_wp2_with fail
  generalize (w.alloc (.cells #[.bool x.on, .slice x.ca x.cn x.cc, .slice x.oa x.ol x.oc, .slice x.ka x.kn x.kc] 39)).alloc (.cells #[.int .i32 0, .int .u32 0, .bool x.on, .slice x.ca x.cn x.cc, .slice x.oa x.ol x.oc, .slice x.ka x.kn x.kc, .int .i64 0] 182) = wA at *
  go_loopw [12] (fun i wr => ∃ j : Nat, j ≤ x.cn ∧ i = .int .i64 j ∧ Hid (Below w.heap.size w wr ∧ PicAt wr (w.heap.size + 1) (.bool x.on) (.slice x.ca x.cn x.cc) (.slice x.oa x.ol x.oc) (.slice x.ka x.kn x.kc) (cntD x.cH j : Nat))) (fun i _ => x.cn - (intOf i).toNat)
  case atStart => exact ⟨0, Nat.zero_le _, rfl, X0.out⟩
  case round =>
    clear X0
    obtain ⟨j, hj, rfl, HX⟩ := hrel
    by_cases hlt : j < x.cn
    · have hlt' : (j : Int) < (x.cn : Int) := by omega
      obtain ⟨b, off, ea, -, c0⟩ := (HG.out.below HX.out.1).at hlt
      by_cases d : x.cH j = -1
      · have d' : (x.cH j != -1) = false := by simp [d]
        have HC : Hid (cntD x.cH (j + 1) = cntD x.cH j) := by
          show cntD x.cH (j + 1) = cntD x.cH j
          conv => lhs; unfold cntD
          rw [if_pos d, Nat.add_zero]
        have EA : Hid (x.ca = some ⟨b, off, none⟩) := ea
        rw [ea]
        clear d ea
        go_wp2
        go_roundw
        case rel => exact ⟨j + 1, by omega, by go_num, by rw [Hid, ← EA.out, HC.out]; exact HX.out⟩
        case measure => simp [intOf]; omega
      · have d' : (x.cH j != -1) = true := by simp [d]
        have HC : Hid (((cntD x.cH (j + 1) : Nat) : Int) = (cntD x.cH j : Nat) + 1 ∧ cntD x.cH j ≤ 1048576) := by
          refine ⟨?_, Nat.le_trans (cntD_le _ _) (by omega)⟩
          conv => lhs; unfold cntD
          rw [if_neg d]
          omega
        have EA : Hid (x.ca = some ⟨b, off, none⟩) := ea
        rw [ea]
        clear d ea
        go_wp2_with fail
        refine (atomAdd_any ⟨w.heap.size + 1, 6, none⟩ (cntD x.cH j : Nat) 1 _ HX.out.2.dr (HX.out.2.fz 6) rfl (by omega) (by have := HC.out; omega) (by omega) (by omega)).mono ?_
        rintro e w1 ⟨rfl, rfl⟩
        rw [← HC.out.1]
        have HX1 : Hid (Below w.heap.size w (wr.setCell ⟨w.heap.size + 1, 6, none⟩ (.int .i64 (cntD x.cH (j + 1) : Nat))) ∧ PicAt (wr.setCell ⟨w.heap.size + 1, 6, none⟩ (.int .i64 (cntD x.cH (j + 1) : Nat))) (w.heap.size + 1) (.bool x.on) (.slice x.ca x.cn x.cc) (.slice x.oa x.ol x.oc) (.slice x.ka x.kn x.kc) (cntD x.cH (j + 1) : Nat)) := ⟨HX.out.1.setCell (by simp) _, HX.out.2.setD _⟩
        generalize wr.setCell ⟨w.heap.size + 1, 6, none⟩ (.int .i64 (cntD x.cH (j + 1) : Nat)) = wz at *
        clear HX HC c0
        go_wp2
        go_roundw
        case rel => exact ⟨j + 1, by omega, by go_num, by rw [← EA.out]; exact HX1.out⟩
        case measure => simp [intOf]; omega
    · have hjn : j = x.cn := by omega
      have HE : Hid (PicAt wr (w.heap.size + 1) (.bool x.on) (.slice x.ca x.cn x.cc) (.slice x.oa x.ol x.oc) (.slice x.ka x.kn x.kc) (cntD x.cH x.cn : Nat) ∧ Below w.heap.size w wr) := ⟨hjn ▸ HX.out.2, HX.out.1⟩
      clear HX
      go_wp2
      refine bodyPost_ret (v := .pointer (some ⟨w.heap.size + 1, 0, none⟩)) (by simp [results, Tryz.results62, go_sem]) rfl ?_
      exact ⟨_, rfl, by omega, HE.out.1, HE.out.2⟩

set_option maxRecDepth 100000 in
set_option maxHeartbeats 1000000 in
theorem isOn_any (P : Nat) (v0 v1 v2 v3 : Value) (n : Nat) (w : World) (h : PicAt w P v0 v1 v2 v3 n) :
    Calls Tryz.prog 63 #[.pointer (some ⟨P, 0, none⟩)] w fun e w' => e = .returned (.bool (decide (0 < n))) ∧ w' = w := by
  have hc := h.dr
  go_enter Tryz.func63, Tryz.ntmps63
  go_wp2_with fail
  refine (atomLoad_any ⟨P, 6, none⟩ n _ hc rfl).mono ?_
  rintro e w1 ⟨rfl, rfl⟩
  clear h hc
  by_cases h0 : 0 < n
  · have h1 : (n : Int) > 0 := by omega
    go_wp2
    go_ret
    exact ⟨ret_bool (decide_eq_true h0).symm, rfl⟩
  · have h1 : ¬ (n : Int) > 0 := by omega
    go_wp2
    go_ret
    exact ⟨ret_bool (decide_eq_false h0).symm, rfl⟩

end Go.Proofs.YtdfhpimdgfemjaaGreatDoor

namespace Go.Proofs.YtdfhpimdgfemjaaGreatDoor
open Go.ChangeShapes Go.WideShapes Go.ChangeAt Go.RowKit Go.Deep

/-- What LiveOk holds: the live system in its box. -/
def LvX (w w1 : World) (x : LvIn) : Prop := Below w.heap.size w w1 ∧ BoxH w1 w.heap.size (.slice x.s.pa x.s.pn x.s.pc) (.slice x.s.sa x.s.sn x.s.sc) (.slice x.s.wa x.s.wn x.s.wc) (.slice x.s.ha x.s.hn x.s.hc) (.bool x.h.on) (.slice x.h.ca x.h.cn x.h.cc) (.slice x.h.oa x.h.ol x.h.oc) (.slice x.h.ka x.h.kn x.h.kc)
theorem LvX.below {w w1 w2 : World} {x : LvIn} (h : LvX w w1 x) (hb : Below w1.heap.size w1 w2) : LvX w w2 x := ⟨h.1.trans (hb.mono h.1.size), h.2.below hb⟩
theorem LvX.new (w : World) (x : LvIn) (t : TypeId) : LvX w (w.alloc (.cells #[.slice x.s.pa x.s.pn x.s.pc, .slice x.s.sa x.s.sn x.s.sc, .slice x.s.wa x.s.wn x.s.wc, .slice x.s.ha x.s.hn x.s.hc, .bool x.h.on, .slice x.h.ca x.h.cn x.h.cc, .slice x.h.oa x.h.ol x.h.oc, .slice x.h.ka x.h.kn x.h.kc] t)) x := ⟨below_allocS _ _, BoxH.new _ _ _ _ _ _ _ _ _ _⟩

set_option maxRecDepth 100000 in
set_option maxHeartbeats 2000000 in
theorem implLiveOk_any (x : LvIn) (w : World) (hG : LvG w x) (hL : x.Len) (hV : w.cell? ⟨0, 0, none⟩ = some (.iface 313 (.agg #[.pointer (some ⟨1, 255, none⟩)]))) :
    Calls Tryz.prog 21 #[x.v] w fun e w' => e = .returned (.bool (pB (LvOk x.s.y x.h.z))) ∧ Below w.heap.size w w' := by
  have HG : Hid (LvG w x) := hG
  have HL : Hid x.Len := hL
  have HV : Hid (w.cell? ⟨0, 0, none⟩ = some (.iface 313 (.agg #[.pointer (some ⟨1, 255, none⟩)]))) := hV
  have HV0 : Hid (0 < w.heap.size) := World.block_lt_of_cell? w _ hV
  clear hG hL hV
  have X0 : Hid (LvX w (w.alloc (.cells #[.slice x.s.pa x.s.pn x.s.pc, .slice x.s.sa x.s.sn x.s.sc, .slice x.s.wa x.s.wn x.s.wc, .slice x.s.ha x.s.hn x.s.hc, .bool x.h.on, .slice x.h.ca x.h.cn x.h.cc, .slice x.h.oa x.h.ol x.h.oc, .slice x.h.ka x.h.kn x.h.kc] 41)) x) := LvX.new _ _ _
  go_enter Tryz.func21, Tryz.ntmps21
  go_wp2_with fail
  generalize w.alloc (.cells #[.slice x.s.pa x.s.pn x.s.pc, .slice x.s.sa x.s.sn x.s.sc, .slice x.s.wa x.s.wn x.s.wc, .slice x.s.ha x.s.hn x.s.hc, .bool x.h.on, .slice x.h.ca x.h.cn x.h.cc, .slice x.h.oa x.h.ol x.h.oc, .slice x.h.ka x.h.kn x.h.kc] 41) = wA at *
  refine (implSysOk_any x.s wA (HG.out.s.below X0.out.1) HL.out.s ((X0.out.1.cell (p := ⟨0, 0, none⟩) HV0.out).trans HV.out)).mono ?_
  rintro e w1 ⟨rfl, b1⟩
  have X1 : Hid (LvX w w1 x) := X0.out.below b1
  clear b1 X0
  generalize ht : x.s.y.okB = T
  cases T
  · have HN : Hid (¬ LvOk x.s.y x.h.z) := fun h => by
      have := h.s
      rw [ht] at this
      cases this
    clear ht
    have B1 : Hid (Below w.heap.size w w1) := X1.out.1
    clear X1
    go_wp2
    go_ret
    exact ⟨ret_bool (pB_false HN.out).symm, B1.out⟩
  have HO : Hid (x.s.y.okB = true) := ht
  clear ht
  obtain ⟨-, p0, p1, p2, p3, p4, p5, p6, p7⟩ := X1.out
  go_wp2_with fail
  clear p0 p1 p2 p3 p4 p5 p6 p7
  refine (shotFits_any x w1).mono ?_
  rintro e w2 ⟨rfl, b2⟩
  have X2 : Hid (LvX w w2 x) := X1.out.below b2
  clear b2 X1
  by_cases hf : x.h.z.Fit x.s.y
  case neg =>
    rw [pB_false hf]
    have HN : Hid (¬ LvOk x.s.y x.h.z) := fun h => hf h.f
    clear hf
    have B1 : Hid (Below w.heap.size w w2) := X2.out.1
    clear X2
    go_wp2
    go_ret
    exact ⟨ret_bool (pB_false HN.out).symm, B1.out⟩
  rw [pB_true hf]
  have HF : Hid (x.h.z.Fit x.s.y ∧ x.h.cn = x.s.hn ∧ x.h.kn = x.h.ol ∧ 0 < x.h.cn) := by
    have h1 := (Sy.ok_of HO.out).cn
    have h2 : x.h.cn = x.s.pn ∧ x.h.ol = x.s.wn ∧ x.h.kn = x.s.wn := hf
    have h3 : x.s.hn = x.s.pn := h1.2.2.1
    have h4 : 1 ≤ x.s.pn := h1.1.1
    exact ⟨hf, by omega, by omega, by omega⟩
  clear hf
  obtain ⟨-, p0, p1, p2, p3, p4, p5, p6, p7⟩ := X2.out
  go_wp2_with fail
  clear p0 p1 p2 p3 p4 p5 p6 p7
  refine (drawnOk_any x w2 (HG.out.below X2.out.1) HL.out HF.out.2.1).mono ?_
  rintro e w3 ⟨rfl, b3⟩
  have X3 : Hid (LvX w w3 x) := X2.out.below b3
  clear b3 X2
  by_cases hd : x.h.z.DrOk x.s.y
  case neg =>
    rw [pB_false hd]
    have HN : Hid (¬ LvOk x.s.y x.h.z) := fun h => hd h.d
    clear hd
    have B1 : Hid (Below w.heap.size w w3) := X3.out.1
    clear X3
    go_wp2
    go_ret
    exact ⟨ret_bool (pB_false HN.out).symm, B1.out⟩
  rw [pB_true hd]
  have HD : Hid (x.h.z.DrOk x.s.y) := hd
  clear hd
  obtain ⟨-, p0, p1, p2, p3, p4, p5, p6, p7⟩ := X3.out
  go_wp2_with fail
  clear p0 p1 p2 p3 p4 p5 p6 p7
  refine (undrawnOk_any x.h w3 (HG.out.h.below X3.out.1) HL.out.h HF.out.2.2.1 HF.out.2.2.2).mono ?_
  rintro e w4 ⟨rfl, b4⟩
  have X4 : Hid (LvX w w4 x) := X3.out.below b4
  clear b4 X3
  by_cases hu : x.h.z.UnOk
  case neg =>
    rw [pB_false hu]
    have HN : Hid (¬ LvOk x.s.y x.h.z) := fun h => hu h.u
    clear hu
    have B1 : Hid (Below w.heap.size w w4) := X4.out.1
    clear X4
    go_wp2
    go_ret
    exact ⟨ret_bool (pB_false HN.out).symm, B1.out⟩
  rw [pB_true hu]
  have HU : Hid (x.h.z.UnOk) := hu
  clear hu
  obtain ⟨-, p0, p1, p2, p3, p4, p5, p6, p7⟩ := X4.out
  go_wp2_with fail
  clear p0 p1 p2 p3 p4 p5 p6 p7
  refine (pictureOf_any x.h w4 (HG.out.h.c.below X4.out.1) HL.out.h.c).mono ?_
  rintro e w5 ⟨P, rfl, hP, hp, b5⟩
  have HP : Hid (PicAt w5 P (.bool x.h.on) (.slice x.h.ca x.h.cn x.h.cc) (.slice x.h.oa x.h.ol x.h.oc) (.slice x.h.ka x.h.kn x.h.kc) (cntD x.h.cH x.h.cn : Nat)) := hp
  have X5 : Hid (LvX w w5 x) := X4.out.below b5
  clear b5 X4 hP hp
  go_wp2_with fail
  refine (isOn_any P _ _ _ _ (cntD x.h.cH x.h.cn) w5 HP.out).mono ?_
  rintro e w6 ⟨rfl, e6⟩
  subst e6
  clear HP
  have HC : Hid (LvOk x.s.y x.h.z ↔ ((x.h.on = true ↔ 0 < cntD x.h.cH x.h.cn) ∧ (x.h.on = true ∨ ¬ x.s.y.Marks))) := ⟨fun h => ⟨h.o, h.m⟩, fun h => ⟨HO.out, HF.out.1, HD.out, HU.out, h.1, h.2⟩⟩
  clear HO HF HD HU
  generalize hon : x.h.on = on at *
  by_cases hc : 0 < cntD x.h.cH x.h.cn
  · rw [decide_eq_true hc]
    have hH : Hid (LvOk x.s.y x.h.z ↔ on = true) := by
      have h1 := HC.out
      simp only [hc] at h1
      refine h1.trans ⟨fun h => h.1.2 trivial, fun h => ⟨⟨fun _ => trivial, fun _ => h⟩, .inl h⟩⟩
    clear hc HC
    obtain ⟨B, p0, p1, p2, p3, p4, p5, p6, p7⟩ := X5.out
    have BB : Hid (Below w.heap.size w w6) := B
    rw [hon] at p4
    clear B X5 hon
    cases on
    · go_wp2
      go_ret
      exact ⟨ret_bool (pB_false (fun h => by cases hH.out.1 h)).symm, BB.out⟩
    · go_wp2
      go_ret
      exact ⟨ret_bool (pB_true (hH.out.2 (by simp))).symm, BB.out⟩
  · rw [decide_eq_false hc]
    have hH : Hid (LvOk x.s.y x.h.z ↔ (on = false ∧ ¬ x.s.y.Marks)) := by
      have h1 := HC.out
      simp only [hc, iff_false] at h1
      refine h1.trans ⟨fun h => ⟨by simpa using h.1, h.2.resolve_left h.1⟩, fun h => ⟨by rw [h.1]; simp, .inr h.2⟩⟩
    clear hc HC
    obtain ⟨-, p0, p1, p2, p3, p4, p5, p6, p7⟩ := X5.out
    rw [hon] at p4
    clear hon
    cases on
    · go_wp2_with fail
      clear p0 p1 p2 p3 p4 p5 p6 p7
      refine (hasMarks_any x.s w6 (HG.out.s.below X5.out.1) HL.out.s).mono ?_
      rintro e w7 ⟨rfl, b7⟩
      have BB : Hid (Below w.heap.size w w7) := X5.out.1.trans (b7.mono X5.out.1.size)
      clear b7 X5
      by_cases hm : x.s.y.Marks
      · rw [pB_true hm]
        have HN : Hid (¬ LvOk x.s.y x.h.z) := fun h => (hH.out.1 h).2 hm
        clear hm hH
        go_wp2
        go_ret
        exact ⟨ret_bool (pB_false HN.out).symm, BB.out⟩
      · rw [pB_false hm]
        have HN : Hid (LvOk x.s.y x.h.z) := hH.out.2 ⟨by simp, hm⟩
        clear hm hH
        go_wp2
        go_ret
        exact ⟨ret_bool (pB_true HN.out).symm, BB.out⟩
    · have BB : Hid (Below w.heap.size w w6) := X5.out.1
      clear X5
      go_wp2
      go_ret
      exact ⟨ret_bool (pB_false (fun h => by cases (hH.out.1 h).1)).symm, BB.out⟩

end Go.Proofs.YtdfhpimdgfemjaaGreatDoor

namespace Go.Proofs.YtdfhpimdgfemjaaGreatDoor
open Go.ChangeShapes Go.WideShapes Go.ChangeAt Go.RowKit Go.Deep

set_option maxRecDepth 100000 in
set_option maxHeartbeats 1000000 in
theorem l11Marks_any (x : SysIn) (w : World) (hG : SysG w x) (hL : x.Len) :
    Calls Tryz.prog 57 #[x.v] w fun e w' => e = .returned (.bool (pB x.y.Marks)) ∧ Below w.heap.size w w' := by
  have HG : Hid (SysG w x) := hG
  have HL : Hid x.Len := hL
  have hn' : (x.wn : Int) ≤ 1048576 := by have := hL.w.1; omega
  clear hG hL
  go_enter Tryz.func57, Tryz.ntmps57
  have B0 : Hid (Below w.heap.size w (w.alloc (.cells #[.slice x.pa x.pn x.pc, .slice x.sa x.sn x.sc, .slice x.wa x.wn x.wc, .slice x.ha x.hn x.hc] 34)) ∧ BoxC (w.alloc (.cells #[.slice x.pa x.pn x.pc, .slice x.sa x.sn x.sc, .slice x.wa x.wn x.wc, .slice x.ha x.hn x.hc] 34)) w.heap.size (.slice x.pa x.pn x.pc) (.slice x.sa x.sn x.sc) (.slice x.wa x.wn x.wc) (.slice x.ha x.hn x.hc)) := ⟨below_allocS _ _, BoxC.new _ _ _ _ _ _⟩
  go_wp2_with fail
  generalize w.alloc (.cells #[.slice x.pa x.pn x.pc, .slice x.sa x.sn x.sc, .slice x.wa x.wn x.wc, .slice x.ha x.hn x.hc] 34) = wA at *
  go_loopw [3] (fun i wr => ∃ j : Nat, j ≤ x.wn ∧ i = .int .i64 j ∧ Hid (∀ k, k < j → ¬ hasM (x.wH k) (x.wL k)) ∧ wr = wA) (fun i _ => x.wn - (intOf i).toNat)
  case atStart => exact ⟨0, Nat.zero_le _, rfl, fun k hk => by omega, rfl⟩
  case round =>
    obtain ⟨j, hj, rfl, HF, rfl⟩ := hrel
    obtain ⟨-, -, p2, -⟩ := B0.out.2
    by_cases hlt : j < x.wn
    · have hlt' : (j : Int) < (x.wn : Int) := by omega
      obtain ⟨b, off, ea, c0⟩ := (HG.out.w.below B0.out.1).at hlt
      rw [ea] at p2
      clear ea
      have hll : (x.wL j : Int) ≤ 1048576 := by have := HL.out.w.2 j hlt; omega
      have HIt : Hid (ItL wr (x.wA j) (x.wL j) (x.wH j)) := (HG.out.wi j hlt).below B0.out.1
      go_wp2_with fail
      go_loopw [4] (fun i wq => ∃ k : Nat, k ≤ x.wL j ∧ i = .int .i64 k ∧ Hid (∀ m, m < k → (x.wH j m).m = false) ∧ wq = wr) (fun i _ => x.wL j - (intOf i).toNat)
      case atStart => exact ⟨0, Nat.zero_le _, rfl, fun k hk => by omega, rfl⟩
      case round =>
        obtain ⟨k, hk, rfl, HK, rfl⟩ := hrel
        by_cases hkt : k < x.wL j
        · have hkt' : (k : Int) < (x.wL j : Int) := by omega
          obtain ⟨b2, off2, eb, -, d0, d1⟩ := HIt.out.at hkt
          rw [eb] at c0
          clear eb
          generalize hm : (x.wH j k).m = t at *
          have HM : Hid ((x.wH j k).m = t) := hm
          clear hm
          cases t
          · go_wp2
            go_roundw
            case rel =>
              refine ⟨k + 1, by omega, by go_num, fun m hm => ?_, by trivial⟩
              by_cases e : m = k
              · subst e; exact HM.out
              · exact HK.out m (by omega)
            case measure => simp [intOf]; omega
          · have HY : Hid x.y.Marks := ⟨j, hlt, k, hkt, HM.out⟩
            clear HF HK
            go_wp2
            go_ret
            exact ⟨ret_bool (pB_true HY.out).symm, B0.out.1⟩
        · have HNo : Hid (¬ hasM (x.wH j) (x.wL j)) := fun ⟨m, hm, h⟩ => by
            have := HK.out m (by omega)
            rw [this] at h
            cases h
          clear HK
          go_wp2
          go_roundw
          case rel =>
            refine ⟨j + 1, by omega, by go_num, fun m hm => ?_, by trivial⟩
            by_cases e : m = j
            · subst e; exact HNo.out
            · exact HF.out m (by omega)
          case measure => simp [intOf]; omega
    · have HM : Hid (¬ x.y.Marks) := fun ⟨i, hi, k, hk, hm⟩ => HF.out i (by have : i < x.wn := hi; omega) ⟨k, hk, hm⟩
      clear HF
      go_wp2
      go_ret
      exact ⟨ret_bool (pB_false HM.out).symm, B0.out.1⟩

end Go.Proofs.YtdfhpimdgfemjaaGreatDoor
