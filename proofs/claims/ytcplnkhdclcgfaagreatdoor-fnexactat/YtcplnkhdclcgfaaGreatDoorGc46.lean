/- Lists of ints and what came in, while other blocks turn. -/
import Derived.Test.YtcplnkhdclcgfaaGreatDoorGc0
import Derived.Test.YtcplnkhdclcgfaaGreatDoorGc44
import Derived.Test.YtcplnkhdclcgfaaGreatDoorGc33
import Derived.Deep.RegionWith
import Derived.Test.YtcplnkhdclcgfaaGreatDoorGc38
import Derived.Test.YtcplnkhdclcgfaaGreatDoorGc45
import Derived.Test.YtcplnkhdclcgfaaGreatDoorGc43
import Derived.Test.YtcplnkhdclcgfaaGreatDoorGc34
import Derived.Test.YtcplnkhdclcgfaaGreatDoorGc35
namespace Go.Proofs.YtcplnkhdclcgfaaGreatDoor
set_option maxRecDepth 100000
set_option maxHeartbeats 2000000
open Go.ChangeShapes Go.WideShapes Go.ChangeAt Go.RowKit Go.Deep Go.Sort
theorem IsSys.g2 {w : World} {lo hi : Nat} {x : SysIn} {v : Value} (o : IsSys w lo hi x v) : ∃ x' : SysIn, v = x'.v ∧ SysG w x' ∧ x'.y = x.y ∧ ∀ i, i < x'.hn → x'.hL i ≤ x'.hC i := by
 obtain ⟨D1, D2, D3, D4, b1, vs, b3, b4, h1, h2, h3, o⟩ := o
 obtain ⟨q1, q2, q3, q4, -⟩ := o.hi
 have hst : ∀ i, i < x.sn → ∃ t : Option Addr × Nat × Option Addr × Nat, vs i = stV (x.sS i).p t.1 (x.sS i).rs.length t.2.1 t.2.2.1 (x.sS i).os.length t.2.2.2 (x.sS i).c ∧ w.cell? ⟨D2, i * 4, none⟩ = some (.int .i64 (x.sS i).p) ∧ w.cell? ⟨D2, i * 4 + 1, none⟩ = some (.slice t.1 (x.sS i).rs.length t.2.1) ∧ w.cell? ⟨D2, i * 4 + 2, none⟩ = some (.slice t.2.2.1 (x.sS i).os.length t.2.2.2) ∧ w.cell? ⟨D2, i * 4 + 3, none⟩ = some (.int .i64 (x.sS i).c) := by
  intro i hi
  obtain ⟨ra, rc, oa, oc, e, c0, c1, c2, c3⟩ := o.ss.cel i hi
  exact ⟨(ra, rc, oa, oc), e, c0, c1, c2, c3⟩
 have inh : Inhabited (Option Addr × Nat × Option Addr × Nat) := ⟨(none, 0, none, 0)⟩
 obtain ⟨t, ht⟩ := Go.Deep.choose_lt hst
 refine ⟨⟨some ⟨D1, 0, none⟩, x.pn, x.pn, fun i => some ⟨b1 i, 0, none⟩, x.pL, x.pL, x.pH, some ⟨D2, 0, none⟩, x.sn, x.sn, fun i => ⟨(x.sS i).p, (t i).1, (t i).2.1, (x.sS i).rs, (t i).2.2.1, (t i).2.2.2, (x.sS i).os, (x.sS i).c⟩, some ⟨D3, 0, none⟩, x.wn, x.wn, fun i => some ⟨b3 i, 0, none⟩, x.wL, x.wL, x.wH, some ⟨D4, 0, none⟩, x.hn, x.hn, fun i => some ⟨b4 i, 0, none⟩, x.hL, x.hL, x.hH⟩, o.val, ?_, rfl, fun i _ => Nat.le_refl _⟩
 have l1 := o.pp.lt
 have l2 := o.ss.lt
 have l3 := o.ww.lt
 have l4 := o.hh.lt
 refine ⟨.inr ⟨D1, 0, rfl, by omega, fun i hi => ?_⟩, fun i hi => ⟨b1 i, rfl, Nat.lt_of_lt_of_le (o.pp.bd i hi).2 o.pp.le, o.pp.row i hi⟩, ⟨.inr ⟨D2, 0, rfl, by omega, fun i hi => ?_⟩, fun i hi => ?_⟩, .inr ⟨D3, 0, rfl, by omega, fun i hi => ?_⟩, fun i hi => .inr ⟨b3 i, 0, rfl, Nat.lt_of_lt_of_le (o.ww.bd i hi).2 o.ww.le, o.ww.row i hi⟩, .inr ⟨D4, 0, rfl, by omega, fun i hi => ?_⟩, fun i hi => .inr ⟨b4 i, 0, rfl, Nat.lt_of_lt_of_le (o.hh.bd i hi).2 o.hh.le, o.hh.row i hi⟩⟩
 ·have := o.pp.cel i hi
  simpa using this
 ·have := (ht i hi).2
  simpa using this
 ·have h4 := o.ss.own i hi
  rw [(ht i hi).1] at h4
  exact ⟨h4.parts.1.slOf, h4.parts.2.1.slOf⟩
 ·have := o.ww.cel i hi
  simpa using this
 ·have := o.hh.cel i hi
  simpa using this
theorem SysIn.len_of {x x' : SysIn} (hs : x.size ≤ 1048576) (hy : x'.y = x.y) : x'.Len := by
 have l := SysIn.lens hs
 have e1 : x'.pn = x.pn := congrArg Sy.pn hy
 have e2 : x'.pL = x.pL := congrArg Sy.pL hy
 have e3 : x'.sn = x.sn := congrArg Sy.sn hy
 have e4 : x'.sS = x.sS := congrArg Sy.sS hy
 have e5 : x'.wn = x.wn := congrArg Sy.wn hy
 have e6 : x'.wL = x.wL := congrArg Sy.wL hy
 have e7 : x'.hn = x.hn := congrArg Sy.hn hy
 have e8 : x'.hL = x.hL := congrArg Sy.hL hy
 refine ⟨⟨by omega, fun i hi => ?_⟩, ⟨by omega, fun i hi => ?_⟩, ⟨by omega, fun i hi => ?_⟩, ⟨by omega, fun i hi => ?_⟩⟩
 ·rw [e2]
  exact sum_le l.1.2 i (by omega)
 ·have h1 := SysIn.lensS hs i (by omega)
  have h2 : x'.sS i = x.sS i := by rw [e4]
  have h3 : (x'.sQ i).rs = (x.sQ i).rs := congrArg S4.rs h2
  have h4 : (x'.sQ i).os = (x.sQ i).os := congrArg S4.os h2
  rw [h3, h4]
  exact h1
 ·rw [e6]
  exact sum_le l.2.2.1.2 i (by omega)
 ·rw [e8]
  exact sum_le l.2.2.2.2 i (by omega)
structure Px (W : World) (x : SysIn) (w : World) : Prop where
 be : Below W.heap.size W w
 bx : BoxC w W.heap.size (.slice x.pa x.pn x.pc) (.slice x.sa x.sn x.sc) (.slice x.wa x.wn x.wc) (.slice x.ha x.hn x.hc)
 lt : W.heap.size < w.heap.size
theorem Px.below {W : World} {x : SysIn} {w w' : World} (h : Px W x w) (hb : Below w.heap.size w w') : Px W x w' := ⟨h.be.trans (hb.mono (Nat.le_of_lt h.lt)), h.bx.below hb, Nat.lt_of_lt_of_le h.lt hb.size⟩
structure Sy.Sums (y : Sy) : Prop where
 p : y.pn ≤ 1048576 ∧ sumL y.pL y.pn ≤ 1048576
 s : y.sn ≤ 1048576 ∧ sumL (lenS y.sS) y.sn ≤ 1048576
 w : y.wn ≤ 1048576 ∧ sumL y.wL y.wn ≤ 1048576
 h : y.hn ≤ 1048576 ∧ sumL y.hL y.hn ≤ 1048576
def mkZ2 (y : Sy) (k : Int) : Int := k + 5 * (sumL y.pL y.pn : Nat)
def mkZ3 (y : Sy) (k : Int) : Int := mkZ2 y k + (2 * y.sn + sumL (lenS y.sS) y.sn : Nat)
def mkZ4 (y : Sy) (k : Int) : Int := mkZ3 y k + 2 * (sumL y.wL y.wn : Nat)
def mkZ5 (y : Sy) (k : Int) : Int := mkZ4 y k + 3 * (sumL y.hL y.hn : Nat)
def mkY (y : Sy) (k : Int) : Sy := ⟨y.pn, y.pL, fun i => mkI (k + 5 * (sumL y.pL i : Nat)), y.sn, fun i => mkS (mkZ2 y k + (2 * i + sumL (lenS y.sS) i : Nat)) (y.sS i), y.wn, y.wL, fun i => mkT (mkZ3 y k + 2 * (sumL y.wL i : Nat)), y.hn, y.hL, fun i => mkEv (mkZ4 y k + 3 * (sumL y.hL i : Nat))⟩
theorem mkZ_bd {y : Sy} (h : y.Sums) : (0 ≤ mkZ2 y 1 ∧ mkZ2 y 1 ≤ 6000000) ∧ (0 ≤ mkZ3 y 1 ∧ mkZ3 y 1 ≤ 12000000) ∧ (0 ≤ mkZ4 y 1 ∧ mkZ4 y 1 ≤ 18000000) ∧ (0 ≤ mkZ5 y 1 ∧ mkZ5 y 1 ≤ 24000000) := by
 have h1 := h.p.2
 have h2 := h.s
 have h3 := h.w.2
 have h4 := h.h.2
 simp only [mkZ5, mkZ4, mkZ3, mkZ2]
 omega
theorem markSys_own (y : Sy) (B : Nat) (v : Value) (w : World) (hS : y.Sums) (hB : B ≤ w.heap.size) (o : OwnSys true w B y v) :
  Calls Tryz.prog 24 #[v, .int .i64 1] w fun e w' => e = .returned (.int .i64 (mkZ5 y 1)) ∧ OwnSys true w' B (mkY y 1) v ∧ Below B w w' := by
 obtain ⟨c, vp, vs, vw, vh, up, us, uw, uh, rfl, o⟩ := o
 obtain ⟨a1, c1, rfl⟩ := ownsRow_slice o.p.row
 obtain ⟨a2, c2, rfl⟩ := ownsRow_slice o.s.row
 obtain ⟨a3, c3, rfl⟩ := ownsRow_slice o.t.row
 obtain ⟨a4, c4, rfl⟩ := ownsRow_slice o.h.row
 have HS : Hid y.Sums := hS
 have HB : Hid (B ≤ w.heap.size) := hB
 have ba := below_allocL w (oQ4 a1 y.pn c1 a2 y.sn c2 a3 y.wn c3 a4 y.hn c4)
 have o0 : OwnS true w B (rcol c w.heap.size 0) y (.slice a1 y.pn c1) (.slice a2 y.sn c2) (.slice a3 y.wn c3) (.slice a4 y.hn c4) up us uw uh := ⟨o.p.mono fun _ h hl => h.old hl, o.s.mono fun _ h hl => h.old hl, o.t.mono fun _ h hl => h.old hl, o.h.mono fun _ h hl => h.old hl⟩
 have OA : Hid (OwnS true (w.alloc (oQ4 a1 y.pn c1 a2 y.sn c2 a3 y.wn c3 a4 y.hn c4)) B (rcol c w.heap.size 0) y (.slice a1 y.pn c1) (.slice a2 y.sn c2) (.slice a3 y.wn c3) (.slice a4 y.hn c4) up us uw uh) := ⟨o0.p.below ba, o0.s.below ba, o0.t.below ba, o0.h.below ba⟩
 have NA : Hid (BoxC (w.alloc (oQ4 a1 y.pn c1 a2 y.sn c2 a3 y.wn c3 a4 y.hn c4)) w.heap.size (.slice a1 y.pn c1) (.slice a2 y.sn c2) (.slice a3 y.wn c3) (.slice a4 y.hn c4)) := BoxC.new w _ _ _ _ _
 have BA : Hid (Below B w (w.alloc (oQ4 a1 y.pn c1 a2 y.sn c2 a3 y.wn c3 a4 y.hn c4))) := ba.mono hB
 have HM : Hid (∀ i k, Cl B (rcol c w.heap.size 0) i k → i ≠ 0 → k < w.heap.size) := fun i k h hi => by
  rcases Nat.lt_or_ge k w.heap.size with h1 | h1
  ·exact h1
  ·exact absurd (h.2.symm.trans (rcol_new h1)) hi
 have hz := mkZ_bd hS
 have HZ : Hid ((0 ≤ mkZ2 y 1 ∧ mkZ2 y 1 ≤ 6000000) ∧ (0 ≤ mkZ3 y 1 ∧ mkZ3 y 1 ≤ 12000000) ∧ (0 ≤ mkZ4 y 1 ∧ mkZ4 y 1 ≤ 18000000) ∧ (0 ≤ mkZ5 y 1 ∧ mkZ5 y 1 ≤ 24000000)) := hz
 clear o o0 hS hB ba hz
 go_enter Tryz.func24, Tryz.ntmps24
 go_wp2_with fail
 generalize w.alloc (oQ4 a1 y.pn c1 a2 y.sn c2 a3 y.wn c3 a4 y.hn c4) = wA at *
 refine (markInsSS_own _ _ y.pn up y.pL y.pH 1 wA HS.out.p.1 HS.out.p.2 (by omega) (by omega) OA.out.p).mono ?_
 rintro e w1 ⟨rfl, q1, t1⟩
 have K1 : Hid (∀ i, i ≠ 1 → ∀ k, Cl B (rcol c w.heap.size 0) i k → k < wA.heap.size → w1.heap[k]? = wA.heap[k]?) := fun i hi k hk hl => t1.block k hl fun h => hi (hk.2.symm.trans h.2)
 have F1 : Hid (LI true w1 (Cl B (rcol c w.heap.size 0) 1) (.slice a1 y.pn c1) y.pn up y.pL (mkY y 1).pH ∧ LS w1 (Cl B (rcol c w.heap.size 0) 2) (.slice a2 y.sn c2) y.sn us y.sS ∧ LT true w1 (Cl B (rcol c w.heap.size 0) 3) (.slice a3 y.wn c3) y.wn uw y.wL y.wH ∧ LE true w1 (Cl B (rcol c w.heap.size 0) 4) (.slice a4 y.hn c4) y.hn uh y.hL y.hH) := ⟨q1, OA.out.s.keep (K1.out 2 (by decide)), OA.out.t.keep (K1.out 3 (by decide)), OA.out.h.keep (K1.out 4 (by decide))⟩
 have hm1 : w1.heap[w.heap.size]? = wA.heap[w.heap.size]? := t1.block _ (World.block_lt_of_cell? _ _ NA.out.1) fun h => Nat.lt_irrefl _ (HM.out 1 _ h (by decide))
 have G1 : Hid (Below B w w1 ∧ BoxC w1 w.heap.size (.slice a1 y.pn c1) (.slice a2 y.sn c2) (.slice a3 y.wn c3) (.slice a4 y.hn c4)) := ⟨BA.out.trans (t1.below (Nat.le_trans HB.out (Nat.le_of_lt (World.block_lt_of_cell? _ _ NA.out.1))) fun k h => h.1), ⟨(World.cell?_of_block hm1).trans NA.out.1, (World.cell?_of_block hm1).trans NA.out.2.1, (World.cell?_of_block hm1).trans NA.out.2.2.1, (World.cell?_of_block hm1).trans NA.out.2.2.2⟩⟩
 clear hm1
 rw [show (1 : Int) + 5 * (sumL y.pL y.pn : Nat) = mkZ2 y 1 from rfl]
 clear t1 q1 OA NA BA K1
 obtain ⟨-, p0, p1, p2, p3⟩ := G1.out
 go_wp2_with fail
 clear p0 p1 p2 p3
 refine (markStateS_own _ _ y.sn us y.sS (mkZ2 y 1) w1 HS.out.s.1 HS.out.s.2 HZ.out.1.1 (by have := HZ.out; omega) F1.out.2.1).mono ?_
 rintro e w2 ⟨rfl, ⟨ts, q2⟩, t2⟩
 have K2 : Hid (∀ i, i ≠ 2 → ∀ k, Cl B (rcol c w.heap.size 0) i k → k < w1.heap.size → w2.heap[k]? = w1.heap[k]?) := fun i hi k hk hl => t2.block k hl fun h => hi (hk.2.symm.trans h.2)
 have F2 : Hid (LI true w2 (Cl B (rcol c w.heap.size 0) 1) (.slice a1 y.pn c1) y.pn up y.pL (mkY y 1).pH ∧ LS w2 (Cl B (rcol c w.heap.size 0) 2) (.slice a2 y.sn c2) y.sn ts (mkY y 1).sS ∧ LT true w2 (Cl B (rcol c w.heap.size 0) 3) (.slice a3 y.wn c3) y.wn uw y.wL y.wH ∧ LE true w2 (Cl B (rcol c w.heap.size 0) 4) (.slice a4 y.hn c4) y.hn uh y.hL y.hH) := ⟨F1.out.1.keep (K2.out 1 (by decide)), q2, F1.out.2.2.1.keep (K2.out 3 (by decide)), F1.out.2.2.2.keep (K2.out 4 (by decide))⟩
 have hm2 : w2.heap[w.heap.size]? = w1.heap[w.heap.size]? := t2.block _ (World.block_lt_of_cell? _ _ G1.out.2.1) fun h => Nat.lt_irrefl _ (HM.out 2 _ h (by decide))
 have G2 : Hid (Below B w w2 ∧ BoxC w2 w.heap.size (.slice a1 y.pn c1) (.slice a2 y.sn c2) (.slice a3 y.wn c3) (.slice a4 y.hn c4)) := ⟨G1.out.1.trans (t2.below (Nat.le_trans HB.out (Nat.le_of_lt (World.block_lt_of_cell? _ _ G1.out.2.1))) fun k h => h.1), ⟨(World.cell?_of_block hm2).trans G1.out.2.1, (World.cell?_of_block hm2).trans G1.out.2.2.1, (World.cell?_of_block hm2).trans G1.out.2.2.2.1, (World.cell?_of_block hm2).trans G1.out.2.2.2.2⟩⟩
 clear hm2
 rw [show mkZ2 y 1 + (2 * y.sn + sumL (lenS y.sS) y.sn : Nat) = mkZ3 y 1 from rfl]
 clear t2 q2 F1 G1 K2
 obtain ⟨-, p0, p1, p2, p3⟩ := G2.out
 go_wp2_with fail
 clear p0 p1 p2 p3
 refine (markItemSS_own _ _ y.wn uw y.wL y.wH (mkZ3 y 1) w2 HS.out.w.1 HS.out.w.2 HZ.out.2.1.1 (by have := HZ.out; omega) F2.out.2.2.1).mono ?_
 rintro e w3 ⟨rfl, q3, t3⟩
 have K3 : Hid (∀ i, i ≠ 3 → ∀ k, Cl B (rcol c w.heap.size 0) i k → k < w2.heap.size → w3.heap[k]? = w2.heap[k]?) := fun i hi k hk hl => t3.block k hl fun h => hi (hk.2.symm.trans h.2)
 have F3 : Hid (LI true w3 (Cl B (rcol c w.heap.size 0) 1) (.slice a1 y.pn c1) y.pn up y.pL (mkY y 1).pH ∧ LS w3 (Cl B (rcol c w.heap.size 0) 2) (.slice a2 y.sn c2) y.sn ts (mkY y 1).sS ∧ LT true w3 (Cl B (rcol c w.heap.size 0) 3) (.slice a3 y.wn c3) y.wn uw y.wL (mkY y 1).wH ∧ LE true w3 (Cl B (rcol c w.heap.size 0) 4) (.slice a4 y.hn c4) y.hn uh y.hL y.hH) := ⟨F2.out.1.keep (K3.out 1 (by decide)), F2.out.2.1.keep (K3.out 2 (by decide)), q3, F2.out.2.2.2.keep (K3.out 4 (by decide))⟩
 have hm3 : w3.heap[w.heap.size]? = w2.heap[w.heap.size]? := t3.block _ (World.block_lt_of_cell? _ _ G2.out.2.1) fun h => Nat.lt_irrefl _ (HM.out 3 _ h (by decide))
 have G3 : Hid (Below B w w3 ∧ BoxC w3 w.heap.size (.slice a1 y.pn c1) (.slice a2 y.sn c2) (.slice a3 y.wn c3) (.slice a4 y.hn c4)) := ⟨G2.out.1.trans (t3.below (Nat.le_trans HB.out (Nat.le_of_lt (World.block_lt_of_cell? _ _ G2.out.2.1))) fun k h => h.1), ⟨(World.cell?_of_block hm3).trans G2.out.2.1, (World.cell?_of_block hm3).trans G2.out.2.2.1, (World.cell?_of_block hm3).trans G2.out.2.2.2.1, (World.cell?_of_block hm3).trans G2.out.2.2.2.2⟩⟩
 clear hm3
 rw [show mkZ3 y 1 + 2 * (sumL y.wL y.wn : Nat) = mkZ4 y 1 from rfl]
 clear t3 q3 F2 G2 K3
 obtain ⟨-, p0, p1, p2, p3⟩ := G3.out
 go_wp2_with fail
 clear p0 p1 p2 p3
 refine (markEventSS_own _ _ y.hn uh y.hL y.hH (mkZ4 y 1) w3 HS.out.h.1 HS.out.h.2 HZ.out.2.2.1.1 (by have := HZ.out; omega) F3.out.2.2.2).mono ?_
 rintro e w4 ⟨rfl, q4, t4⟩
 have K4 : Hid (∀ i, i ≠ 4 → ∀ k, Cl B (rcol c w.heap.size 0) i k → k < w3.heap.size → w4.heap[k]? = w3.heap[k]?) := fun i hi k hk hl => t4.block k hl fun h => hi (hk.2.symm.trans h.2)
 have F4 : Hid (OwnSys true w4 B (mkY y 1) (sysV a1 y.pn c1 a2 y.sn c2 a3 y.wn c3 a4 y.hn c4)) := ⟨_, _, _, _, _, up, ts, uw, uh, rfl, F3.out.1.keep (K4.out 1 (by decide)), F3.out.2.1.keep (K4.out 2 (by decide)), F3.out.2.2.1.keep (K4.out 3 (by decide)), q4⟩
 have hm4 : w4.heap[w.heap.size]? = w3.heap[w.heap.size]? := t4.block _ (World.block_lt_of_cell? _ _ G3.out.2.1) fun h => Nat.lt_irrefl _ (HM.out 4 _ h (by decide))
 have G4 : Hid (Below B w w4 ∧ BoxC w4 w.heap.size (.slice a1 y.pn c1) (.slice a2 y.sn c2) (.slice a3 y.wn c3) (.slice a4 y.hn c4)) := ⟨G3.out.1.trans (t4.below (Nat.le_trans HB.out (Nat.le_of_lt (World.block_lt_of_cell? _ _ G3.out.2.1))) fun k h => h.1), ⟨(World.cell?_of_block hm4).trans G3.out.2.1, (World.cell?_of_block hm4).trans G3.out.2.2.1, (World.cell?_of_block hm4).trans G3.out.2.2.2.1, (World.cell?_of_block hm4).trans G3.out.2.2.2.2⟩⟩
 clear hm4
 rw [show mkZ4 y 1 + 3 * (sumL y.hL y.hn : Nat) = mkZ5 y 1 from rfl]
 clear t4 q4 F3 G3 K4
 go_wp2
 go_ret
 exact ⟨rfl, F4.out, G4.out.1⟩
theorem heldSys_own (y : Sy) (B : Nat) (v : Value) (w : World) (hS : y.Sums) (o : OwnSys true w B (mkY y 1) v) :
  Calls Tryz.prog 26 #[v, .int .i64 1] w fun e w' => e = .returned (.int .i64 (mkZ5 y 1)) ∧ Below w.heap.size w w' := by
 obtain ⟨c, vp, vs, vw, vh, up, us, uw, uh, rfl, o⟩ := o
 obtain ⟨a1, c1, rfl⟩ := ownsRow_slice o.p.row
 obtain ⟨a2, c2, rfl⟩ := ownsRow_slice o.s.row
 obtain ⟨a3, c3, rfl⟩ := ownsRow_slice o.t.row
 obtain ⟨a4, c4, rfl⟩ := ownsRow_slice o.h.row
 have HS : Hid y.Sums := hS
 have O : Hid (LI true w (Cl B c 1) (.slice a1 y.pn c1) y.pn up y.pL (mkY y 1).pH ∧ LS w (Cl B c 2) (.slice a2 y.sn c2) y.sn us (mkY y 1).sS ∧ LT true w (Cl B c 3) (.slice a3 y.wn c3) y.wn uw y.wL (mkY y 1).wH ∧ LE true w (Cl B c 4) (.slice a4 y.hn c4) y.hn uh y.hL (mkY y 1).hH) := ⟨o.p, o.s, o.t, o.h⟩
 have BA : Hid (Below w.heap.size w (w.alloc (oQ4 a1 y.pn c1 a2 y.sn c2 a3 y.wn c3 a4 y.hn c4))) := below_allocL _ _
 have NA : Hid (BoxC (w.alloc (oQ4 a1 y.pn c1 a2 y.sn c2 a3 y.wn c3 a4 y.hn c4)) w.heap.size (.slice a1 y.pn c1) (.slice a2 y.sn c2) (.slice a3 y.wn c3) (.slice a4 y.hn c4)) := BoxC.new w _ _ _ _ _
 have hz := mkZ_bd hS
 have HZ : Hid ((0 ≤ mkZ2 y 1 ∧ mkZ2 y 1 ≤ 6000000) ∧ (0 ≤ mkZ3 y 1 ∧ mkZ3 y 1 ≤ 12000000) ∧ (0 ≤ mkZ4 y 1 ∧ mkZ4 y 1 ≤ 18000000) ∧ (0 ≤ mkZ5 y 1 ∧ mkZ5 y 1 ≤ 24000000)) := hz
 have z2 : ¬ mkZ2 y 1 < 0 := by omega
 have z3 : ¬ mkZ3 y 1 < 0 := by omega
 have z4 : ¬ mkZ4 y 1 < 0 := by omega
 have z5 : ¬ mkZ5 y 1 < 0 := by omega
 clear o hS hz
 change Calls Tryz.prog 26 #[sysV a1 y.pn c1 a2 y.sn c2 a3 y.wn c3 a4 y.hn c4, .int .i64 1] w _
 go_enter Tryz.func26, Tryz.ntmps26
 go_wp2_with fail
 generalize w.alloc (oQ4 a1 y.pn c1 a2 y.sn c2 a3 y.wn c3 a4 y.hn c4) = wA at *
 refine (heldInsSS_own _ _ y.pn up y.pL 1 wA HS.out.p.1 HS.out.p.2 (by omega) (by omega) (O.out.1.below BA.out)).mono ?_
 rintro e w1 ⟨rfl, b1⟩
 have F1 : Hid (Below w.heap.size w w1 ∧ BoxC w1 w.heap.size (.slice a1 y.pn c1) (.slice a2 y.sn c2) (.slice a3 y.wn c3) (.slice a4 y.hn c4)) := ⟨BA.out.trans (b1.mono BA.out.size), NA.out.below b1⟩
 rw [show (1 : Int) + 5 * (sumL y.pL y.pn : Nat) = mkZ2 y 1 from rfl]
 clear b1 BA NA
 obtain ⟨-, p0, p1, p2, p3⟩ := F1.out
 go_wp2_with fail
 clear p0 p1 p2 p3
 refine (heldStateS_own _ _ y.sn us y.sS (mkZ2 y 1) w1 HS.out.s.1 HS.out.s.2 HZ.out.1.1 (by have := HZ.out; omega) (O.out.2.1.below F1.out.1)).mono ?_
 rintro e w2 ⟨rfl, b2⟩
 have F2 : Hid (Below w.heap.size w w2 ∧ BoxC w2 w.heap.size (.slice a1 y.pn c1) (.slice a2 y.sn c2) (.slice a3 y.wn c3) (.slice a4 y.hn c4)) := ⟨F1.out.1.trans (b2.mono F1.out.1.size), F1.out.2.below b2⟩
 rw [show mkZ2 y 1 + (2 * y.sn + sumL (lenS y.sS) y.sn : Nat) = mkZ3 y 1 from rfl]
 clear b2 F1
 obtain ⟨-, p0, p1, p2, p3⟩ := F2.out
 go_wp2_with fail
 clear p0 p1 p2 p3
 refine (heldItemSS_own _ _ y.wn uw y.wL (mkZ3 y 1) w2 HS.out.w.1 HS.out.w.2 HZ.out.2.1.1 (by have := HZ.out; omega) (O.out.2.2.1.below F2.out.1)).mono ?_
 rintro e w3 ⟨rfl, b3⟩
 have F3 : Hid (Below w.heap.size w w3 ∧ BoxC w3 w.heap.size (.slice a1 y.pn c1) (.slice a2 y.sn c2) (.slice a3 y.wn c3) (.slice a4 y.hn c4)) := ⟨F2.out.1.trans (b3.mono F2.out.1.size), F2.out.2.below b3⟩
 rw [show mkZ3 y 1 + 2 * (sumL y.wL y.wn : Nat) = mkZ4 y 1 from rfl]
 clear b3 F2
 obtain ⟨-, p0, p1, p2, p3⟩ := F3.out
 go_wp2_with fail
 clear p0 p1 p2 p3
 refine (heldEventSS_own _ _ y.hn uh y.hL (mkZ4 y 1) w3 HS.out.h.1 HS.out.h.2 HZ.out.2.2.1.1 (by have := HZ.out; omega) (O.out.2.2.2.below F3.out.1)).mono ?_
 rintro e w4 ⟨rfl, b4⟩
 have F4 : Hid (Below w.heap.size w w4) := F3.out.1.trans (b4.mono F3.out.1.size)
 rw [show mkZ4 y 1 + 3 * (sumL y.hL y.hn : Nat) = mkZ5 y 1 from rfl]
 clear b4 F3
 go_wp2
 go_ret
 exact ⟨rfl, F4.out⟩
noncomputable def stC (y : Sy) (p f : Int) : Int := if y.okB = true then (if belB p y.pn = true then cmS y p.toNat f else 2) else 1
noncomputable def stY (y : Sy) (p f : Int) : Sy := if y.okB = true then (if belB p y.pn = true then y.step p.toNat f else y) else { y with pn := 0, sn := 0, wn := 0, hn := 0 }
def Own0 (w : World) (B T : Nat) (y : Sy) (vp vs vw vh : Value) : Prop := ∃ c up us uw uh, OwnS true w B c y vp vs vw vh up us uw uh ∧ ∀ b, T ≤ b → c b = 0
theorem Own0.of {w : World} {B : Nat} {y : Sy} {v : Value} (o : OwnSys true w B y v) : ∃ pa pc sa sc wa wc ha hc, v = sysV pa y.pn pc sa y.sn sc wa y.wn wc ha y.hn hc ∧ Own0 w B w.heap.size y (.slice pa y.pn pc) (.slice sa y.sn sc) (.slice wa y.wn wc) (.slice ha y.hn hc) := by
 obtain ⟨c, vp, vs, vw, vh, up, us, uw, uh, rfl, o⟩ := o
 obtain ⟨pa, pc, rfl⟩ := ownsRow_slice o.p.row
 obtain ⟨sa, sc, rfl⟩ := ownsRow_slice o.s.row
 obtain ⟨wa, wc, rfl⟩ := ownsRow_slice o.t.row
 obtain ⟨ha, hc, rfl⟩ := ownsRow_slice o.h.row
 exact ⟨pa, pc, sa, sc, wa, wc, ha, hc, rfl, _, up, us, uw, uh, o.recol 0, fun b hb => rcol_new hb⟩
theorem Own0.below {w w' : World} {B T : Nat} {y : Sy} {vp vs vw vh : Value} (o : Own0 w B T y vp vs vw vh) (hb : Below w.heap.size w w') : Own0 w' B T y vp vs vw vh := by
 obtain ⟨c, up, us, uw, uh, o, h⟩ := o
 exact ⟨c, up, us, uw, uh, o.below hb, h⟩
theorem Own0.sys {w : World} {B T : Nat} {y : Sy} {vp vs vw vh : Value} (o : Own0 w B T y vp vs vw vh) : OwnSys true w B y (.agg #[vp, vs, vw, vh]) := by
 obtain ⟨c, up, us, uw, uh, o, -⟩ := o
 exact ⟨c, vp, vs, vw, vh, up, us, uw, uh, rfl, o⟩
theorem Own0.touch {w w' : World} {B T : Nat} {y : Sy} {vp vs vw vh : Value} {P : Nat → Prop} (o : Own0 w B T y vp vs vw vh) (ht : Touch P w w') (hp : ∀ b, P b → T ≤ b ∨ b < B) : Own0 w' B T y vp vs vw vh := by
 obtain ⟨c, up, us, uw, uh, o, h⟩ := o
 have hk : ∀ i, i ≠ 0 → ∀ k, Cl B c i k → k < w.heap.size → w'.heap[k]? = w.heap[k]? := fun i hi k hk hl => ht.block k hl fun e => by
  rcases hp k e with h1 | h1
  ·exact hi (hk.2.symm.trans (h k h1))
  ·have := hk.1
   omega
 exact ⟨c, up, us, uw, uh, ⟨o.p.keep (hk 1 (by decide)), o.s.keep (hk 2 (by decide)), o.t.keep (hk 3 (by decide)), o.h.keep (hk 4 (by decide))⟩, h⟩
theorem markSys_0 (y : Sy) (B T : Nat) (vp vs vw vh : Value) (w : World) (hS : y.Sums) (hB : B ≤ w.heap.size) (o : Own0 w B T y vp vs vw vh) :
  Calls Tryz.prog 24 #[.agg #[vp, vs, vw, vh], .int .i64 1] w fun e w' => e = .returned (.int .i64 (mkZ5 y 1)) ∧ Own0 w' B T (mkY y 1) vp vs vw vh ∧ Touch (fun b => B ≤ b ∧ b < T) w w' := by
 obtain ⟨c, up, us, uw, uh, o, hT⟩ := o
 have HT : Hid (∀ b, T ≤ b → rcol c w.heap.size 0 b = 0) := fun b hb => by
  unfold rcol
  split
  ·exact hT b hb
  ·rfl
 have HC : Hid (∀ i, i ≠ 0 → ∀ b, Cl B (rcol c w.heap.size 0) i b → B ≤ b ∧ b < T) := fun i hi b hb => ⟨hb.1, by
  rcases Nat.lt_or_ge b T with h | h
  ·exact h
  ·exact absurd (hb.2.symm.trans (HT.out b h)) hi⟩
 obtain ⟨a1, c1, rfl⟩ := ownsRow_slice o.p.row
 obtain ⟨a2, c2, rfl⟩ := ownsRow_slice o.s.row
 obtain ⟨a3, c3, rfl⟩ := ownsRow_slice o.t.row
 obtain ⟨a4, c4, rfl⟩ := ownsRow_slice o.h.row
 have HS : Hid y.Sums := hS
 have HB : Hid (B ≤ w.heap.size) := hB
 have ba := below_allocL w (oQ4 a1 y.pn c1 a2 y.sn c2 a3 y.wn c3 a4 y.hn c4)
 have o0 : OwnS true w B (rcol c w.heap.size 0) y (.slice a1 y.pn c1) (.slice a2 y.sn c2) (.slice a3 y.wn c3) (.slice a4 y.hn c4) up us uw uh := ⟨o.p.mono fun _ h hl => h.old hl, o.s.mono fun _ h hl => h.old hl, o.t.mono fun _ h hl => h.old hl, o.h.mono fun _ h hl => h.old hl⟩
 have OA : Hid (OwnS true (w.alloc (oQ4 a1 y.pn c1 a2 y.sn c2 a3 y.wn c3 a4 y.hn c4)) B (rcol c w.heap.size 0) y (.slice a1 y.pn c1) (.slice a2 y.sn c2) (.slice a3 y.wn c3) (.slice a4 y.hn c4) up us uw uh) := ⟨o0.p.below ba, o0.s.below ba, o0.t.below ba, o0.h.below ba⟩
 have NA : Hid (BoxC (w.alloc (oQ4 a1 y.pn c1 a2 y.sn c2 a3 y.wn c3 a4 y.hn c4)) w.heap.size (.slice a1 y.pn c1) (.slice a2 y.sn c2) (.slice a3 y.wn c3) (.slice a4 y.hn c4)) := BoxC.new w _ _ _ _ _
 have BA : Hid (Touch (fun b => B ≤ b ∧ b < T) w (w.alloc (oQ4 a1 y.pn c1 a2 y.sn c2 a3 y.wn c3 a4 y.hn c4))) := Touch.of_below ba
 have HM : Hid (∀ i k, Cl B (rcol c w.heap.size 0) i k → i ≠ 0 → k < w.heap.size) := fun i k h hi => by
  rcases Nat.lt_or_ge k w.heap.size with h1 | h1
  ·exact h1
  ·exact absurd (h.2.symm.trans (rcol_new h1)) hi
 have hz := mkZ_bd hS
 have HZ : Hid ((0 ≤ mkZ2 y 1 ∧ mkZ2 y 1 ≤ 6000000) ∧ (0 ≤ mkZ3 y 1 ∧ mkZ3 y 1 ≤ 12000000) ∧ (0 ≤ mkZ4 y 1 ∧ mkZ4 y 1 ≤ 18000000) ∧ (0 ≤ mkZ5 y 1 ∧ mkZ5 y 1 ≤ 24000000)) := hz
 clear o o0 hS hB ba hz hT
 go_enter Tryz.func24, Tryz.ntmps24
 go_wp2_with fail
 generalize w.alloc (oQ4 a1 y.pn c1 a2 y.sn c2 a3 y.wn c3 a4 y.hn c4) = wA at *
 refine (markInsSS_own _ _ y.pn up y.pL y.pH 1 wA HS.out.p.1 HS.out.p.2 (by omega) (by omega) OA.out.p).mono ?_
 rintro e w1 ⟨rfl, q1, t1⟩
 have K1 : Hid (∀ i, i ≠ 1 → ∀ k, Cl B (rcol c w.heap.size 0) i k → k < wA.heap.size → w1.heap[k]? = wA.heap[k]?) := fun i hi k hk hl => t1.block k hl fun h => hi (hk.2.symm.trans h.2)
 have F1 : Hid (LI true w1 (Cl B (rcol c w.heap.size 0) 1) (.slice a1 y.pn c1) y.pn up y.pL (mkY y 1).pH ∧ LS w1 (Cl B (rcol c w.heap.size 0) 2) (.slice a2 y.sn c2) y.sn us y.sS ∧ LT true w1 (Cl B (rcol c w.heap.size 0) 3) (.slice a3 y.wn c3) y.wn uw y.wL y.wH ∧ LE true w1 (Cl B (rcol c w.heap.size 0) 4) (.slice a4 y.hn c4) y.hn uh y.hL y.hH) := ⟨q1, OA.out.s.keep (K1.out 2 (by decide)), OA.out.t.keep (K1.out 3 (by decide)), OA.out.h.keep (K1.out 4 (by decide))⟩
 have hm1 : w1.heap[w.heap.size]? = wA.heap[w.heap.size]? := t1.block _ (World.block_lt_of_cell? _ _ NA.out.1) fun h => Nat.lt_irrefl _ (HM.out 1 _ h (by decide))
 have G1 : Hid (Touch (fun b => B ≤ b ∧ b < T) w w1 ∧ BoxC w1 w.heap.size (.slice a1 y.pn c1) (.slice a2 y.sn c2) (.slice a3 y.wn c3) (.slice a4 y.hn c4)) := ⟨BA.out.trans (t1.mono (HC.out 1 (by decide))), ⟨(World.cell?_of_block hm1).trans NA.out.1, (World.cell?_of_block hm1).trans NA.out.2.1, (World.cell?_of_block hm1).trans NA.out.2.2.1, (World.cell?_of_block hm1).trans NA.out.2.2.2⟩⟩
 clear hm1
 rw [show (1 : Int) + 5 * (sumL y.pL y.pn : Nat) = mkZ2 y 1 from rfl]
 clear t1 q1 OA NA BA K1
 obtain ⟨-, p0, p1, p2, p3⟩ := G1.out
 go_wp2_with fail
 clear p0 p1 p2 p3
 refine (markStateS_own _ _ y.sn us y.sS (mkZ2 y 1) w1 HS.out.s.1 HS.out.s.2 HZ.out.1.1 (by have := HZ.out; omega) F1.out.2.1).mono ?_
 rintro e w2 ⟨rfl, ⟨ts, q2⟩, t2⟩
 have K2 : Hid (∀ i, i ≠ 2 → ∀ k, Cl B (rcol c w.heap.size 0) i k → k < w1.heap.size → w2.heap[k]? = w1.heap[k]?) := fun i hi k hk hl => t2.block k hl fun h => hi (hk.2.symm.trans h.2)
 have F2 : Hid (LI true w2 (Cl B (rcol c w.heap.size 0) 1) (.slice a1 y.pn c1) y.pn up y.pL (mkY y 1).pH ∧ LS w2 (Cl B (rcol c w.heap.size 0) 2) (.slice a2 y.sn c2) y.sn ts (mkY y 1).sS ∧ LT true w2 (Cl B (rcol c w.heap.size 0) 3) (.slice a3 y.wn c3) y.wn uw y.wL y.wH ∧ LE true w2 (Cl B (rcol c w.heap.size 0) 4) (.slice a4 y.hn c4) y.hn uh y.hL y.hH) := ⟨F1.out.1.keep (K2.out 1 (by decide)), q2, F1.out.2.2.1.keep (K2.out 3 (by decide)), F1.out.2.2.2.keep (K2.out 4 (by decide))⟩
 have hm2 : w2.heap[w.heap.size]? = w1.heap[w.heap.size]? := t2.block _ (World.block_lt_of_cell? _ _ G1.out.2.1) fun h => Nat.lt_irrefl _ (HM.out 2 _ h (by decide))
 have G2 : Hid (Touch (fun b => B ≤ b ∧ b < T) w w2 ∧ BoxC w2 w.heap.size (.slice a1 y.pn c1) (.slice a2 y.sn c2) (.slice a3 y.wn c3) (.slice a4 y.hn c4)) := ⟨G1.out.1.trans (t2.mono (HC.out 2 (by decide))), ⟨(World.cell?_of_block hm2).trans G1.out.2.1, (World.cell?_of_block hm2).trans G1.out.2.2.1, (World.cell?_of_block hm2).trans G1.out.2.2.2.1, (World.cell?_of_block hm2).trans G1.out.2.2.2.2⟩⟩
 clear hm2
 rw [show mkZ2 y 1 + (2 * y.sn + sumL (lenS y.sS) y.sn : Nat) = mkZ3 y 1 from rfl]
 clear t2 q2 F1 G1 K2
 obtain ⟨-, p0, p1, p2, p3⟩ := G2.out
 go_wp2_with fail
 clear p0 p1 p2 p3
 refine (markItemSS_own _ _ y.wn uw y.wL y.wH (mkZ3 y 1) w2 HS.out.w.1 HS.out.w.2 HZ.out.2.1.1 (by have := HZ.out; omega) F2.out.2.2.1).mono ?_
 rintro e w3 ⟨rfl, q3, t3⟩
 have K3 : Hid (∀ i, i ≠ 3 → ∀ k, Cl B (rcol c w.heap.size 0) i k → k < w2.heap.size → w3.heap[k]? = w2.heap[k]?) := fun i hi k hk hl => t3.block k hl fun h => hi (hk.2.symm.trans h.2)
 have F3 : Hid (LI true w3 (Cl B (rcol c w.heap.size 0) 1) (.slice a1 y.pn c1) y.pn up y.pL (mkY y 1).pH ∧ LS w3 (Cl B (rcol c w.heap.size 0) 2) (.slice a2 y.sn c2) y.sn ts (mkY y 1).sS ∧ LT true w3 (Cl B (rcol c w.heap.size 0) 3) (.slice a3 y.wn c3) y.wn uw y.wL (mkY y 1).wH ∧ LE true w3 (Cl B (rcol c w.heap.size 0) 4) (.slice a4 y.hn c4) y.hn uh y.hL y.hH) := ⟨F2.out.1.keep (K3.out 1 (by decide)), F2.out.2.1.keep (K3.out 2 (by decide)), q3, F2.out.2.2.2.keep (K3.out 4 (by decide))⟩
 have hm3 : w3.heap[w.heap.size]? = w2.heap[w.heap.size]? := t3.block _ (World.block_lt_of_cell? _ _ G2.out.2.1) fun h => Nat.lt_irrefl _ (HM.out 3 _ h (by decide))
 have G3 : Hid (Touch (fun b => B ≤ b ∧ b < T) w w3 ∧ BoxC w3 w.heap.size (.slice a1 y.pn c1) (.slice a2 y.sn c2) (.slice a3 y.wn c3) (.slice a4 y.hn c4)) := ⟨G2.out.1.trans (t3.mono (HC.out 3 (by decide))), ⟨(World.cell?_of_block hm3).trans G2.out.2.1, (World.cell?_of_block hm3).trans G2.out.2.2.1, (World.cell?_of_block hm3).trans G2.out.2.2.2.1, (World.cell?_of_block hm3).trans G2.out.2.2.2.2⟩⟩
 clear hm3
 rw [show mkZ3 y 1 + 2 * (sumL y.wL y.wn : Nat) = mkZ4 y 1 from rfl]
 clear t3 q3 F2 G2 K3
 obtain ⟨-, p0, p1, p2, p3⟩ := G3.out
 go_wp2_with fail
 clear p0 p1 p2 p3
 refine (markEventSS_own _ _ y.hn uh y.hL y.hH (mkZ4 y 1) w3 HS.out.h.1 HS.out.h.2 HZ.out.2.2.1.1 (by have := HZ.out; omega) F3.out.2.2.2).mono ?_
 rintro e w4 ⟨rfl, q4, t4⟩
 have K4 : Hid (∀ i, i ≠ 4 → ∀ k, Cl B (rcol c w.heap.size 0) i k → k < w3.heap.size → w4.heap[k]? = w3.heap[k]?) := fun i hi k hk hl => t4.block k hl fun h => hi (hk.2.symm.trans h.2)
 have F4 : Hid (Own0 w4 B T (mkY y 1) (.slice a1 y.pn c1) (.slice a2 y.sn c2) (.slice a3 y.wn c3) (.slice a4 y.hn c4)) := ⟨_, up, ts, uw, uh, ⟨F3.out.1.keep (K4.out 1 (by decide)), F3.out.2.1.keep (K4.out 2 (by decide)), F3.out.2.2.1.keep (K4.out 3 (by decide)), q4⟩, HT.out⟩
 have hm4 : w4.heap[w.heap.size]? = w3.heap[w.heap.size]? := t4.block _ (World.block_lt_of_cell? _ _ G3.out.2.1) fun h => Nat.lt_irrefl _ (HM.out 4 _ h (by decide))
 have G4 : Hid (Touch (fun b => B ≤ b ∧ b < T) w w4 ∧ BoxC w4 w.heap.size (.slice a1 y.pn c1) (.slice a2 y.sn c2) (.slice a3 y.wn c3) (.slice a4 y.hn c4)) := ⟨G3.out.1.trans (t4.mono (HC.out 4 (by decide))), ⟨(World.cell?_of_block hm4).trans G3.out.2.1, (World.cell?_of_block hm4).trans G3.out.2.2.1, (World.cell?_of_block hm4).trans G3.out.2.2.2.1, (World.cell?_of_block hm4).trans G3.out.2.2.2.2⟩⟩
 clear hm4
 rw [show mkZ4 y 1 + 3 * (sumL y.hL y.hn : Nat) = mkZ5 y 1 from rfl]
 clear t4 q4 F3 G3 K4
 go_wp2
 go_ret
 exact ⟨rfl, F4.out, G4.out.1⟩
theorem sumL_bd {L : Nat → Nat} {M : Nat} : ∀ {n : Nat}, (∀ i, i < n → L i ≤ M) → sumL L n ≤ n * M
 | 0, _ => by simp [sumL]
 | n + 1, h => by
  have h1 := sumL_bd fun i hi => h i (Nat.lt_succ_of_lt hi)
  have h2 := h n (Nat.lt_succ_self n)
  show sumL L n + L n ≤ (n + 1) * M
  rw [Nat.add_mul, Nat.one_mul]
  omega
theorem Sy.Sm.sums {y : Sy} (h : y.Sm) : y.Sums := by
 obtain ⟨h1, h2, h3, h4⟩ := h.n
 have a1 := sumL_bd h.p
 have a2 := sumL_bd (L := lenS y.sS) (M := 2000) (n := y.sn) fun i hi => by
  have := h.s i hi
  simp only [lenS]
  omega
 have a3 := sumL_bd h.w
 have a4 := sumL_bd h.h
 exact ⟨⟨by omega, by omega⟩, ⟨by omega, by omega⟩, ⟨by omega, by omega⟩, ⟨by omega, by omega⟩⟩
theorem Sy.Sm.len {y : Sy} (h : y.Sm) : y.Len := by
 obtain ⟨h1, h2, h3, h4⟩ := h.n
 exact ⟨⟨by omega, fun i hi => by have := h.p i hi; omega⟩, ⟨by omega, fun i hi => by have := h.s i hi; omega⟩, ⟨by omega, fun i hi => by have := h.w i hi; omega⟩, ⟨by omega, fun i hi => by have := h.h i hi; omega⟩⟩
theorem IsSys.g3 {w : World} {lo hi : Nat} {x : SysIn} {v : Value} (o : IsSys w lo hi x v) : ∃ x' : SysIn, v = x'.v ∧ SysG w x' ∧ x'.y = x.y ∧ (∀ i, i < x'.hn → x'.hL i ≤ x'.hC i) ∧ x'.Nn true := by
 obtain ⟨D1, D2, D3, D4, b1, vs, b3, b4, h1, h2, h3, o⟩ := o
 obtain ⟨q1, q2, q3, q4, -⟩ := o.hi
 have hst : ∀ i, i < x.sn → ∃ t : Option Addr × Nat × Option Addr × Nat, vs i = stV (x.sS i).p t.1 (x.sS i).rs.length t.2.1 t.2.2.1 (x.sS i).os.length t.2.2.2 (x.sS i).c ∧ w.cell? ⟨D2, i * 4, none⟩ = some (.int .i64 (x.sS i).p) ∧ w.cell? ⟨D2, i * 4 + 1, none⟩ = some (.slice t.1 (x.sS i).rs.length t.2.1) ∧ w.cell? ⟨D2, i * 4 + 2, none⟩ = some (.slice t.2.2.1 (x.sS i).os.length t.2.2.2) ∧ w.cell? ⟨D2, i * 4 + 3, none⟩ = some (.int .i64 (x.sS i).c) := by
  intro i hi
  obtain ⟨ra, rc, oa, oc, e, c0, c1, c2, c3⟩ := o.ss.cel i hi
  exact ⟨(ra, rc, oa, oc), e, c0, c1, c2, c3⟩
 have inh : Inhabited (Option Addr × Nat × Option Addr × Nat) := ⟨(none, 0, none, 0)⟩
 obtain ⟨t, ht⟩ := Go.Deep.choose_lt hst
 refine ⟨⟨some ⟨D1, 0, none⟩, x.pn, x.pn, fun i => some ⟨b1 i, 0, none⟩, x.pL, x.pL, x.pH, some ⟨D2, 0, none⟩, x.sn, x.sn, fun i => ⟨(x.sS i).p, (t i).1, (t i).2.1, (x.sS i).rs, (t i).2.2.1, (t i).2.2.2, (x.sS i).os, (x.sS i).c⟩, some ⟨D3, 0, none⟩, x.wn, x.wn, fun i => some ⟨b3 i, 0, none⟩, x.wL, x.wL, x.wH, some ⟨D4, 0, none⟩, x.hn, x.hn, fun i => some ⟨b4 i, 0, none⟩, x.hL, x.hL, x.hH⟩, o.val, ?_, rfl, fun i _ => Nat.le_refl _, fun i _ => .inl ⟨b3 i, 0, rfl⟩, fun i _ => .inl ⟨b4 i, 0, rfl⟩⟩
 have l1 := o.pp.lt
 have l2 := o.ss.lt
 have l3 := o.ww.lt
 have l4 := o.hh.lt
 refine ⟨.inr ⟨D1, 0, rfl, by omega, fun i hi => ?_⟩, fun i hi => ⟨b1 i, rfl, Nat.lt_of_lt_of_le (o.pp.bd i hi).2 o.pp.le, o.pp.row i hi⟩, ⟨.inr ⟨D2, 0, rfl, by omega, fun i hi => ?_⟩, fun i hi => ?_⟩, .inr ⟨D3, 0, rfl, by omega, fun i hi => ?_⟩, fun i hi => .inr ⟨b3 i, 0, rfl, Nat.lt_of_lt_of_le (o.ww.bd i hi).2 o.ww.le, o.ww.row i hi⟩, .inr ⟨D4, 0, rfl, by omega, fun i hi => ?_⟩, fun i hi => .inr ⟨b4 i, 0, rfl, Nat.lt_of_lt_of_le (o.hh.bd i hi).2 o.hh.le, o.hh.row i hi⟩⟩
 ·have := o.pp.cel i hi
  simpa using this
 ·have := (ht i hi).2
  simpa using this
 ·have h4 := o.ss.own i hi
  rw [(ht i hi).1] at h4
  exact ⟨h4.parts.1.slOf, h4.parts.2.1.slOf⟩
 ·have := o.ww.cel i hi
  simpa using this
 ·have := o.hh.cel i hi
  simpa using this
theorem BoxC.blkF {w w' : World} {N : Nat} {p vr vo code : Value} (h : BoxC w N p vr vo code) (hb : w'.heap[N]? = w.heap[N]?) : BoxC w' N p vr vo code := by
 obtain ⟨h0, h1, h2, h3⟩ := h
 exact ⟨(World.cell?_of_block hb).trans h0, (World.cell?_of_block hb).trans h1, (World.cell?_of_block hb).trans h2, (World.cell?_of_block hb).trans h3⟩
theorem BoxC.ltF {w : World} {N : Nat} {p vr vo code : Value} (h : BoxC w N p vr vo code) : N < w.heap.size := World.block_lt_of_cell? w _ h.1
theorem BoxC.touch {w w' : World} {N : Nat} {p vr vo code : Value} {P : Nat → Prop} (h : BoxC w N p vr vo code) (t : Touch P w w') (hp : ¬ P N) : BoxC w' N p vr vo code := h.blkF (t.block N h.ltF hp)
theorem Px.touchF {W : World} {x : SysIn} {w w' : World} {P : Nat → Prop} (h : Px W x w) (ht : Touch P w w') (hp : ∀ b, P b → W.heap.size < b) : Px W x w' :=
 ⟨h.be.trans (ht.below (Nat.le_of_lt h.lt) fun b e => by have := hp b e; omega), h.bx.touch ht fun e => by have := hp _ e; omega, Nat.lt_of_lt_of_le h.lt ht.size⟩
structure StF (W : World) (x : SysIn) (Y : Sy) (x3 : SysIn) (N1 T8 lo T10 B4 T11 : Nat) (a1 a2 a3 a4 g1 g2 g3 g4 : Value) (w : World) : Prop where
 px : Px W x w
 o2 : Own0 w N1 T8 Y a1 a2 a3 a4
 b8 : BoxC w T8 a1 a2 a3 a4
 s3 : IsSys w lo T10 x x3.v
 b10 : BoxC w T10 (.slice x3.pa x3.pn x3.pc) (.slice x3.sa x3.sn x3.sc) (.slice x3.wa x3.wn x3.wc) (.slice x3.ha x3.hn x3.hc)
 o4 : Own0 w B4 T11 Y g1 g2 g3 g4
 b11 : BoxC w T11 g1 g2 g3 g4
structure StG (W : World) (x : SysIn) (Y Z : Sy) (N1 T8 B4 T11 : Nat) (a1 a2 a3 a4 g1 g2 g3 g4 : Value) (w : World) : Prop where
 px : Px W x w
 o2 : Own0 w N1 T8 Y a1 a2 a3 a4
 b8 : BoxC w T8 a1 a2 a3 a4
 o4 : Own0 w B4 T11 Z g1 g2 g3 g4
 b11 : BoxC w T11 g1 g2 g3 g4
section
variable {W : World} {x : SysIn} {Y Z : Sy} {x3 : SysIn} {N1 T8 lo T10 B4 T11 : Nat} {a1 a2 a3 a4 g1 g2 g3 g4 : Value} {w w' : World}
end
theorem LI.strong {z : Bool} {w : World} {P : Nat → Prop} {v : Value} {n : Nat} {u : Nat → Value} {L : Nat → Nat} {H : Nat → Nat → I5} (o : LI z w P v n u L H) : LI true w P v n u L H := ⟨o.row, o.own, o.rb, o.ob, o.ra, o.oa, fun _ => o.nn nzI⟩
theorem eqItemS_none (b m : Nat) (w : World) : Calls Tryz.prog 153 #[.slice (some ⟨b, 0, none⟩) 0 m, .slice none 0 0] w fun e w' => e = .returned (.bool true) ∧ Below w.heap.size w w' := by
 go_enter Tryz.func153, Tryz.ntmps153
 go_wp2_with fail
 go_loopw [5] (fun i wr => i = .int .i64 0 ∧ Below w.heap.size w wr) (fun _ _ => 0)
 case atStart => exact ⟨rfl, Below.refl _ _⟩
 case round =>
  obtain ⟨rfl, hbw⟩ := hrel
  go_wp2
  go_ret
  exact ⟨rfl, hbw⟩
theorem eqItemS_two {B1 B2 n : Nat} {u1 u2 : Value} {g : Nat → I2} {w : World} (hn : n ≤ 1048576) (o1 : w.ownsRow B1 126 2 u1 n (fT g n)) (n1 : u1 ≠ .slice none 0 0) (o2 : w.ownsRow B2 126 2 u2 n (fT g n)) :
  Calls Tryz.prog 153 #[u1, u2] w fun e w' => e = .returned (.bool true) ∧ Below w.heap.size w w' := by
 obtain ⟨b1, m1, rfl, l1, i1, -⟩ := atT o1 n1
 by_cases h : u2 = .slice none 0 0
 ·subst h
  rcases o2.2 with ⟨-, h0⟩ | ⟨g, cap, cur, e, -⟩
  ·subst h0
   exact eqItemS_none b1 m1 w
  ·cases e
 ·obtain ⟨b2, m2, rfl, l2, i2, -⟩ := atT o2 h
  exact eqItemS_same b1 b2 n m1 m2 g w hn l1 l2 i1 i2
theorem eqItemSS_two (v1 v2 : Value) (P1 P2 : Nat → Prop) (n : Nat) (u1 u2 : Nat → Value) (L : Nat → Nat) (H : Nat → Nat → I2) (w : World) (hn : n ≤ 1048576) (hl : ∀ i, i < n → L i ≤ 1048576) (o1 : LT true w P1 v1 n u1 L H) (o2 : LT false w P2 v2 n u2 L H) :
  Calls Tryz.prog 73 #[v1, v2] w fun e w' => e = .returned (.bool true) ∧ Below w.heap.size w w' := by
 have hl' : (n : Int) ≤ 1048576 := by omega
 obtain ⟨a1, c1, rfl⟩ := ownsRow_slice o1.row
 obtain ⟨a2, c2, rfl⟩ := ownsRow_slice o2.row
 have O1 : Hid (LT true w P1 (.slice a1 n c1) n u1 L H) := o1
 have O2 : Hid (LT false w P2 (.slice a2 n c2) n u2 L H) := o2
 have HL : Hid (∀ i, i < n → L i ≤ 1048576) := hl
 clear o1 o2 hl
 go_enter Tryz.func73, Tryz.ntmps73
 go_wp2_with fail
 go_loopw [5] (fun i wr => ∃ k : Nat, k ≤ n ∧ i = .int .i64 k ∧ Below w.heap.size w wr) (fun i _ => n - (intOf i).toNat)
 case atStart => exact ⟨0, Nat.zero_le _, rfl, Below.refl _ _⟩
 case round =>
  obtain ⟨k, hk, rfl, hbw⟩ := hrel
  have hs := hbw.size
  by_cases hlt : k < n
  ·have Q1 := O1.out.below hbw
   have Q2 := O2.out.below hbw
   obtain ⟨g1, k1, e1, -, -, ck, -⟩ := Q1.cell hlt
   obtain ⟨g2, k2, e2, -, -, dk, -⟩ := Q2.cell hlt
   obtain rfl := slice_form e1
   obtain rfl := slice_form e2
   obtain ⟨p1, m1, f1⟩ := ownsRow_slice (Q1.own k hlt)
   obtain ⟨p2, m2, f2⟩ := ownsRow_slice (Q2.own k hlt)
   have HC : Hid (Calls Tryz.prog 153 #[.slice p1 (L k) m1, .slice p2 (L k) m2] wr.drew fun e w' => e = .returned (.bool true) ∧ Below wr.drew.heap.size wr.drew w') := by
    have d := (Below.refl wr.heap.size wr).drew
    have h := eqItemS_two (HL.out k hlt) ((Q1.below d).own k hlt) (Q1.nn (nzT _) k hlt) ((Q2.below d).own k hlt)
    rw [f1, f2] at h
    exact h
   rw [f1] at ck
   rw [f2] at dk
   have hlt' : (k : Int) < (n : Int) := by omega
   clear Q1 Q2 e1 e2 f1 f2
   go_wp2_with fail
   first | (go_region_with (go_at_call 153; refine HC.out.mono ?_; rintro e w1 ⟨rfl, hq1⟩)) | fail
   all_goals
    go_wp2
    go_roundw
    case rel => exact ⟨k + 1, by omega, by go_num, hbw.drew.trans (hq1.mono hs)⟩
    case measure => simp [intOf]; omega
  ·go_wp2
   go_ret
   exact ⟨rfl, hbw⟩
theorem eqEventS_none (b m : Nat) (w : World) : Calls Tryz.prog 154 #[.slice (some ⟨b, 0, none⟩) 0 m, .slice none 0 0] w fun e w' => e = .returned (.bool true) ∧ Below w.heap.size w w' := by
 go_enter Tryz.func154, Tryz.ntmps154
 go_wp2_with fail
 go_loopw [5] (fun i wr => i = .int .i64 0 ∧ Below w.heap.size w wr) (fun _ _ => 0)
 case atStart => exact ⟨rfl, Below.refl _ _⟩
 case round =>
  obtain ⟨rfl, hbw⟩ := hrel
  go_wp2
  go_ret
  exact ⟨rfl, hbw⟩
theorem eqEventS_two {B1 B2 n : Nat} {u1 u2 : Value} {g : Nat → E3} {w : World} (hn : n ≤ 1048576) (o1 : w.ownsRow B1 71 3 u1 n (fE g n)) (n1 : u1 ≠ .slice none 0 0) (o2 : w.ownsRow B2 71 3 u2 n (fE g n)) :
  Calls Tryz.prog 154 #[u1, u2] w fun e w' => e = .returned (.bool true) ∧ Below w.heap.size w w' := by
 obtain ⟨b1, m1, rfl, l1, i1, -⟩ := atE o1 n1
 by_cases h : u2 = .slice none 0 0
 ·subst h
  rcases o2.2 with ⟨-, h0⟩ | ⟨g, cap, cur, e, -⟩
  ·subst h0
   exact eqEventS_none b1 m1 w
  ·cases e
 ·obtain ⟨b2, m2, rfl, l2, i2, -⟩ := atE o2 h
  exact eqEventS_same b1 b2 n m1 m2 g w hn l1 l2 i1 i2
theorem eqEventSS_two (v1 v2 : Value) (P1 P2 : Nat → Prop) (n : Nat) (u1 u2 : Nat → Value) (L : Nat → Nat) (H : Nat → Nat → E3) (w : World) (hn : n ≤ 1048576) (hl : ∀ i, i < n → L i ≤ 1048576) (o1 : LE true w P1 v1 n u1 L H) (o2 : LE false w P2 v2 n u2 L H) :
  Calls Tryz.prog 74 #[v1, v2] w fun e w' => e = .returned (.bool true) ∧ Below w.heap.size w w' := by
 have hl' : (n : Int) ≤ 1048576 := by omega
 obtain ⟨a1, c1, rfl⟩ := ownsRow_slice o1.row
 obtain ⟨a2, c2, rfl⟩ := ownsRow_slice o2.row
 have O1 : Hid (LE true w P1 (.slice a1 n c1) n u1 L H) := o1
 have O2 : Hid (LE false w P2 (.slice a2 n c2) n u2 L H) := o2
 have HL : Hid (∀ i, i < n → L i ≤ 1048576) := hl
 clear o1 o2 hl
 go_enter Tryz.func74, Tryz.ntmps74
 go_wp2_with fail
 go_loopw [5] (fun i wr => ∃ k : Nat, k ≤ n ∧ i = .int .i64 k ∧ Below w.heap.size w wr) (fun i _ => n - (intOf i).toNat)
 case atStart => exact ⟨0, Nat.zero_le _, rfl, Below.refl _ _⟩
 case round =>
  obtain ⟨k, hk, rfl, hbw⟩ := hrel
  have hs := hbw.size
  by_cases hlt : k < n
  ·have Q1 := O1.out.below hbw
   have Q2 := O2.out.below hbw
   obtain ⟨g1, k1, e1, -, -, ck, -⟩ := Q1.cell hlt
   obtain ⟨g2, k2, e2, -, -, dk, -⟩ := Q2.cell hlt
   obtain rfl := slice_form e1
   obtain rfl := slice_form e2
   obtain ⟨p1, m1, f1⟩ := ownsRow_slice (Q1.own k hlt)
   obtain ⟨p2, m2, f2⟩ := ownsRow_slice (Q2.own k hlt)
   have HC : Hid (Calls Tryz.prog 154 #[.slice p1 (L k) m1, .slice p2 (L k) m2] wr.drew fun e w' => e = .returned (.bool true) ∧ Below wr.drew.heap.size wr.drew w') := by
    have d := (Below.refl wr.heap.size wr).drew
    have h := eqEventS_two (HL.out k hlt) ((Q1.below d).own k hlt) (Q1.nn (nzT _) k hlt) ((Q2.below d).own k hlt)
    rw [f1, f2] at h
    exact h
   rw [f1] at ck
   rw [f2] at dk
   have hlt' : (k : Int) < (n : Int) := by omega
   clear Q1 Q2 e1 e2 f1 f2
   go_wp2_with fail
   first | (go_region_with (go_at_call 154; refine HC.out.mono ?_; rintro e w1 ⟨rfl, hq1⟩)) | fail
   all_goals
    go_wp2
    go_roundw
    case rel => exact ⟨k + 1, by omega, by go_num, hbw.drew.trans (hq1.mono hs)⟩
    case measure => simp [intOf]; omega
  ·go_wp2
   go_ret
   exact ⟨rfl, hbw⟩
theorem eqSys_two (y : Sy) (B1 B2 : Nat) (v1 v2 : Value) (w : World) (hl : y.Len) (o1 : OwnSys true w B1 y v1) (o2 : OwnSys false w B2 y v2) :
  Calls Tryz.prog 22 #[v1, v2] w fun e w' => e = .returned (.bool true) ∧ Below w.heap.size w w' := by
 obtain ⟨c, vp, vs, vw, vh, up, us, uw, uh, rfl, o1⟩ := o1
 obtain ⟨d, xp, xs, xw, xh, tp, ts, tw, th, rfl, o2⟩ := o2
 obtain ⟨a1, c1, rfl⟩ := ownsRow_slice o1.p.row
 obtain ⟨a2, c2, rfl⟩ := ownsRow_slice o1.s.row
 obtain ⟨a3, c3, rfl⟩ := ownsRow_slice o1.t.row
 obtain ⟨a4, c4, rfl⟩ := ownsRow_slice o1.h.row
 obtain ⟨e1, d1, rfl⟩ := ownsRow_slice o2.p.row
 obtain ⟨e2, d2, rfl⟩ := ownsRow_slice o2.s.row
 obtain ⟨e3, d3, rfl⟩ := ownsRow_slice o2.t.row
 obtain ⟨e4, d4, rfl⟩ := ownsRow_slice o2.h.row
 have HL : Hid y.Len := hl
 have O1 : Hid (OwnS true w B1 c y (.slice a1 y.pn c1) (.slice a2 y.sn c2) (.slice a3 y.wn c3) (.slice a4 y.hn c4) up us uw uh) := o1
 have O2 : Hid (OwnS false w B2 d y (.slice e1 y.pn d1) (.slice e2 y.sn d2) (.slice e3 y.wn d3) (.slice e4 y.hn d4) tp ts tw th) := o2
 have BW : Hid (Below w.heap.size w ((w.alloc (oQ4 a1 y.pn c1 a2 y.sn c2 a3 y.wn c3 a4 y.hn c4)).alloc (oQ4 e1 y.pn d1 e2 y.sn d2 e3 y.wn d3 e4 y.hn d4))) := (below_allocL _ _).trans ((below_allocL _ _).mono (by simp))
 have NA : Hid (BoxC ((w.alloc (oQ4 a1 y.pn c1 a2 y.sn c2 a3 y.wn c3 a4 y.hn c4)).alloc (oQ4 e1 y.pn d1 e2 y.sn d2 e3 y.wn d3 e4 y.hn d4)) w.heap.size (.slice a1 y.pn c1) (.slice a2 y.sn c2) (.slice a3 y.wn c3) (.slice a4 y.hn c4)) := (BoxC.new w _ _ _ _ _).below (below_allocL _ _)
 have NB : Hid (BoxC ((w.alloc (oQ4 a1 y.pn c1 a2 y.sn c2 a3 y.wn c3 a4 y.hn c4)).alloc (oQ4 e1 y.pn d1 e2 y.sn d2 e3 y.wn d3 e4 y.hn d4)) (w.heap.size + 1) (.slice e1 y.pn d1) (.slice e2 y.sn d2) (.slice e3 y.wn d3) (.slice e4 y.hn d4)) := ⟨new_cell _ _ _ 0 (by simp), new_cell _ _ _ 1 (by simp), new_cell _ _ _ 2 (by simp), new_cell _ _ _ 3 (by simp)⟩
 clear o1 o2 hl
 go_enter Tryz.func22, Tryz.ntmps22
 go_wp2_with fail
 generalize (w.alloc (oQ4 a1 y.pn c1 a2 y.sn c2 a3 y.wn c3 a4 y.hn c4)).alloc (oQ4 e1 y.pn d1 e2 y.sn d2 e3 y.wn d3 e4 y.hn d4) = wA at *
 refine (eqInsSS_own _ _ _ _ y.pn up tp y.pL y.pH wA HL.out.p.1 HL.out.p.2 (O1.out.p.below BW.out) (LI.strong (O2.out.p.below BW.out))).mono ?_
 rintro e w1 ⟨rfl, b1⟩
 have F1 : Hid (Below w.heap.size w w1 ∧ BoxC w1 w.heap.size (.slice a1 y.pn c1) (.slice a2 y.sn c2) (.slice a3 y.wn c3) (.slice a4 y.hn c4) ∧ BoxC w1 (w.heap.size + 1) (.slice e1 y.pn d1) (.slice e2 y.sn d2) (.slice e3 y.wn d3) (.slice e4 y.hn d4)) := ⟨BW.out.trans (b1.mono BW.out.size), NA.out.below b1, NB.out.below b1⟩
 clear b1 BW NA NB
 obtain ⟨-, ⟨p0, p1, p2, p3⟩, ⟨q0, q1, q2, q3⟩⟩ := F1.out
 go_wp2_with fail
 clear p0 p1 p2 p3 q0 q1 q2 q3
 refine (eqStateS_own _ _ _ _ y.sn us ts y.sS w1 HL.out.s.1 HL.out.s.2 (O1.out.s.below F1.out.1) (O2.out.s.below F1.out.1)).mono ?_
 rintro e w2 ⟨rfl, b2⟩
 have F2 : Hid (Below w.heap.size w w2 ∧ BoxC w2 w.heap.size (.slice a1 y.pn c1) (.slice a2 y.sn c2) (.slice a3 y.wn c3) (.slice a4 y.hn c4) ∧ BoxC w2 (w.heap.size + 1) (.slice e1 y.pn d1) (.slice e2 y.sn d2) (.slice e3 y.wn d3) (.slice e4 y.hn d4)) := ⟨F1.out.1.trans (b2.mono F1.out.1.size), F1.out.2.1.below b2, F1.out.2.2.below b2⟩
 clear b2 F1
 obtain ⟨-, ⟨p0, p1, p2, p3⟩, ⟨q0, q1, q2, q3⟩⟩ := F2.out
 go_wp2_with fail
 clear p0 p1 p2 p3 q0 q1 q2 q3
 refine (eqItemSS_two _ _ _ _ y.wn uw tw y.wL y.wH w2 HL.out.w.1 HL.out.w.2 (O1.out.t.below F2.out.1) (O2.out.t.below F2.out.1)).mono ?_
 rintro e w3 ⟨rfl, b3⟩
 have F3 : Hid (Below w.heap.size w w3 ∧ BoxC w3 w.heap.size (.slice a1 y.pn c1) (.slice a2 y.sn c2) (.slice a3 y.wn c3) (.slice a4 y.hn c4) ∧ BoxC w3 (w.heap.size + 1) (.slice e1 y.pn d1) (.slice e2 y.sn d2) (.slice e3 y.wn d3) (.slice e4 y.hn d4)) := ⟨F2.out.1.trans (b3.mono F2.out.1.size), F2.out.2.1.below b3, F2.out.2.2.below b3⟩
 clear b3 F2
 obtain ⟨-, ⟨p0, p1, p2, p3⟩, ⟨q0, q1, q2, q3⟩⟩ := F3.out
 go_wp2_with fail
 clear p0 p1 p2 p3 q0 q1 q2 q3
 refine (eqEventSS_two _ _ _ _ y.hn uh th y.hL y.hH w3 HL.out.h.1 HL.out.h.2 (O1.out.h.below F3.out.1) (O2.out.h.below F3.out.1)).mono ?_
 rintro e w4 ⟨rfl, b4⟩
 have F4 : Hid (Below w.heap.size w w4) := F3.out.1.trans (b4.mono F3.out.1.size)
 clear b4 F3
 go_wp2
 go_ret
 exact ⟨rfl, F4.out⟩
def OwnZ (w : World) (B T : Nat) (y : Sy) (vp vs vw vh : Value) : Prop := ∃ c up us uw uh, OwnS false w B c y vp vs vw vh up us uw uh ∧ ∀ b, T ≤ b → c b = 0
theorem OwnZ.of {w : World} {B : Nat} {y : Sy} {v : Value} (o : OwnSys false w B y v) : ∃ pa pc sa sc wa wc ha hc, v = sysV pa y.pn pc sa y.sn sc wa y.wn wc ha y.hn hc ∧ OwnZ w B w.heap.size y (.slice pa y.pn pc) (.slice sa y.sn sc) (.slice wa y.wn wc) (.slice ha y.hn hc) := by
 obtain ⟨c, vp, vs, vw, vh, up, us, uw, uh, rfl, o⟩ := o
 obtain ⟨pa, pc, rfl⟩ := ownsRow_slice o.p.row
 obtain ⟨sa, sc, rfl⟩ := ownsRow_slice o.s.row
 obtain ⟨wa, wc, rfl⟩ := ownsRow_slice o.t.row
 obtain ⟨ha, hc, rfl⟩ := ownsRow_slice o.h.row
 exact ⟨pa, pc, sa, sc, wa, wc, ha, hc, rfl, _, up, us, uw, uh, o.recol 0, fun b hb => rcol_new hb⟩
theorem OwnZ.below {w w' : World} {B T : Nat} {y : Sy} {vp vs vw vh : Value} (o : OwnZ w B T y vp vs vw vh) (hb : Below w.heap.size w w') : OwnZ w' B T y vp vs vw vh := by
 obtain ⟨c, up, us, uw, uh, o, h⟩ := o
 exact ⟨c, up, us, uw, uh, o.below hb, h⟩
theorem OwnZ.sys {w : World} {B T : Nat} {y : Sy} {vp vs vw vh : Value} (o : OwnZ w B T y vp vs vw vh) : OwnSys false w B y (.agg #[vp, vs, vw, vh]) := by
 obtain ⟨c, up, us, uw, uh, o, -⟩ := o
 exact ⟨c, vp, vs, vw, vh, up, us, uw, uh, rfl, o⟩
theorem OwnZ.touch {w w' : World} {B T : Nat} {y : Sy} {vp vs vw vh : Value} {P : Nat → Prop} (o : OwnZ w B T y vp vs vw vh) (ht : Touch P w w') (hp : ∀ b, P b → T ≤ b ∨ b < B) : OwnZ w' B T y vp vs vw vh := by
 obtain ⟨c, up, us, uw, uh, o, h⟩ := o
 have hk : ∀ i, i ≠ 0 → ∀ k, Cl B c i k → k < w.heap.size → w'.heap[k]? = w.heap[k]? := fun i hi k hk hl => ht.block k hl fun e => by
  rcases hp k e with h1 | h1
  ·exact hi (hk.2.symm.trans (h k h1))
  ·have := hk.1
   omega
 exact ⟨c, up, us, uw, uh, ⟨o.p.keep (hk 1 (by decide)), o.s.keep (hk 2 (by decide)), o.t.keep (hk 3 (by decide)), o.h.keep (hk 4 (by decide))⟩, h⟩
structure AtF (W : World) (x : SysIn) (Y : Sy) (x3 : SysIn) (N1 T8 lo T10 B4 T11 : Nat) (a1 a2 a3 a4 g1 g2 g3 g4 : Value) (w : World) : Prop where
 px : Px W x w
 o2 : OwnZ w N1 T8 Y a1 a2 a3 a4
 b8 : BoxC w T8 a1 a2 a3 a4
 s3 : IsSys w lo T10 x x3.v
 b10 : BoxC w T10 (.slice x3.pa x3.pn x3.pc) (.slice x3.sa x3.sn x3.sc) (.slice x3.wa x3.wn x3.wc) (.slice x3.ha x3.hn x3.hc)
 o4 : Own0 w B4 T11 Y g1 g2 g3 g4
 b11 : BoxC w T11 g1 g2 g3 g4
structure AtG (W : World) (x : SysIn) (Y Z : Sy) (N1 T8 B4 T11 : Nat) (a1 a2 a3 a4 g1 g2 g3 g4 : Value) (w : World) : Prop where
 px : Px W x w
 o2 : OwnZ w N1 T8 Y a1 a2 a3 a4
 b8 : BoxC w T8 a1 a2 a3 a4
 o4 : Own0 w B4 T11 Z g1 g2 g3 g4
 b11 : BoxC w T11 g1 g2 g3 g4
section
variable {W : World} {x : SysIn} {Y Z : Sy} {x3 : SysIn} {N1 T8 lo T10 B4 T11 : Nat} {a1 a2 a3 a4 g1 g2 g3 g4 : Value} {w w' : World}
theorem AtF.below (h : AtF W x Y x3 N1 T8 lo T10 B4 T11 a1 a2 a3 a4 g1 g2 g3 g4 w) (hb : Below w.heap.size w w') : AtF W x Y x3 N1 T8 lo T10 B4 T11 a1 a2 a3 a4 g1 g2 g3 g4 w' :=
 ⟨h.px.below hb, h.o2.below hb, h.b8.below hb, h.s3.below hb (Nat.le_of_lt h.b10.ltF), h.b10.below hb, h.o4.below hb, h.b11.below hb⟩
theorem AtG.below (h : AtG W x Y Z N1 T8 B4 T11 a1 a2 a3 a4 g1 g2 g3 g4 w) (hb : Below w.heap.size w w') : AtG W x Y Z N1 T8 B4 T11 a1 a2 a3 a4 g1 g2 g3 g4 w' :=
 ⟨h.px.below hb, h.o2.below hb, h.b8.below hb, h.o4.below hb, h.b11.below hb⟩
theorem AtF.mark (h : AtF W x Y x3 N1 T8 lo T10 B4 T11 a1 a2 a3 a4 g1 g2 g3 g4 w) (t : Touch (fun b => lo ≤ b ∧ b < T10) w w') (h1 : W.heap.size < lo) (h2 : T8 < lo) (h3 : T10 ≤ B4) (h4 : B4 ≤ T11) : AtG W x Y Y N1 T8 B4 T11 a1 a2 a3 a4 g1 g2 g3 g4 w' :=
 ⟨h.px.touchF t fun b hb => by omega, h.o2.touch t fun b hb => by omega, h.b8.touch t fun hb => by omega, h.o4.touch t fun b hb => by omega, h.b11.touch t fun hb => by omega⟩
theorem AtG.mid (h : AtG W x Y Z N1 T8 B4 T11 a1 a2 a3 a4 g1 g2 g3 g4 w) {P : Nat → Prop} (t : Touch P w w') (hp : ∀ b, P b → W.heap.size < b ∧ T8 < b ∧ b < B4) (h4 : B4 ≤ T11) : AtG W x Y Z N1 T8 B4 T11 a1 a2 a3 a4 g1 g2 g3 g4 w' :=
 ⟨h.px.touchF t fun b hb => (hp b hb).1, h.o2.touch t fun b hb => by have := hp b hb; omega, h.b8.touch t fun hb => by have := hp _ hb; omega, h.o4.touch t fun b hb => by have := hp b hb; omega, h.b11.touch t fun hb => by have := hp _ hb; omega⟩
theorem AtG.mark (h : AtG W x Y Z N1 T8 B4 T11 a1 a2 a3 a4 g1 g2 g3 g4 w) {Z' : Sy} (t : Touch (fun b => B4 ≤ b ∧ b < T11) w w') (o : Own0 w' B4 T11 Z' g1 g2 g3 g4) (h1 : W.heap.size < B4) (h2 : T8 < B4) : AtG W x Y Z' N1 T8 B4 T11 a1 a2 a3 a4 g1 g2 g3 g4 w' :=
 ⟨h.px.touchF t fun b hb => by omega, h.o2.touch t fun b hb => by omega, h.b8.touch t fun hb => by omega, o, h.b11.touch t fun hb => by omega⟩
end
theorem OwnI.touch {w w' : World} {B : Nat} {v : Value} {xs : List Int} {P : Nat → Prop} (o : OwnI w B v xs) (ht : Touch P w w') (hp : ∀ g, v.ownBlock = some g → ¬ P g) : OwnI w' B v xs := o.blk fun k hk => ht.block k (o.lt k hk).2 (hp k hk)
end Go.Proofs.YtcplnkhdclcgfaaGreatDoor
