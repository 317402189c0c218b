/- The walk of the program's isFullFor. -/
import Derived.Test.YtdigofhceahpdaaGreatDoorTc0
import Derived.Test.YtdigofhceahpdaaGreatDoorTc37
import Derived.Test.YtdigofhceahpdaaGreatDoorTc41
import Derived.Deep.RegionWith
namespace Go.Proofs.YtdigofhceahpdaaGreatDoor
set_option maxRecDepth 100000
set_option maxHeartbeats 2000000
open Go.ChangeShapes Go.WideShapes Go.ChangeAt Go.RowKit Go.Deep
structure Sy.Sums (y : Sy) : Prop where
 p : y.pn ≤ 1048576 ∧ sumL y.pL y.pn ≤ 1048576
 s : y.sn ≤ 1048576 ∧ sumL (lenS y.sS) y.sn ≤ 1048576
 w : y.wn ≤ 1048576 ∧ sumL y.wL y.wn ≤ 1048576
 h : y.hn ≤ 1048576 ∧ sumL y.hL y.hn ≤ 1048576
def mkZ2 (y : Sy) (k : Int) : Int := k + 5 * (sumL y.pL y.pn : Nat)
def mkZ3 (y : Sy) (k : Int) : Int := mkZ2 y k + (2 * y.sn + sumL (lenS y.sS) y.sn : Nat)
def mkZ4 (y : Sy) (k : Int) : Int := mkZ3 y k + 2 * (sumL y.wL y.wn : Nat)
def mkZ5 (y : Sy) (k : Int) : Int := mkZ4 y k + 3 * (sumL y.hL y.hn : Nat)
def mkY (y : Sy) (k : Int) : Sy := ⟨y.pn, y.pL, fun i => mkI (k + 5 * (sumL y.pL i : Nat)), y.sn, fun i => mkS (mkZ2 y k + (2 * i + sumL (lenS y.sS) i : Nat)) (y.sS i), y.wn, y.wL, fun i => mkT (mkZ3 y k + 2 * (sumL y.wL i : Nat)), y.hn, y.hL, fun i => mkEv (mkZ4 y k + 3 * (sumL y.hL i : Nat))⟩
theorem mkZ_bd {y : Sy} (h : y.Sums) : (0 ≤ mkZ2 y 1 ∧ mkZ2 y 1 ≤ 6000000) ∧ (0 ≤ mkZ3 y 1 ∧ mkZ3 y 1 ≤ 12000000) ∧ (0 ≤ mkZ4 y 1 ∧ mkZ4 y 1 ≤ 18000000) ∧ (0 ≤ mkZ5 y 1 ∧ mkZ5 y 1 ≤ 24000000) := by
 have h1 := h.p.2
 have h2 := h.s
 have h3 := h.w.2
 have h4 := h.h.2
 simp only [mkZ5, mkZ4, mkZ3, mkZ2]
 omega
theorem markSys_own (y : Sy) (B : Nat) (v : Value) (w : World) (hS : y.Sums) (hB : B ≤ w.heap.size) (o : OwnSys w B y v) :
  Calls Tryz.prog 13 #[v, .int .i64 1] w fun e w' => e = .returned (.int .i64 (mkZ5 y 1)) ∧ OwnSys w' B (mkY y 1) v ∧ Below B w w' := by
 obtain ⟨c, vp, vs, vw, vh, up, us, uw, uh, rfl, o⟩ := o
 obtain ⟨a1, c1, rfl⟩ := ownsRow_slice o.p.row
 obtain ⟨a2, c2, rfl⟩ := ownsRow_slice o.s.row
 obtain ⟨a3, c3, rfl⟩ := ownsRow_slice o.t.row
 obtain ⟨a4, c4, rfl⟩ := ownsRow_slice o.h.row
 have HS : Hid y.Sums := hS
 have HB : Hid (B ≤ w.heap.size) := hB
 have ba := below_allocL w (oQ4 a1 y.pn c1 a2 y.sn c2 a3 y.wn c3 a4 y.hn c4)
 have o0 : OwnS w B (rcol c w.heap.size 0) y (.slice a1 y.pn c1) (.slice a2 y.sn c2) (.slice a3 y.wn c3) (.slice a4 y.hn c4) up us uw uh := ⟨o.p.mono fun _ h hl => h.old hl, o.s.mono fun _ h hl => h.old hl, o.t.mono fun _ h hl => h.old hl, o.h.mono fun _ h hl => h.old hl⟩
 have OA : Hid (OwnS (w.alloc (oQ4 a1 y.pn c1 a2 y.sn c2 a3 y.wn c3 a4 y.hn c4)) B (rcol c w.heap.size 0) y (.slice a1 y.pn c1) (.slice a2 y.sn c2) (.slice a3 y.wn c3) (.slice a4 y.hn c4) up us uw uh) := ⟨o0.p.below ba, o0.s.below ba, o0.t.below ba, o0.h.below ba⟩
 have NA : Hid (BoxC (w.alloc (oQ4 a1 y.pn c1 a2 y.sn c2 a3 y.wn c3 a4 y.hn c4)) w.heap.size (.slice a1 y.pn c1) (.slice a2 y.sn c2) (.slice a3 y.wn c3) (.slice a4 y.hn c4)) := BoxC.new w _ _ _ _ _
 have BA : Hid (Below B w (w.alloc (oQ4 a1 y.pn c1 a2 y.sn c2 a3 y.wn c3 a4 y.hn c4))) := ba.mono hB
 have HM : Hid (∀ i k, Cl B (rcol c w.heap.size 0) i k → i ≠ 0 → k < w.heap.size) := fun i k h hi => by
  rcases Nat.lt_or_ge k w.heap.size with h1 | h1
  ·exact h1
  ·exact absurd (h.2.symm.trans (rcol_new h1)) hi
 have hz := mkZ_bd hS
 have HZ : Hid ((0 ≤ mkZ2 y 1 ∧ mkZ2 y 1 ≤ 6000000) ∧ (0 ≤ mkZ3 y 1 ∧ mkZ3 y 1 ≤ 12000000) ∧ (0 ≤ mkZ4 y 1 ∧ mkZ4 y 1 ≤ 18000000) ∧ (0 ≤ mkZ5 y 1 ∧ mkZ5 y 1 ≤ 24000000)) := hz
 clear o o0 hS hB ba hz
 go_enter Tryz.func13, Tryz.ntmps13
 go_wp2_with fail
 generalize w.alloc (oQ4 a1 y.pn c1 a2 y.sn c2 a3 y.wn c3 a4 y.hn c4) = wA at *
 refine (markInsSS_own _ _ y.pn up y.pL y.pH 1 wA HS.out.p.1 HS.out.p.2 (by omega) (by omega) OA.out.p).mono ?_
 rintro e w1 ⟨rfl, q1, t1⟩
 have K1 : Hid (∀ i, i ≠ 1 → ∀ k, Cl B (rcol c w.heap.size 0) i k → k < wA.heap.size → w1.heap[k]? = wA.heap[k]?) := fun i hi k hk hl => t1.block k hl fun h => hi (hk.2.symm.trans h.2)
 have F1 : Hid (LI w1 (Cl B (rcol c w.heap.size 0) 1) (.slice a1 y.pn c1) y.pn up y.pL (mkY y 1).pH ∧ LS w1 (Cl B (rcol c w.heap.size 0) 2) (.slice a2 y.sn c2) y.sn us y.sS ∧ LT w1 (Cl B (rcol c w.heap.size 0) 3) (.slice a3 y.wn c3) y.wn uw y.wL y.wH ∧ LE w1 (Cl B (rcol c w.heap.size 0) 4) (.slice a4 y.hn c4) y.hn uh y.hL y.hH) := ⟨q1, OA.out.s.keep (K1.out 2 (by decide)), OA.out.t.keep (K1.out 3 (by decide)), OA.out.h.keep (K1.out 4 (by decide))⟩
 have hm1 : w1.heap[w.heap.size]? = wA.heap[w.heap.size]? := t1.block _ (World.block_lt_of_cell? _ _ NA.out.1) fun h => Nat.lt_irrefl _ (HM.out 1 _ h (by decide))
 have G1 : Hid (Below B w w1 ∧ BoxC w1 w.heap.size (.slice a1 y.pn c1) (.slice a2 y.sn c2) (.slice a3 y.wn c3) (.slice a4 y.hn c4)) := ⟨BA.out.trans (t1.below (Nat.le_trans HB.out (Nat.le_of_lt (World.block_lt_of_cell? _ _ NA.out.1))) fun k h => h.1), ⟨(World.cell?_of_block hm1).trans NA.out.1, (World.cell?_of_block hm1).trans NA.out.2.1, (World.cell?_of_block hm1).trans NA.out.2.2.1, (World.cell?_of_block hm1).trans NA.out.2.2.2⟩⟩
 clear hm1
 rw [show (1 : Int) + 5 * (sumL y.pL y.pn : Nat) = mkZ2 y 1 from rfl]
 clear t1 q1 OA NA BA K1
 obtain ⟨-, p0, p1, p2, p3⟩ := G1.out
 go_wp2_with fail
 clear p0 p1 p2 p3
 refine (markStateS_own _ _ y.sn us y.sS (mkZ2 y 1) w1 HS.out.s.1 HS.out.s.2 HZ.out.1.1 (by have := HZ.out; omega) F1.out.2.1).mono ?_
 rintro e w2 ⟨rfl, ⟨ts, q2⟩, t2⟩
 have K2 : Hid (∀ i, i ≠ 2 → ∀ k, Cl B (rcol c w.heap.size 0) i k → k < w1.heap.size → w2.heap[k]? = w1.heap[k]?) := fun i hi k hk hl => t2.block k hl fun h => hi (hk.2.symm.trans h.2)
 have F2 : Hid (LI w2 (Cl B (rcol c w.heap.size 0) 1) (.slice a1 y.pn c1) y.pn up y.pL (mkY y 1).pH ∧ LS w2 (Cl B (rcol c w.heap.size 0) 2) (.slice a2 y.sn c2) y.sn ts (mkY y 1).sS ∧ LT w2 (Cl B (rcol c w.heap.size 0) 3) (.slice a3 y.wn c3) y.wn uw y.wL y.wH ∧ LE w2 (Cl B (rcol c w.heap.size 0) 4) (.slice a4 y.hn c4) y.hn uh y.hL y.hH) := ⟨F1.out.1.keep (K2.out 1 (by decide)), q2, F1.out.2.2.1.keep (K2.out 3 (by decide)), F1.out.2.2.2.keep (K2.out 4 (by decide))⟩
 have hm2 : w2.heap[w.heap.size]? = w1.heap[w.heap.size]? := t2.block _ (World.block_lt_of_cell? _ _ G1.out.2.1) fun h => Nat.lt_irrefl _ (HM.out 2 _ h (by decide))
 have G2 : Hid (Below B w w2 ∧ BoxC w2 w.heap.size (.slice a1 y.pn c1) (.slice a2 y.sn c2) (.slice a3 y.wn c3) (.slice a4 y.hn c4)) := ⟨G1.out.1.trans (t2.below (Nat.le_trans HB.out (Nat.le_of_lt (World.block_lt_of_cell? _ _ G1.out.2.1))) fun k h => h.1), ⟨(World.cell?_of_block hm2).trans G1.out.2.1, (World.cell?_of_block hm2).trans G1.out.2.2.1, (World.cell?_of_block hm2).trans G1.out.2.2.2.1, (World.cell?_of_block hm2).trans G1.out.2.2.2.2⟩⟩
 clear hm2
 rw [show mkZ2 y 1 + (2 * y.sn + sumL (lenS y.sS) y.sn : Nat) = mkZ3 y 1 from rfl]
 clear t2 q2 F1 G1 K2
 obtain ⟨-, p0, p1, p2, p3⟩ := G2.out
 go_wp2_with fail
 clear p0 p1 p2 p3
 refine (markItemSS_own _ _ y.wn uw y.wL y.wH (mkZ3 y 1) w2 HS.out.w.1 HS.out.w.2 HZ.out.2.1.1 (by have := HZ.out; omega) F2.out.2.2.1).mono ?_
 rintro e w3 ⟨rfl, q3, t3⟩
 have K3 : Hid (∀ i, i ≠ 3 → ∀ k, Cl B (rcol c w.heap.size 0) i k → k < w2.heap.size → w3.heap[k]? = w2.heap[k]?) := fun i hi k hk hl => t3.block k hl fun h => hi (hk.2.symm.trans h.2)
 have F3 : Hid (LI w3 (Cl B (rcol c w.heap.size 0) 1) (.slice a1 y.pn c1) y.pn up y.pL (mkY y 1).pH ∧ LS w3 (Cl B (rcol c w.heap.size 0) 2) (.slice a2 y.sn c2) y.sn ts (mkY y 1).sS ∧ LT w3 (Cl B (rcol c w.heap.size 0) 3) (.slice a3 y.wn c3) y.wn uw y.wL (mkY y 1).wH ∧ LE w3 (Cl B (rcol c w.heap.size 0) 4) (.slice a4 y.hn c4) y.hn uh y.hL y.hH) := ⟨F2.out.1.keep (K3.out 1 (by decide)), F2.out.2.1.keep (K3.out 2 (by decide)), q3, F2.out.2.2.2.keep (K3.out 4 (by decide))⟩
 have hm3 : w3.heap[w.heap.size]? = w2.heap[w.heap.size]? := t3.block _ (World.block_lt_of_cell? _ _ G2.out.2.1) fun h => Nat.lt_irrefl _ (HM.out 3 _ h (by decide))
 have G3 : Hid (Below B w w3 ∧ BoxC w3 w.heap.size (.slice a1 y.pn c1) (.slice a2 y.sn c2) (.slice a3 y.wn c3) (.slice a4 y.hn c4)) := ⟨G2.out.1.trans (t3.below (Nat.le_trans HB.out (Nat.le_of_lt (World.block_lt_of_cell? _ _ G2.out.2.1))) fun k h => h.1), ⟨(World.cell?_of_block hm3).trans G2.out.2.1, (World.cell?_of_block hm3).trans G2.out.2.2.1, (World.cell?_of_block hm3).trans G2.out.2.2.2.1, (World.cell?_of_block hm3).trans G2.out.2.2.2.2⟩⟩
 clear hm3
 rw [show mkZ3 y 1 + 2 * (sumL y.wL y.wn : Nat) = mkZ4 y 1 from rfl]
 clear t3 q3 F2 G2 K3
 obtain ⟨-, p0, p1, p2, p3⟩ := G3.out
 go_wp2_with fail
 clear p0 p1 p2 p3
 refine (markEventSS_own _ _ y.hn uh y.hL y.hH (mkZ4 y 1) w3 HS.out.h.1 HS.out.h.2 HZ.out.2.2.1.1 (by have := HZ.out; omega) F3.out.2.2.2).mono ?_
 rintro e w4 ⟨rfl, q4, t4⟩
 have K4 : Hid (∀ i, i ≠ 4 → ∀ k, Cl B (rcol c w.heap.size 0) i k → k < w3.heap.size → w4.heap[k]? = w3.heap[k]?) := fun i hi k hk hl => t4.block k hl fun h => hi (hk.2.symm.trans h.2)
 have F4 : Hid (OwnSys w4 B (mkY y 1) (sysV a1 y.pn c1 a2 y.sn c2 a3 y.wn c3 a4 y.hn c4)) := ⟨_, _, _, _, _, up, ts, uw, uh, rfl, F3.out.1.keep (K4.out 1 (by decide)), F3.out.2.1.keep (K4.out 2 (by decide)), F3.out.2.2.1.keep (K4.out 3 (by decide)), q4⟩
 have hm4 : w4.heap[w.heap.size]? = w3.heap[w.heap.size]? := t4.block _ (World.block_lt_of_cell? _ _ G3.out.2.1) fun h => Nat.lt_irrefl _ (HM.out 4 _ h (by decide))
 have G4 : Hid (Below B w w4 ∧ BoxC w4 w.heap.size (.slice a1 y.pn c1) (.slice a2 y.sn c2) (.slice a3 y.wn c3) (.slice a4 y.hn c4)) := ⟨G3.out.1.trans (t4.below (Nat.le_trans HB.out (Nat.le_of_lt (World.block_lt_of_cell? _ _ G3.out.2.1))) fun k h => h.1), ⟨(World.cell?_of_block hm4).trans G3.out.2.1, (World.cell?_of_block hm4).trans G3.out.2.2.1, (World.cell?_of_block hm4).trans G3.out.2.2.2.1, (World.cell?_of_block hm4).trans G3.out.2.2.2.2⟩⟩
 clear hm4
 rw [show mkZ4 y 1 + 3 * (sumL y.hL y.hn : Nat) = mkZ5 y 1 from rfl]
 clear t4 q4 F3 G3 K4
 go_wp2
 go_ret
 exact ⟨rfl, F4.out, G4.out.1⟩
theorem heldSys_own (y : Sy) (B : Nat) (v : Value) (w : World) (hS : y.Sums) (o : OwnSys w B (mkY y 1) v) :
  Calls Tryz.prog 14 #[v, .int .i64 1] w fun e w' => e = .returned (.int .i64 (mkZ5 y 1)) ∧ Below w.heap.size w w' := by
 obtain ⟨c, vp, vs, vw, vh, up, us, uw, uh, rfl, o⟩ := o
 obtain ⟨a1, c1, rfl⟩ := ownsRow_slice o.p.row
 obtain ⟨a2, c2, rfl⟩ := ownsRow_slice o.s.row
 obtain ⟨a3, c3, rfl⟩ := ownsRow_slice o.t.row
 obtain ⟨a4, c4, rfl⟩ := ownsRow_slice o.h.row
 have HS : Hid y.Sums := hS
 have O : Hid (LI w (Cl B c 1) (.slice a1 y.pn c1) y.pn up y.pL (mkY y 1).pH ∧ LS w (Cl B c 2) (.slice a2 y.sn c2) y.sn us (mkY y 1).sS ∧ LT w (Cl B c 3) (.slice a3 y.wn c3) y.wn uw y.wL (mkY y 1).wH ∧ LE w (Cl B c 4) (.slice a4 y.hn c4) y.hn uh y.hL (mkY y 1).hH) := ⟨o.p, o.s, o.t, o.h⟩
 have BA : Hid (Below w.heap.size w (w.alloc (oQ4 a1 y.pn c1 a2 y.sn c2 a3 y.wn c3 a4 y.hn c4))) := below_allocL _ _
 have NA : Hid (BoxC (w.alloc (oQ4 a1 y.pn c1 a2 y.sn c2 a3 y.wn c3 a4 y.hn c4)) w.heap.size (.slice a1 y.pn c1) (.slice a2 y.sn c2) (.slice a3 y.wn c3) (.slice a4 y.hn c4)) := BoxC.new w _ _ _ _ _
 have hz := mkZ_bd hS
 have HZ : Hid ((0 ≤ mkZ2 y 1 ∧ mkZ2 y 1 ≤ 6000000) ∧ (0 ≤ mkZ3 y 1 ∧ mkZ3 y 1 ≤ 12000000) ∧ (0 ≤ mkZ4 y 1 ∧ mkZ4 y 1 ≤ 18000000) ∧ (0 ≤ mkZ5 y 1 ∧ mkZ5 y 1 ≤ 24000000)) := hz
 have z2 : ¬ mkZ2 y 1 < 0 := by omega
 have z3 : ¬ mkZ3 y 1 < 0 := by omega
 have z4 : ¬ mkZ4 y 1 < 0 := by omega
 have z5 : ¬ mkZ5 y 1 < 0 := by omega
 clear o hS hz
 change Calls Tryz.prog 14 #[sysV a1 y.pn c1 a2 y.sn c2 a3 y.wn c3 a4 y.hn c4, .int .i64 1] w _
 go_enter Tryz.func14, Tryz.ntmps14
 go_wp2_with fail
 generalize w.alloc (oQ4 a1 y.pn c1 a2 y.sn c2 a3 y.wn c3 a4 y.hn c4) = wA at *
 refine (heldInsSS_own _ _ y.pn up y.pL 1 wA HS.out.p.1 HS.out.p.2 (by omega) (by omega) (O.out.1.below BA.out)).mono ?_
 rintro e w1 ⟨rfl, b1⟩
 have F1 : Hid (Below w.heap.size w w1 ∧ BoxC w1 w.heap.size (.slice a1 y.pn c1) (.slice a2 y.sn c2) (.slice a3 y.wn c3) (.slice a4 y.hn c4)) := ⟨BA.out.trans (b1.mono BA.out.size), NA.out.below b1⟩
 rw [show (1 : Int) + 5 * (sumL y.pL y.pn : Nat) = mkZ2 y 1 from rfl]
 clear b1 BA NA
 obtain ⟨-, p0, p1, p2, p3⟩ := F1.out
 go_wp2_with fail
 clear p0 p1 p2 p3
 refine (heldStateS_own _ _ y.sn us y.sS (mkZ2 y 1) w1 HS.out.s.1 HS.out.s.2 HZ.out.1.1 (by have := HZ.out; omega) (O.out.2.1.below F1.out.1)).mono ?_
 rintro e w2 ⟨rfl, b2⟩
 have F2 : Hid (Below w.heap.size w w2 ∧ BoxC w2 w.heap.size (.slice a1 y.pn c1) (.slice a2 y.sn c2) (.slice a3 y.wn c3) (.slice a4 y.hn c4)) := ⟨F1.out.1.trans (b2.mono F1.out.1.size), F1.out.2.below b2⟩
 rw [show mkZ2 y 1 + (2 * y.sn + sumL (lenS y.sS) y.sn : Nat) = mkZ3 y 1 from rfl]
 clear b2 F1
 obtain ⟨-, p0, p1, p2, p3⟩ := F2.out
 go_wp2_with fail
 clear p0 p1 p2 p3
 refine (heldItemSS_own _ _ y.wn uw y.wL (mkZ3 y 1) w2 HS.out.w.1 HS.out.w.2 HZ.out.2.1.1 (by have := HZ.out; omega) (O.out.2.2.1.below F2.out.1)).mono ?_
 rintro e w3 ⟨rfl, b3⟩
 have F3 : Hid (Below w.heap.size w w3 ∧ BoxC w3 w.heap.size (.slice a1 y.pn c1) (.slice a2 y.sn c2) (.slice a3 y.wn c3) (.slice a4 y.hn c4)) := ⟨F2.out.1.trans (b3.mono F2.out.1.size), F2.out.2.below b3⟩
 rw [show mkZ3 y 1 + 2 * (sumL y.wL y.wn : Nat) = mkZ4 y 1 from rfl]
 clear b3 F2
 obtain ⟨-, p0, p1, p2, p3⟩ := F3.out
 go_wp2_with fail
 clear p0 p1 p2 p3
 refine (heldEventSS_own _ _ y.hn uh y.hL (mkZ4 y 1) w3 HS.out.h.1 HS.out.h.2 HZ.out.2.2.1.1 (by have := HZ.out; omega) (O.out.2.2.2.below F3.out.1)).mono ?_
 rintro e w4 ⟨rfl, b4⟩
 have F4 : Hid (Below w.heap.size w w4) := F3.out.1.trans (b4.mono F3.out.1.size)
 rw [show mkZ4 y 1 + 3 * (sumL y.hL y.hn : Nat) = mkZ5 y 1 from rfl]
 clear b4 F3
 go_wp2
 go_ret
 exact ⟨rfl, F4.out⟩
open Go.Sort
def tkC (x : SysIn) (p : Nat) (f : Int) : Int := if belB f x.pn = true then (if x.wL (f.toNat * x.pn + p) = 0 then 3 else if (x.wH (f.toNat * x.pn + p) 0).m = true then 5 else 0) else 2
def tkV (x : SysIn) (p : Nat) (f : Int) : Value := if tkC x p f = 0 then evV 3 f (x.wH (f.toNat * x.pn + p) 0).v else evV 0 0 0
theorem takeOf_any (x : SysIn) (p : Nat) (f : Int) (w : World) (hG : SysG w x) (hL : x.Len) (hp : p < x.pn) (h4 : x.pn ≤ 4) (hw : x.wn = x.pn * x.pn) :
  Calls Tryz.prog 97 #[x.v, .int .i64 p, .int .i64 f] w fun e w' => e = .returned (.tuple #[tkV x p f, .int .i64 (tkC x p f)]) ∧ Below w.heap.size w w' := by
 have HG : Hid (SysG w x) := hG
 rcases Bool.eq_false_or_eq_true (belB f x.pn) with t1 | t1
 case inr =>
  have HN : Hid (tkC x p f = 2 ∧ tkV x p f = evV 0 0 0) := by
   have : tkC x p f = 2 := by simp [tkC, t1]
   exact ⟨this, by simp [tkV, this]⟩
  rw [HN.out.1, HN.out.2]
  go_enter Tryz.func97, Tryz.ntmps97
  go_wp2_with fail
  refine (isBelow_any _ _ _).mono ?_
  rintro e w1 ⟨rfl, rfl⟩
  rw [t1]
  go_wp2
  exact bodyPost_ret (v := .tuple #[evV 0 0 0, .int .i64 2]) (by simp [results, Tryz.results97, go_sem]) rfl ⟨rfl, by go_grown⟩
 obtain ⟨q, rfl, hq⟩ : ∃ q : Nat, f = (q : Int) ∧ q < x.pn := by
  simp only [belB, decide_eq_true_eq] at t1
  exact ⟨f.toNat, by omega, by omega⟩
 have hJ : q * x.pn + p < x.wn := by
  rw [hw]
  have : (q + 1) * x.pn ≤ x.pn * x.pn := Nat.mul_le_mul_right _ (by omega)
  rw [Nat.add_mul] at this
  omega
 have HI : Hid (ItL w (x.wA (q * x.pn + p)) (x.wL (q * x.pn + p)) (x.wH (q * x.pn + p)) ∧ x.wL (q * x.pn + p) ≤ 1048576) := ⟨hG.wi _ hJ, hL.w.2 _ hJ⟩
 have HWq : Hid (∀ wx, Below w.heap.size w wx → Calls Tryz.prog 103 #[x.v, .int .i64 q, .int .i64 p] wx fun e w' => e = .returned (.agg #[.slice (x.wA (q * x.pn + p)) (x.wL (q * x.pn + p)) (x.wC (q * x.pn + p)), .int .i64 12]) ∧ Below wx.heap.size wx w') := fun wx hb => wayQueue_any x q p wx (HG.out.below hb) (by omega) (by omega) h4 hJ
 have HT : Hid (tkC x p q = (if x.wL (q * x.pn + p) = 0 then 3 else if (x.wH (q * x.pn + p) 0).m = true then 5 else 0) ∧ tkV x p q = if tkC x p q = 0 then evV 3 q (x.wH (q * x.pn + p) 0).v else evV 0 0 0) := by
  refine ⟨?_, rfl⟩
  show tkC x p q = _
  unfold tkC
  rw [if_pos t1]
  rfl
 generalize tkV x p q = V at *
 generalize tkC x p q = C at *
 generalize q * x.pn + p = J at *
 have BW : Hid (Below w.heap.size w ((w.alloc (oQ4 x.pa x.pn x.pc x.sa x.sn x.sc x.wa x.wn x.wc x.ha x.hn x.hc)).alloc (zQ5))) := (below_alloc _ _).trans ((below_alloc _ _).mono (by simp))
 have RX : Hid (Ev3 ((w.alloc (oQ4 x.pa x.pn x.pc x.sa x.sn x.sc x.wa x.wn x.wc x.ha x.hn x.hc)).alloc (zQ5)) (w.heap.size + 1)) := ⟨⟨_, new_cell _ _ _ 0 (by simp)⟩, ⟨_, new_cell _ _ _ 1 (by simp)⟩, ⟨_, new_cell _ _ _ 2 (by simp)⟩, fun j => new_frozen _ _ _ _ (by simp)⟩
 clear hG hL hw hJ
 go_enter Tryz.func97, Tryz.ntmps97
 go_wp2_with fail
 refine (isBelow_any _ _ _).mono ?_
 rintro e w1 ⟨rfl, rfl⟩
 rw [t1]
 go_wp2_with fail
 generalize (w.alloc (oQ4 x.pa x.pn x.pc x.sa x.sn x.sc x.wa x.wn x.wc x.ha x.hn x.hc)).alloc (zQ5) = W2 at *
 refine (HWq.out W2 BW.out).mono ?_
 rintro e w3 ⟨rfl, b3⟩
 have B3 : Hid (Below w.heap.size w w3 ∧ Ev3 w3 (w.heap.size + 1)) := ⟨BW.out.trans (b3.mono BW.out.size), RX.out.below b3⟩
 clear b3
 go_wp2_with fail
 refine (first_any (x.wA J) (x.wL J) _ 12 (x.wH J) w3 HI.out.2 (HI.out.1.below B3.out.1)).mono ?_
 rintro e w4 ⟨rfl, b4⟩
 have B4 : Hid (Below w.heap.size w w4 ∧ Ev3 w4 (w.heap.size + 1)) := ⟨B3.out.1.trans (b4.mono B3.out.1.size), B3.out.2.below b4⟩
 clear b4 B3
 obtain ⟨⟨v0, r0⟩, ⟨v1, r1⟩, ⟨v2, r2⟩, rf⟩ := B4.out.2
 have hS : ∀ (a b c : Value), Below w.heap.size w (((w4.setCell ⟨w.heap.size + 1, 0, none⟩ a).setCell ⟨w.heap.size + 1, 1, none⟩ b).setCell ⟨w.heap.size + 1, 2, none⟩ c) := fun a b c => ((B4.out.1.setCell (Nat.le_succ _) _).setCell (Nat.le_succ _) _).setCell (Nat.le_succ _) _
 have HS : Hid (∀ (o : Obj) (a b c : Value), Below w.heap.size w ((((w4.setCell ⟨w.heap.size + 1, 0, none⟩ a).setCell ⟨w.heap.size + 1, 1, none⟩ b).setCell ⟨w.heap.size + 1, 2, none⟩ c).alloc o)) := fun o a b c => (hS a b c).trans ((below_alloc _ _).mono (hS a b c).size)
 have z4 : w.heap.size + 1 < w4.heap.size := World.block_lt_of_cell? w4 _ r0
 clear hS
 by_cases h0 : x.wL J = 0
 ·have HV : Hid (C = 3 ∧ V = evV 0 0 0) := by
   have h1 : C = 3 := by rw [HT.out.1, if_pos h0]
   exact ⟨h1, by rw [HT.out.2, if_neg (by rw [h1]; decide)]⟩
  rw [if_pos h0, show decide (x.wL J ≠ 0) = false from decide_eq_false (by omega)]
  clear h0
  go_wp2
  exact bodyPost_ret (v := .tuple #[evV 0 0 0, .int .i64 3]) (by simp [results, Tryz.results97, go_sem, r0, r1, r2, z4]) rfl ⟨by rw [HV.out.1, HV.out.2], HS.out _ _ _ _⟩
 rw [if_neg h0, show decide (x.wL J ≠ 0) = true from decide_eq_true h0]
 rcases Bool.eq_false_or_eq_true (x.wH J 0).m with hm | hm
 ·have HV : Hid (C = 5 ∧ V = evV 0 0 0) := by
   have h1 : C = 5 := by rw [HT.out.1, if_neg h0, if_pos hm]
   exact ⟨h1, by rw [HT.out.2, if_neg (by rw [h1]; decide)]⟩
  rw [hm]
  clear h0
  go_wp2
  exact bodyPost_ret (v := .tuple #[evV 0 0 0, .int .i64 5]) (by simp [results, Tryz.results97, go_sem, r0, r1, r2, z4]) rfl ⟨by rw [HV.out.1, HV.out.2], HS.out _ _ _ _⟩
 ·have HV : Hid (C = 0 ∧ V = evV 3 q (x.wH J 0).v) := by
   have h1 : C = 0 := by rw [HT.out.1, if_neg h0, if_neg (by rw [hm]; decide)]
   exact ⟨h1, by rw [HT.out.2, if_pos h1]⟩
  rw [hm]
  clear h0
  go_wp2
  exact bodyPost_ret (v := .tuple #[evV 3 q (x.wH J 0).v, .int .i64 0]) (by simp [results, Tryz.results97, go_sem, r0, r1, r2, z4]) rfl ⟨by rw [HV.out.1, HV.out.2], HS.out _ _ _ _⟩
def fuB (x : SysIn) (p : Nat) (k q : Int) : Bool := decide (200 ≤ x.hL p) || (k == 2 && decide (12 ≤ x.wL (p * x.pn + q.toNat)))
theorem isFullFor_any (x : SysIn) (p : Nat) (k q v : Int) (w : World) (hG : SysG w x) (hp : p < x.pn) (h4 : x.pn ≤ 4) (hh : x.hn = x.pn) (hw : x.wn = x.pn * x.pn) (hq : k = 2 → 0 ≤ q ∧ q < x.pn) :
  Calls Tryz.prog 99 #[x.v, .int .i64 p, evV k q v] w fun e w' => e = .returned (.bool (fuB x p k q)) ∧ Below w.heap.size w w' := by
 have HG : Hid (SysG w x) := hG
 have HEq : Hid (∀ wx, Below w.heap.size w wx → Calls Tryz.prog 101 #[x.v, .int .i64 p] wx fun e w' => e = .returned (.agg #[.slice (x.hA p) (x.hL p) (x.hC p), .int .i64 200]) ∧ Below wx.heap.size wx w') := fun wx hb => eventQueue_any x p wx (HG.out.below hb) (by omega)
 have NB : Hid (BoxC ((w.alloc (oQ4 x.pa x.pn x.pc x.sa x.sn x.sc x.wa x.wn x.wc x.ha x.hn x.hc)).alloc (oQ1 k q v)) w.heap.size (.slice x.pa x.pn x.pc) (.slice x.sa x.sn x.sc) (.slice x.wa x.wn x.wc) (.slice x.ha x.hn x.hc)) := (BoxC.new w _ _ _ _ _).below (below_alloc _ _)
 have NE : Hid (((w.alloc (oQ4 x.pa x.pn x.pc x.sa x.sn x.sc x.wa x.wn x.wc x.ha x.hn x.hc)).alloc (oQ1 k q v)).cell? ⟨w.heap.size + 1, 0, none⟩ = some (.int .i64 k) ∧ ((w.alloc (oQ4 x.pa x.pn x.pc x.sa x.sn x.sc x.wa x.wn x.wc x.ha x.hn x.hc)).alloc (oQ1 k q v)).cell? ⟨w.heap.size + 1, 1, none⟩ = some (.int .i64 q)) := ⟨new_cell _ _ _ 0 (by simp), new_cell _ _ _ 1 (by simp)⟩
 have BW : Hid (Below w.heap.size w ((w.alloc (oQ4 x.pa x.pn x.pc x.sa x.sn x.sc x.wa x.wn x.wc x.ha x.hn x.hc)).alloc (oQ1 k q v))) := (below_alloc _ _).trans ((below_alloc _ _).mono (by simp))
 have HW2 : Hid (x.wn = x.pn * x.pn) := hw
 clear hG hh hw
 go_enter Tryz.func99, Tryz.ntmps99
 go_wp2_with fail
 generalize (w.alloc (oQ4 x.pa x.pn x.pc x.sa x.sn x.sc x.wa x.wn x.wc x.ha x.hn x.hc)).alloc (oQ1 k q v) = W2 at *
 refine (HEq.out W2 BW.out).mono ?_
 rintro e w3 ⟨rfl, b3⟩
 have F3 : Hid (Below w.heap.size w w3 ∧ Below W2.heap.size W2 w3) := ⟨BW.out.trans (b3.mono BW.out.size), b3⟩
 clear b3
 go_wp2_with fail
 refine (isFullEvent_any _ _ _ _ w3).mono ?_
 rintro e w4 ⟨rfl, b4⟩
 have F4 : Hid (Below w.heap.size w w4 ∧ Below W2.heap.size W2 w4) := ⟨F3.out.1.trans (b4.mono F3.out.1.size), F3.out.2.trans (b4.mono F3.out.2.size)⟩
 clear b4 F3
 by_cases h200 : (200 : Int) ≤ (x.hL p : Int)
 ·have HN : Hid (fuB x p k q = true) := by
   show fuB x p k q = true
   simp [fuB, show 200 ≤ x.hL p by omega]
  rw [decide_eq_true h200]
  clear h200
  go_wp2
  go_ret
  rw [HN.out]
  exact ⟨rfl, F4.out.1⟩
 rw [decide_eq_false h200]
 have HN0 : Hid (fuB x p k q = (k == 2 && decide (12 ≤ x.wL (p * x.pn + q.toNat)))) := by
  show fuB x p k q = _
  simp [fuB, show ¬ 200 ≤ x.hL p by omega]
 have e0 := (F4.out.2.cell (p := ⟨w.heap.size + 1, 0, none⟩) (World.block_lt_of_cell? W2 _ NE.out.1)).trans NE.out.1
 have e1 := (F4.out.2.cell (p := ⟨w.heap.size + 1, 1, none⟩) (World.block_lt_of_cell? W2 _ NE.out.2)).trans NE.out.2
 clear h200
 rcases Bool.eq_false_or_eq_true (k == 2) with t2 | t2
 ·have hk2 : k = 2 := by simpa using t2
  obtain ⟨j, rfl, hj⟩ : ∃ j : Nat, q = (j : Int) ∧ j < x.pn := by
   have := hq hk2
   exact ⟨q.toNat, by omega, by omega⟩
  have hJ : p * x.pn + j < x.wn := by
   rw [HW2.out]
   have : (p + 1) * x.pn ≤ x.pn * x.pn := Nat.mul_le_mul_right _ (by omega)
   rw [Nat.add_mul] at this
   omega
  have HWq : Hid (∀ wx, Below w.heap.size w wx → Calls Tryz.prog 103 #[x.v, .int .i64 p, .int .i64 j] wx fun e w' => e = .returned (.agg #[.slice (x.wA (p * x.pn + j)) (x.wL (p * x.pn + j)) (x.wC (p * x.pn + j)), .int .i64 12]) ∧ Below wx.heap.size wx w') := fun wx hb => wayQueue_any x p j wx (HG.out.below hb) (by omega) (by omega) h4 hJ
  have HN : Hid (fuB x p k j = decide ((12 : Int) ≤ (x.wL (p * x.pn + j) : Int))) := by
   show fuB x p k j = _
   rw [HN0.out, t2, Bool.true_and]
   have : (j : Int).toNat = j := by omega
   rw [this]
   by_cases h : 12 ≤ x.wL (p * x.pn + j)
   ·rw [decide_eq_true h, decide_eq_true (by omega)]
   ·rw [decide_eq_false h, decide_eq_false (by omega)]
  rw [hk2] at e0
  generalize p * x.pn + j = J at *
  obtain ⟨k0, k1, k2, k3⟩ := NB.out.below F4.out.2
  clear hk2 t2 HN0 hq
  go_wp2_with fail
  refine (HWq.out w4 F4.out.1).mono ?_
  rintro e w5 ⟨rfl, b5⟩
  have F5 : Hid (Below w.heap.size w w5) := F4.out.1.trans (b5.mono F4.out.1.size)
  clear b5 k0 k1 k2 k3 e0 e1
  go_wp2_with fail
  refine (isFullItem_any _ _ _ _ w5).mono ?_
  rintro e w6 ⟨rfl, b6⟩
  have F6 : Hid (Below w.heap.size w w6) := F5.out.trans (b6.mono F5.out.size)
  clear b6
  go_wp2
  go_ret
  rw [HN.out]
  exact ⟨rfl, F6.out⟩
 ·have HN : Hid (fuB x p k q = false) := by
   show fuB x p k q = false
   rw [HN0.out, t2, Bool.false_and]
  clear HN0 hq
  go_wp2
  go_ret
  rw [HN.out]
  exact ⟨rfl, F4.out.1⟩
end Go.Proofs.YtdigofhceahpdaaGreatDoor
