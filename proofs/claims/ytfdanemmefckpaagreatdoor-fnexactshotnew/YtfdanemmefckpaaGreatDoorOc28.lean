/- Proved: called with whatever system, the program's ShotNew answers as the model's ShotNew, field by field; it writes into no argument, and its answer owns its memory. One condition, tied to the program's text: errors.errorType holds what its text lays. -/
import Derived.Test.YtfdanemmefckpaaGreatDoorOc0
import Derived.Test.YtfdanemmefckpaaGreatDoorOc26
import Derived.Test.YtfdanemmefckpaaGreatDoorOc27
import Derived.Test.YtfdanemmefckpaaGreatDoorOc19
import Derived.Test.YtfdanemmefckpaaGreatDoorOc18
import Derived.Test.YtfdanemmefckpaaGreatDoorOc20
import Derived.Test.YtfdanemmefckpaaGreatDoorOc22
import Derived.Test.YtfdanemmefckpaaGreatDoorOc23
import Derived.Test.YtfdanemmefckpaaGreatDoorOc11
import Derived.Test.YtfdanemmefckpaaGreatDoorCards
import Derived.SevenTiedAt
namespace Go.Proofs.YtfdanemmefckpaaGreatDoor
set_option maxRecDepth 100000
set_option maxHeartbeats 8000000
open Go.ChangeShapes Go.WideShapes Go.ChangeAt Go.RowKit Go.Deep
theorem BoxC.blkO {w w' : World} {N : Nat} {p vr vo code : Value} (h : BoxC w N p vr vo code) (hb : w'.heap[N]? = w.heap[N]?) : BoxC w' N p vr vo code := by
 obtain ⟨h0, h1, h2, h3⟩ := h
 exact ⟨(World.cell?_of_block hb).trans h0, (World.cell?_of_block hb).trans h1, (World.cell?_of_block hb).trans h2, (World.cell?_of_block hb).trans h3⟩
theorem OwnS.recolO {z : Bool} {w : World} {B : Nat} {c : Nat → Nat} {y : Sy} {vp vs vw vh : Value} {up us uw uh : Nat → Value} (o : OwnS z w B c y vp vs vw vh up us uw uh) (q : Nat) : OwnS z w B (rcol c w.heap.size q) y vp vs vw vh up us uw uh :=
 ⟨o.p.mono fun _ h hl => h.old hl, o.s.mono fun _ h hl => h.old hl, o.t.mono fun _ h hl => h.old hl, o.h.mono fun _ h hl => h.old hl⟩
def TCl (B : Nat) (c : Nat → Nat) (m : Nat) (b : Nat) : Prop := B ≤ b ∧ 1 ≤ c b ∧ c b ≤ m
structure OwnSh (w : World) (B : Nat) (c : Nat → Nat) (q : Sh) (vc vo vk : Value) (uk : Nat → Value) : Prop where
 ic : w.ownsRow 0 3 1 vc q.cn (fZ q.cH q.cn)
 io : OwnQ w 0 vo q.ol q.oH
 ik : LN false w (Cl B c 7) vk q.kn uk q.kL q.kH
 cb : ∀ k, vc.ownBlock = some k → Cl B c 5 k
 ob : ∀ k, vo.ownBlock = some k → Cl B c 6 k
theorem OwnSh.keep {w w' : World} {B : Nat} {c : Nat → Nat} {q : Sh} {vc vo vk : Value} {uk : Nat → Value} (o : OwnSh w B c q vc vo vk uk) (hb : ∀ k, B ≤ k → 5 ≤ c k → c k ≤ 7 → k < w.heap.size → w'.heap[k]? = w.heap[k]?) : OwnSh w' B c q vc vo vk uk :=
 ⟨ownsRow_blkL o.ic fun k hk => hb k (o.cb k hk).1 (by rw [(o.cb k hk).2]; decide) (by rw [(o.cb k hk).2]; decide) (o.ic.lt k hk).2, ownsRow_blkL o.io fun k hk => hb k (o.ob k hk).1 (by rw [(o.ob k hk).2]; decide) (by rw [(o.ob k hk).2]; decide) (o.io.lt k hk).2, o.ik.keep fun k hk hl => hb k hk.1 (by rw [hk.2]; decide) (by rw [hk.2]; decide) hl, o.cb, o.ob⟩
theorem OwnSh.below {w w' : World} {B : Nat} {c : Nat → Nat} {q : Sh} {vc vo vk : Value} {uk : Nat → Value} (o : OwnSh w B c q vc vo vk uk) (hb : Below w.heap.size w w') : OwnSh w' B c q vc vo vk uk := o.keep fun k _ _ _ hl => hb.block k hl
theorem OwnSh.recol {w : World} {B : Nat} {c : Nat → Nat} {q : Sh} {vc vo vk : Value} {uk : Nat → Value} (o : OwnSh w B c q vc vo vk uk) : OwnSh w B (rcol c w.heap.size 0) q vc vo vk uk :=
 ⟨o.ic, o.io, o.ik.mono fun _ h hl => h.old hl, fun k hk => (o.cb k hk).old (o.ic.lt k hk).2, fun k hk => (o.ob k hk).old (o.io.lt k hk).2⟩
def mkSh (q : Sh) (k : Int) : Sh := { q with cH := mkN k, oH := mkBo (k + q.cn), kH := fun i => mkN (k + q.cn + q.ol + (sumL q.kL i : Nat)) }
def shZ (q : Sh) (k : Int) : Int := k + q.cn + q.ol + (sumL q.kL q.kn : Nat)
structure Sh.Sums (q : Sh) : Prop where
 c : q.cn ≤ 1048576
 o : q.ol ≤ 1048576
 k : q.kn ≤ 1048576
 l : sumL q.kL q.kn ≤ 1048576
theorem markSys_c (y : Sy) (B : Nat) (c : Nat → Nat) (vp vs vw vh : Value) (up us uw uh : Nat → Value) (w : World) (hS : y.Sums) (o : OwnS false w B c y vp vs vw vh up us uw uh) :
  Calls Tryz.prog 13 #[.agg #[vp, vs, vw, vh], .int .i64 1] w fun e w' => e = .returned (.int .i64 (mkZ5 y 1)) ∧ (∃ ts, OwnS false w' B (rcol c w.heap.size 0) (mkY y 1) vp vs vw vh up ts uw uh) ∧ Touch (TCl B (rcol c w.heap.size 0) 4) w w' := by
 have HC : Hid (∀ i, (1 ≤ i ∧ i ≤ 4) → ∀ b, Cl B (rcol c w.heap.size 0) i b → TCl B (rcol c w.heap.size 0) 4 b) := fun i hi b hb => ⟨hb.1, by rw [hb.2]; exact hi⟩
 obtain ⟨a1, c1, rfl⟩ := ownsRow_slice o.p.row
 obtain ⟨a2, c2, rfl⟩ := ownsRow_slice o.s.row
 obtain ⟨a3, c3, rfl⟩ := ownsRow_slice o.t.row
 obtain ⟨a4, c4, rfl⟩ := ownsRow_slice o.h.row
 have HS : Hid y.Sums := hS
 have ba := below_allocL w (oQ4 a1 y.pn c1 a2 y.sn c2 a3 y.wn c3 a4 y.hn c4)
 have o0 : OwnS false w B (rcol c w.heap.size 0) y (.slice a1 y.pn c1) (.slice a2 y.sn c2) (.slice a3 y.wn c3) (.slice a4 y.hn c4) up us uw uh := ⟨o.p.mono fun _ h hl => h.old hl, o.s.mono fun _ h hl => h.old hl, o.t.mono fun _ h hl => h.old hl, o.h.mono fun _ h hl => h.old hl⟩
 have OA : Hid (OwnS false (w.alloc (oQ4 a1 y.pn c1 a2 y.sn c2 a3 y.wn c3 a4 y.hn c4)) B (rcol c w.heap.size 0) y (.slice a1 y.pn c1) (.slice a2 y.sn c2) (.slice a3 y.wn c3) (.slice a4 y.hn c4) up us uw uh) := ⟨o0.p.below ba, o0.s.below ba, o0.t.below ba, o0.h.below ba⟩
 have NA : Hid (BoxC (w.alloc (oQ4 a1 y.pn c1 a2 y.sn c2 a3 y.wn c3 a4 y.hn c4)) w.heap.size (.slice a1 y.pn c1) (.slice a2 y.sn c2) (.slice a3 y.wn c3) (.slice a4 y.hn c4)) := BoxC.new w _ _ _ _ _
 have BA : Hid (Touch (TCl B (rcol c w.heap.size 0) 4) w (w.alloc (oQ4 a1 y.pn c1 a2 y.sn c2 a3 y.wn c3 a4 y.hn c4))) := Touch.of_below ba
 have HM : Hid (∀ i k, Cl B (rcol c w.heap.size 0) i k → i ≠ 0 → k < w.heap.size) := fun i k h hi => by
  rcases Nat.lt_or_ge k w.heap.size with h1 | h1
  ·exact h1
  ·exact absurd (h.2.symm.trans (rcol_new h1)) hi
 have hz := mkZ_bd hS
 have HZ : Hid ((0 ≤ mkZ2 y 1 ∧ mkZ2 y 1 ≤ 6000000) ∧ (0 ≤ mkZ3 y 1 ∧ mkZ3 y 1 ≤ 12000000) ∧ (0 ≤ mkZ4 y 1 ∧ mkZ4 y 1 ≤ 18000000) ∧ (0 ≤ mkZ5 y 1 ∧ mkZ5 y 1 ≤ 24000000)) := hz
 clear o o0 hS ba hz
 go_enter Tryz.func13, Tryz.ntmps13
 go_wp2_with fail
 generalize w.alloc (oQ4 a1 y.pn c1 a2 y.sn c2 a3 y.wn c3 a4 y.hn c4) = wA at *
 refine (markInsSS_own _ _ y.pn up y.pL y.pH 1 wA HS.out.p.1 HS.out.p.2 (by omega) (by omega) (LI.strong OA.out.p)).mono ?_
 rintro e w1 ⟨rfl, q1, t1⟩
 have K1 : Hid (∀ i, i ≠ 1 → ∀ k, Cl B (rcol c w.heap.size 0) i k → k < wA.heap.size → w1.heap[k]? = wA.heap[k]?) := fun i hi k hk hl => t1.block k hl fun h => hi (hk.2.symm.trans h.2)
 have F1 : Hid (LI false w1 (Cl B (rcol c w.heap.size 0) 1) (.slice a1 y.pn c1) y.pn up y.pL (mkY y 1).pH ∧ LS w1 (Cl B (rcol c w.heap.size 0) 2) (.slice a2 y.sn c2) y.sn us y.sS ∧ LT false w1 (Cl B (rcol c w.heap.size 0) 3) (.slice a3 y.wn c3) y.wn uw y.wL y.wH ∧ LE false w1 (Cl B (rcol c w.heap.size 0) 4) (.slice a4 y.hn c4) y.hn uh y.hL y.hH) := ⟨LI.weak q1, OA.out.s.keep (K1.out 2 (by decide)), OA.out.t.keep (K1.out 3 (by decide)), OA.out.h.keep (K1.out 4 (by decide))⟩
 have hm1 : w1.heap[w.heap.size]? = wA.heap[w.heap.size]? := t1.block _ (World.block_lt_of_cell? _ _ NA.out.1) fun h => Nat.lt_irrefl _ (HM.out 1 _ h (by decide))
 have G1 : Hid (Touch (TCl B (rcol c w.heap.size 0) 4) w w1 ∧ BoxC w1 w.heap.size (.slice a1 y.pn c1) (.slice a2 y.sn c2) (.slice a3 y.wn c3) (.slice a4 y.hn c4)) := ⟨BA.out.trans (t1.mono (HC.out 1 (by decide))), ⟨(World.cell?_of_block hm1).trans NA.out.1, (World.cell?_of_block hm1).trans NA.out.2.1, (World.cell?_of_block hm1).trans NA.out.2.2.1, (World.cell?_of_block hm1).trans NA.out.2.2.2⟩⟩
 clear hm1
 rw [show (1 : Int) + 5 * (sumL y.pL y.pn : Nat) = mkZ2 y 1 from rfl]
 clear t1 q1 OA NA BA K1
 obtain ⟨-, p0, p1, p2, p3⟩ := G1.out
 go_wp2_with fail
 clear p0 p1 p2 p3
 refine (markStateS_own _ _ y.sn us y.sS (mkZ2 y 1) w1 HS.out.s.1 HS.out.s.2 HZ.out.1.1 (by have := HZ.out; omega) F1.out.2.1).mono ?_
 rintro e w2 ⟨rfl, ⟨ts, q2⟩, t2⟩
 have K2 : Hid (∀ i, i ≠ 2 → ∀ k, Cl B (rcol c w.heap.size 0) i k → k < w1.heap.size → w2.heap[k]? = w1.heap[k]?) := fun i hi k hk hl => t2.block k hl fun h => hi (hk.2.symm.trans h.2)
 have F2 : Hid (LI false w2 (Cl B (rcol c w.heap.size 0) 1) (.slice a1 y.pn c1) y.pn up y.pL (mkY y 1).pH ∧ LS w2 (Cl B (rcol c w.heap.size 0) 2) (.slice a2 y.sn c2) y.sn ts (mkY y 1).sS ∧ LT false w2 (Cl B (rcol c w.heap.size 0) 3) (.slice a3 y.wn c3) y.wn uw y.wL y.wH ∧ LE false w2 (Cl B (rcol c w.heap.size 0) 4) (.slice a4 y.hn c4) y.hn uh y.hL y.hH) := ⟨F1.out.1.keep (K2.out 1 (by decide)), q2, F1.out.2.2.1.keep (K2.out 3 (by decide)), F1.out.2.2.2.keep (K2.out 4 (by decide))⟩
 have hm2 : w2.heap[w.heap.size]? = w1.heap[w.heap.size]? := t2.block _ (World.block_lt_of_cell? _ _ G1.out.2.1) fun h => Nat.lt_irrefl _ (HM.out 2 _ h (by decide))
 have G2 : Hid (Touch (TCl B (rcol c w.heap.size 0) 4) w w2 ∧ BoxC w2 w.heap.size (.slice a1 y.pn c1) (.slice a2 y.sn c2) (.slice a3 y.wn c3) (.slice a4 y.hn c4)) := ⟨G1.out.1.trans (t2.mono (HC.out 2 (by decide))), ⟨(World.cell?_of_block hm2).trans G1.out.2.1, (World.cell?_of_block hm2).trans G1.out.2.2.1, (World.cell?_of_block hm2).trans G1.out.2.2.2.1, (World.cell?_of_block hm2).trans G1.out.2.2.2.2⟩⟩
 clear hm2
 rw [show mkZ2 y 1 + (2 * y.sn + sumL (lenS y.sS) y.sn : Nat) = mkZ3 y 1 from rfl]
 clear t2 q2 F1 G1 K2
 obtain ⟨-, p0, p1, p2, p3⟩ := G2.out
 go_wp2_with fail
 clear p0 p1 p2 p3
 refine (markItemSS_z _ _ y.wn uw y.wL y.wH (mkZ3 y 1) w2 HS.out.w.1 HS.out.w.2 HZ.out.2.1.1 (by have := HZ.out; omega) F2.out.2.2.1).mono ?_
 rintro e w3 ⟨rfl, q3, t3⟩
 have K3 : Hid (∀ i, i ≠ 3 → ∀ k, Cl B (rcol c w.heap.size 0) i k → k < w2.heap.size → w3.heap[k]? = w2.heap[k]?) := fun i hi k hk hl => t3.block k hl fun h => hi (hk.2.symm.trans h.2)
 have F3 : Hid (LI false w3 (Cl B (rcol c w.heap.size 0) 1) (.slice a1 y.pn c1) y.pn up y.pL (mkY y 1).pH ∧ LS w3 (Cl B (rcol c w.heap.size 0) 2) (.slice a2 y.sn c2) y.sn ts (mkY y 1).sS ∧ LT false w3 (Cl B (rcol c w.heap.size 0) 3) (.slice a3 y.wn c3) y.wn uw y.wL (mkY y 1).wH ∧ LE false w3 (Cl B (rcol c w.heap.size 0) 4) (.slice a4 y.hn c4) y.hn uh y.hL y.hH) := ⟨F2.out.1.keep (K3.out 1 (by decide)), F2.out.2.1.keep (K3.out 2 (by decide)), q3, F2.out.2.2.2.keep (K3.out 4 (by decide))⟩
 have hm3 : w3.heap[w.heap.size]? = w2.heap[w.heap.size]? := t3.block _ (World.block_lt_of_cell? _ _ G2.out.2.1) fun h => Nat.lt_irrefl _ (HM.out 3 _ h (by decide))
 have G3 : Hid (Touch (TCl B (rcol c w.heap.size 0) 4) w w3 ∧ BoxC w3 w.heap.size (.slice a1 y.pn c1) (.slice a2 y.sn c2) (.slice a3 y.wn c3) (.slice a4 y.hn c4)) := ⟨G2.out.1.trans (t3.mono (HC.out 3 (by decide))), ⟨(World.cell?_of_block hm3).trans G2.out.2.1, (World.cell?_of_block hm3).trans G2.out.2.2.1, (World.cell?_of_block hm3).trans G2.out.2.2.2.1, (World.cell?_of_block hm3).trans G2.out.2.2.2.2⟩⟩
 clear hm3
 rw [show mkZ3 y 1 + 2 * (sumL y.wL y.wn : Nat) = mkZ4 y 1 from rfl]
 clear t3 q3 F2 G2 K3
 obtain ⟨-, p0, p1, p2, p3⟩ := G3.out
 go_wp2_with fail
 clear p0 p1 p2 p3
 refine (markEventSS_z _ _ y.hn uh y.hL y.hH (mkZ4 y 1) w3 HS.out.h.1 HS.out.h.2 HZ.out.2.2.1.1 (by have := HZ.out; omega) F3.out.2.2.2).mono ?_
 rintro e w4 ⟨rfl, q4, t4⟩
 have K4 : Hid (∀ i, i ≠ 4 → ∀ k, Cl B (rcol c w.heap.size 0) i k → k < w3.heap.size → w4.heap[k]? = w3.heap[k]?) := fun i hi k hk hl => t4.block k hl fun h => hi (hk.2.symm.trans h.2)
 have F4 : Hid (∃ ts, OwnS false w4 B (rcol c w.heap.size 0) (mkY y 1) (.slice a1 y.pn c1) (.slice a2 y.sn c2) (.slice a3 y.wn c3) (.slice a4 y.hn c4) up ts uw uh) := ⟨ts, ⟨F3.out.1.keep (K4.out 1 (by decide)), F3.out.2.1.keep (K4.out 2 (by decide)), F3.out.2.2.1.keep (K4.out 3 (by decide)), q4⟩⟩
 have hm4 : w4.heap[w.heap.size]? = w3.heap[w.heap.size]? := t4.block _ (World.block_lt_of_cell? _ _ G3.out.2.1) fun h => Nat.lt_irrefl _ (HM.out 4 _ h (by decide))
 have G4 : Hid (Touch (TCl B (rcol c w.heap.size 0) 4) w w4 ∧ BoxC w4 w.heap.size (.slice a1 y.pn c1) (.slice a2 y.sn c2) (.slice a3 y.wn c3) (.slice a4 y.hn c4)) := ⟨G3.out.1.trans (t4.mono (HC.out 4 (by decide))), ⟨(World.cell?_of_block hm4).trans G3.out.2.1, (World.cell?_of_block hm4).trans G3.out.2.2.1, (World.cell?_of_block hm4).trans G3.out.2.2.2.1, (World.cell?_of_block hm4).trans G3.out.2.2.2.2⟩⟩
 clear hm4
 rw [show mkZ4 y 1 + 3 * (sumL y.hL y.hn : Nat) = mkZ5 y 1 from rfl]
 clear t4 q4 F3 G3 K4
 go_wp2
 go_ret
 exact ⟨rfl, F4.out, G4.out.1⟩
theorem eqShot_z {q : Sh} {B1 B2 : Nat} {e1 e2 : Nat → Nat} {vc vo vk wc wo wk : Value} {uk xk : Nat → Value} {w : World} (hs : q.Sums) (o1 : OwnSh w B1 e1 q vc vo vk uk) (o2 : OwnSh w B2 e2 q wc wo wk xk) :
  Calls Tryz.prog 37 #[.agg #[.bool q.on, vc, vo, vk], .agg #[.bool q.on, wc, wo, wk]] w fun e w' => e = .returned (.bool true) ∧ Below w.heap.size w w' := by
 obtain ⟨a1, m1, rfl⟩ := ownsRow_slice o1.ic
 obtain ⟨a2, m2, rfl⟩ := ownsRow_slice o1.io
 obtain ⟨a3, m3, rfl⟩ := ownsRow_slice o1.ik.row
 obtain ⟨b1, n1, rfl⟩ := ownsRow_slice o2.ic
 obtain ⟨b2, n2, rfl⟩ := ownsRow_slice o2.io
 obtain ⟨b3, n3, rfl⟩ := ownsRow_slice o2.ik.row
 have HS : Hid q.Sums := hs
 have P : Hid (OwnSh w B1 e1 q (.slice a1 q.cn m1) (.slice a2 q.ol m2) (.slice a3 q.kn m3) uk) := o1
 have Q : Hid (OwnSh w B2 e2 q (.slice b1 q.cn n1) (.slice b2 q.ol n2) (.slice b3 q.kn n3) xk) := o2
 have hon : (q.on != q.on) = false := by simp
 clear o1 o2 hs
 go_enter Tryz.func37, Tryz.ntmps37
 have X0 : Hid (B44 w ((w.alloc (.cells #[.bool q.on, .slice a1 q.cn m1, .slice a2 q.ol m2, .slice a3 q.kn m3] 39)).alloc (.cells #[.bool q.on, .slice b1 q.cn n1, .slice b2 q.ol n2, .slice b3 q.kn n3] 39)) (.bool q.on) (.slice a1 q.cn m1) (.slice a2 q.ol m2) (.slice a3 q.kn m3) (.bool q.on) (.slice b1 q.cn n1) (.slice b2 q.ol n2) (.slice b3 q.kn n3)) := B44.new _ _ _ _ _ _ _ _ _ _
 obtain ⟨⟨p0, p1, p2, p3⟩, ⟨q0, q1, q2, q3⟩, -, le⟩ := X0.out
 go_wp2_with fail
 clear p0 p1 p2 p3 q0 q1 q2 q3 le
 generalize (w.alloc (.cells #[.bool q.on, .slice a1 q.cn m1, .slice a2 q.ol m2, .slice a3 q.kn m3] 39)).alloc (.cells #[.bool q.on, .slice b1 q.cn n1, .slice b2 q.ol n2, .slice b3 q.kn n3] 39) = wA at *
 refine (eqIntS_z HS.out.c (P.out.below X0.out.be).ic (Q.out.below X0.out.be).ic).mono ?_
 rintro e w1 ⟨rfl, b1'⟩
 have X1 : Hid (B44 w w1 (.bool q.on) (.slice a1 q.cn m1) (.slice a2 q.ol m2) (.slice a3 q.kn m3) (.bool q.on) (.slice b1 q.cn n1) (.slice b2 q.ol n2) (.slice b3 q.kn n3)) := X0.out.below b1'
 clear b1' X0
 obtain ⟨⟨p0, p1, p2, p3⟩, ⟨q0, q1, q2, q3⟩, -, le⟩ := X1.out
 go_wp2_with fail
 clear p0 p1 p2 p3 q0 q1 q2 q3 le
 refine (eqBoolS_z HS.out.o (P.out.below X1.out.be).io (Q.out.below X1.out.be).io).mono ?_
 rintro e w2 ⟨rfl, b2'⟩
 have X2 : Hid (B44 w w2 (.bool q.on) (.slice a1 q.cn m1) (.slice a2 q.ol m2) (.slice a3 q.kn m3) (.bool q.on) (.slice b1 q.cn n1) (.slice b2 q.ol n2) (.slice b3 q.kn n3)) := X1.out.below b2'
 clear b2' X1
 obtain ⟨⟨p0, p1, p2, p3⟩, ⟨q0, q1, q2, q3⟩, -, le⟩ := X2.out
 go_wp2_with fail
 clear p0 p1 p2 p3 q0 q1 q2 q3 le
 refine (eqIntSS_z _ _ _ _ q.kn uk xk q.kL q.kH w2 HS.out.k (sum_le HS.out.l) (P.out.below X2.out.be).ik (Q.out.below X2.out.be).ik).mono ?_
 rintro e w3 ⟨rfl, b3'⟩
 have BE : Hid (Below w.heap.size w w3) := (X2.out.below b3').be
 clear X2 b3'
 go_wp2
 go_ret
 exact ⟨rfl, BE.out⟩
theorem markShot_z {q : Sh} {B : Nat} {c : Nat → Nat} {vc vo vk : Value} {uk : Nat → Value} {w : World} (k : Int) (hs : q.Sums) (k0 : 0 ≤ k) (k1 : k ≤ 30000000) (o : OwnSh w B c q vc vo vk uk) :
  Calls Tryz.prog 46 #[.agg #[.bool q.on, vc, vo, vk], .int .i64 k] w fun e w' => e = .returned (.int .i64 (shZ q k)) ∧ OwnSh w' B (rcol c w.heap.size 0) (mkSh q k) vc vo vk uk ∧ Touch (fun b => B ≤ b ∧ 5 ≤ rcol c w.heap.size 0 b) w w' := by
 obtain ⟨a1, m1, rfl⟩ := ownsRow_slice o.ic
 obtain ⟨a2, m2, rfl⟩ := ownsRow_slice o.io
 obtain ⟨a3, m3, rfl⟩ := ownsRow_slice o.ik.row
 have HS : Hid q.Sums := hs
 obtain ⟨C, hC⟩ : ∃ C, rcol c w.heap.size 0 = C := ⟨_, rfl⟩
 have o' := o.recol
 have hm0 : rcol c w.heap.size 0 w.heap.size = 0 := rcol_new (Nat.le_refl _)
 rw [hC] at o' hm0 ⊢
 have OA : Hid (OwnSh (w.alloc (.cells #[.bool q.on, .slice a1 q.cn m1, .slice a2 q.ol m2, .slice a3 q.kn m3] 39)) B C q (.slice a1 q.cn m1) (.slice a2 q.ol m2) (.slice a3 q.kn m3) uk) := o'.below (below_allocS _ _)
 have HM : Hid (C w.heap.size = 0) := hm0
 have X0 : Hid (Touch (fun b => B ≤ b ∧ 5 ≤ C b) w (w.alloc (.cells #[.bool q.on, .slice a1 q.cn m1, .slice a2 q.ol m2, .slice a3 q.kn m3] 39)) ∧ BoxC (w.alloc (.cells #[.bool q.on, .slice a1 q.cn m1, .slice a2 q.ol m2, .slice a3 q.kn m3] 39)) w.heap.size (.bool q.on) (.slice a1 q.cn m1) (.slice a2 q.ol m2) (.slice a3 q.kn m3)) := ⟨Touch.of_below (below_allocS _ _), BoxC.new w _ _ _ _ _⟩
 clear o hs o' hm0 hC
 go_enter Tryz.func46, Tryz.ntmps46
 go_wp2_with fail
 generalize w.alloc (.cells #[.bool q.on, .slice a1 q.cn m1, .slice a2 q.ol m2, .slice a3 q.kn m3] 39) = wA at *
 refine (markIntS_z _ q.cn 0 q.cH k wA HS.out.c k0 (by omega) OA.out.ic).mono ?_
 rintro e w1 ⟨rfl, g1, o1⟩
 have t1 : Touch (fun b => C b = 5 ∧ B ≤ b) wA w1 := Touch.of_grown g1 fun b e => ⟨(OA.out.cb b e).2, (OA.out.cb b e).1⟩
 have hm1 : w1.heap[w.heap.size]? = wA.heap[w.heap.size]? := t1.block _ (World.block_lt_of_cell? _ _ X0.out.2.1) fun h => by have := HM.out; omega
 have X1 : Hid (Touch (fun b => B ≤ b ∧ 5 ≤ C b) w w1 ∧ BoxC w1 w.heap.size (.bool q.on) (.slice a1 q.cn m1) (.slice a2 q.ol m2) (.slice a3 q.kn m3)) := ⟨X0.out.1.trans (t1.mono fun b hb => ⟨hb.2, by omega⟩), X0.out.2.blkO hm1⟩
 have O1 : Hid (w1.ownsRow 0 3 1 (.slice a1 q.cn m1) q.cn (fZ (mkN k) q.cn) ∧ OwnQ w1 0 (.slice a2 q.ol m2) q.ol q.oH ∧ LN false w1 (Cl B C 7) (.slice a3 q.kn m3) q.kn uk q.kL q.kH ∧ (∀ k, (Value.slice a1 q.cn m1).ownBlock = some k → Cl B C 5 k) ∧ ∀ k, (Value.slice a2 q.ol m2).ownBlock = some k → Cl B C 6 k) := ⟨o1, ownsRow_blkL OA.out.io fun k hk => t1.block k (OA.out.io.lt k hk).2 (fun h => by have := (OA.out.ob k hk).2; omega), OA.out.ik.keep fun k hk hl => t1.block k hl (fun h => by have := hk.2; omega), OA.out.cb, OA.out.ob⟩
 clear t1 g1 o1 hm1 X0 OA
 have hK1 : 0 ≤ k + (q.cn : Int) ∧ k + (q.cn : Int) ≤ 40000000 := by have := HS.out.c; omega
 have HK1 : Hid (0 ≤ k + (q.cn : Int) ∧ k + (q.cn : Int) ≤ 40000000) := hK1
 clear hK1
 obtain ⟨-, p0, p1, p2, p3⟩ := X1.out
 go_wp2_with fail
 clear p0 p1 p2 p3
 refine (markBoolS_z _ q.ol 0 q.oH (k + q.cn) w1 HS.out.o HK1.out.1 (by have := HK1.out; omega) O1.out.2.1).mono ?_
 rintro e w2 ⟨rfl, g2, o2⟩
 have t2 : Touch (fun b => C b = 6 ∧ B ≤ b) w1 w2 := Touch.of_grown g2 fun b e => ⟨(O1.out.2.2.2.2 b e).2, (O1.out.2.2.2.2 b e).1⟩
 have hm2 : w2.heap[w.heap.size]? = w1.heap[w.heap.size]? := t2.block _ (World.block_lt_of_cell? _ _ X1.out.2.1) fun h => by have := HM.out; omega
 have X2 : Hid (Touch (fun b => B ≤ b ∧ 5 ≤ C b) w w2 ∧ BoxC w2 w.heap.size (.bool q.on) (.slice a1 q.cn m1) (.slice a2 q.ol m2) (.slice a3 q.kn m3)) := ⟨X1.out.1.trans (t2.mono fun b hb => ⟨hb.2, by omega⟩), X1.out.2.blkO hm2⟩
 have O2 : Hid (w2.ownsRow 0 3 1 (.slice a1 q.cn m1) q.cn (fZ (mkN k) q.cn) ∧ OwnQ w2 0 (.slice a2 q.ol m2) q.ol (mkBo (k + q.cn)) ∧ LN false w2 (Cl B C 7) (.slice a3 q.kn m3) q.kn uk q.kL q.kH ∧ (∀ k, (Value.slice a1 q.cn m1).ownBlock = some k → Cl B C 5 k) ∧ ∀ k, (Value.slice a2 q.ol m2).ownBlock = some k → Cl B C 6 k) := ⟨ownsRow_blkL O1.out.1 fun k hk => t2.block k (O1.out.1.lt k hk).2 (fun h => by have := (O1.out.2.2.2.1 k hk).2; omega), o2, O1.out.2.2.1.keep fun k hk hl => t2.block k hl (fun h => by have := hk.2; omega), O1.out.2.2.2⟩
 clear t2 g2 o2 hm2 X1 O1
 have hK2 : 0 ≤ k + (q.cn : Int) + (q.ol : Int) ∧ k + (q.cn : Int) + (q.ol : Int) ≤ 45000000 := by have := HS.out.o; have := HK1.out; omega
 have HK2 : Hid (0 ≤ k + (q.cn : Int) + (q.ol : Int) ∧ k + (q.cn : Int) + (q.ol : Int) ≤ 45000000) := hK2
 clear hK2 HK1
 obtain ⟨-, p0, p1, p2, p3⟩ := X2.out
 go_wp2_with fail
 clear p0 p1 p2 p3
 refine (markIntSS_z _ _ q.kn uk q.kL q.kH (k + q.cn + q.ol) w2 HS.out.k HS.out.l HK2.out.1 (by have := HK2.out; omega) O2.out.2.2.1).mono ?_
 rintro e w3 ⟨rfl, o3, t3⟩
 have X3 : Hid (Touch (fun b => B ≤ b ∧ 5 ≤ C b) w w3) := X2.out.1.trans (t3.mono fun b hb => ⟨hb.1, by have := hb.2; omega⟩)
 have O3 : Hid (OwnSh w3 B C (mkSh q k) (.slice a1 q.cn m1) (.slice a2 q.ol m2) (.slice a3 q.kn m3) uk) := ⟨ownsRow_blkL O2.out.1 fun k hk => t3.block k (O2.out.1.lt k hk).2 (fun h => by have := (O2.out.2.2.2.1 k hk).2; have := h.2; omega), ownsRow_blkL O2.out.2.1 fun k hk => t3.block k (O2.out.2.1.lt k hk).2 (fun h => by have := (O2.out.2.2.2.2 k hk).2; have := h.2; omega), o3, O2.out.2.2.2.1, O2.out.2.2.2.2⟩
 rw [show k + (q.cn : Int) + (q.ol : Int) + (sumL q.kL q.kn : Nat) = shZ q k from rfl]
 clear t3 o3 X2 O2 HK2
 go_wp2
 go_ret
 exact ⟨rfl, O3.out, X3.out⟩
theorem heldShot_z {q : Sh} {B : Nat} {c : Nat → Nat} {vc vo vk : Value} {uk : Nat → Value} {w : World} (k : Int) (hs : q.Sums) (k0 : 0 ≤ k) (k1 : k ≤ 30000000) (o : OwnSh w B c (mkSh q k) vc vo vk uk) :
  Calls Tryz.prog 48 #[.agg #[.bool q.on, vc, vo, vk], .int .i64 k] w fun e w' => e = .returned (.int .i64 (shZ q k)) ∧ Below w.heap.size w w' := by
 obtain ⟨a1, m1, e1⟩ := ownsRow_slice o.ic
 obtain ⟨a2, m2, e2⟩ := ownsRow_slice o.io
 obtain ⟨a3, m3, e3⟩ := ownsRow_slice o.ik.row
 have e1 : vc = .slice a1 q.cn m1 := e1
 have e2 : vo = .slice a2 q.ol m2 := e2
 have e3 : vk = .slice a3 q.kn m3 := e3
 subst e1 e2 e3
 have HS : Hid q.Sums := hs
 have OC : Hid (w.ownsRow 0 3 1 (.slice a1 q.cn m1) q.cn (fZ (mkN k) q.cn)) := o.ic
 have OO : Hid (OwnQ w 0 (.slice a2 q.ol m2) q.ol (mkBo (k + q.cn))) := o.io
 have OK : Hid (LN false w (Cl B c 7) (.slice a3 q.kn m3) q.kn uk q.kL (fun i => mkN (k + q.cn + q.ol + (sumL q.kL i : Nat)))) := o.ik
 have X0 : Hid (Below w.heap.size w (w.alloc (.cells #[.bool q.on, .slice a1 q.cn m1, .slice a2 q.ol m2, .slice a3 q.kn m3] 39)) ∧ BoxC (w.alloc (.cells #[.bool q.on, .slice a1 q.cn m1, .slice a2 q.ol m2, .slice a3 q.kn m3] 39)) w.heap.size (.bool q.on) (.slice a1 q.cn m1) (.slice a2 q.ol m2) (.slice a3 q.kn m3)) := ⟨below_allocS _ _, BoxC.new w _ _ _ _ _⟩
 have hK1 : (0 ≤ k + (q.cn : Int) ∧ k + (q.cn : Int) ≤ 40000000) ∧ (0 ≤ k + (q.cn : Int) + (q.ol : Int) ∧ k + (q.cn : Int) + (q.ol : Int) ≤ 45000000) ∧ 0 ≤ shZ q k := by
  have := hs.c
  have := hs.o
  unfold shZ
  omega
 have HK1 : Hid ((0 ≤ k + (q.cn : Int) ∧ k + (q.cn : Int) ≤ 40000000) ∧ (0 ≤ k + (q.cn : Int) + (q.ol : Int) ∧ k + (q.cn : Int) + (q.ol : Int) ≤ 45000000) ∧ 0 ≤ shZ q k) := hK1
 have hz1 : ¬ k + (q.cn : Int) < 0 := by omega
 have hz2 : ¬ k + (q.cn : Int) + (q.ol : Int) < 0 := by omega
 have hz3 : ¬ shZ q k < 0 := by omega
 clear hK1 o hs
 go_enter Tryz.func48, Tryz.ntmps48
 go_wp2_with fail
 generalize w.alloc (.cells #[.bool q.on, .slice a1 q.cn m1, .slice a2 q.ol m2, .slice a3 q.kn m3] 39) = wA at *
 refine (heldIntS_z _ q.cn 0 k wA HS.out.c k0 (by omega) (ownsRow_blkL OC.out fun b hb => X0.out.1.block b (OC.out.lt b hb).2)).mono ?_
 rintro e w1 ⟨rfl, b1⟩
 have X1 : Hid (Below w.heap.size w w1 ∧ BoxC w1 w.heap.size (.bool q.on) (.slice a1 q.cn m1) (.slice a2 q.ol m2) (.slice a3 q.kn m3)) := ⟨X0.out.1.trans (b1.mono X0.out.1.size), X0.out.2.below b1⟩
 clear b1 X0
 obtain ⟨-, p0, p1, p2, p3⟩ := X1.out
 go_wp2_with fail
 clear p0 p1 p2 p3
 refine (heldBoolS_z _ q.ol 0 (k + q.cn) w1 HS.out.o HK1.out.1.1 (by have := HK1.out.1; omega) (ownsRow_blkL OO.out fun b hb => X1.out.1.block b (OO.out.lt b hb).2)).mono ?_
 rintro e w2 ⟨rfl, b2⟩
 have X2 : Hid (Below w.heap.size w w2 ∧ BoxC w2 w.heap.size (.bool q.on) (.slice a1 q.cn m1) (.slice a2 q.ol m2) (.slice a3 q.kn m3)) := ⟨X1.out.1.trans (b2.mono X1.out.1.size), X1.out.2.below b2⟩
 clear b2 X1
 obtain ⟨-, p0, p1, p2, p3⟩ := X2.out
 go_wp2_with fail
 clear p0 p1 p2 p3
 refine (heldIntSS_z _ _ q.kn uk q.kL (k + q.cn + q.ol) w2 HS.out.k HS.out.l HK1.out.2.1.1 (by have := HK1.out.2.1; omega) (OK.out.below X2.out.1)).mono ?_
 rintro e w3 ⟨rfl, b3⟩
 have X3 : Hid (Below w.heap.size w w3) := X2.out.1.trans (b3.mono X2.out.1.size)
 rw [show k + (q.cn : Int) + (q.ol : Int) + (sumL q.kL q.kn : Nat) = shZ q k from rfl]
 clear b3 X2
 go_wp2
 go_ret
 exact ⟨rfl, X3.out⟩
theorem rcol_twice (c : Nat → Nat) {n m : Nat} (h : n ≤ m) : rcol (rcol c n 0) m 0 = rcol c n 0 := funext fun b => by
 unfold rcol
 by_cases h1 : b < m
 ·rw [if_pos h1]
 ·rw [if_neg h1, if_neg (by omega)]
def OwnLv (w : World) (B : Nat) (y : Sy) (q : Sh) (v : Value) : Prop := ∃ c vp vs vw vh up us uw uh vc vo vk uk, v = .agg #[vp, vs, vw, vh, .bool q.on, vc, vo, vk] ∧ OwnS false w B c y vp vs vw vh up us uw uh ∧ OwnSh w B c q vc vo vk uk
theorem OwnLv.below {w w' : World} {B : Nat} {y : Sy} {q : Sh} {v : Value} (o : OwnLv w B y q v) (hb : Below w.heap.size w w') : OwnLv w' B y q v := by
 obtain ⟨c, vp, vs, vw, vh, up, us, uw, uh, vc, vo, vk, uk, e, o, s⟩ := o
 exact ⟨c, vp, vs, vw, vh, up, us, uw, uh, vc, vo, vk, uk, e, o.below hb, s.below hb⟩
def OwnLz (w : World) (B T : Nat) (y : Sy) (q : Sh) (vp vs vw vh vc vo vk : Value) : Prop := ∃ c up us uw uh uk, OwnS false w B c y vp vs vw vh up us uw uh ∧ OwnSh w B c q vc vo vk uk ∧ ∀ b, T ≤ b → c b = 0
theorem OwnLz.lv {w : World} {B T : Nat} {y : Sy} {q : Sh} {vp vs vw vh vc vo vk : Value} (o : OwnLz w B T y q vp vs vw vh vc vo vk) : OwnLv w B y q (.agg #[vp, vs, vw, vh, .bool q.on, vc, vo, vk]) := by
 obtain ⟨c, up, us, uw, uh, uk, o, s, -⟩ := o
 exact ⟨c, vp, vs, vw, vh, up, us, uw, uh, vc, vo, vk, uk, rfl, o, s⟩
theorem OwnLz.of {w : World} {B : Nat} {y : Sy} {q : Sh} {v : Value} (o : OwnLv w B y q v) : ∃ a1 m1 a2 m2 a3 m3 a4 m4 a5 m5 a6 m6 a7 m7, v = .agg #[.slice a1 y.pn m1, .slice a2 y.sn m2, .slice a3 y.wn m3, .slice a4 y.hn m4, .bool q.on, .slice a5 q.cn m5, .slice a6 q.ol m6, .slice a7 q.kn m7] ∧ OwnLz w B w.heap.size y q (.slice a1 y.pn m1) (.slice a2 y.sn m2) (.slice a3 y.wn m3) (.slice a4 y.hn m4) (.slice a5 q.cn m5) (.slice a6 q.ol m6) (.slice a7 q.kn m7) := by
 obtain ⟨c, vp, vs, vw, vh, up, us, uw, uh, vc, vo, vk, uk, rfl, o, s⟩ := o
 obtain ⟨a1, m1, rfl⟩ := ownsRow_slice o.p.row
 obtain ⟨a2, m2, rfl⟩ := ownsRow_slice o.s.row
 obtain ⟨a3, m3, rfl⟩ := ownsRow_slice o.t.row
 obtain ⟨a4, m4, rfl⟩ := ownsRow_slice o.h.row
 obtain ⟨a5, m5, rfl⟩ := ownsRow_slice s.ic
 obtain ⟨a6, m6, rfl⟩ := ownsRow_slice s.io
 obtain ⟨a7, m7, rfl⟩ := ownsRow_slice s.ik.row
 exact ⟨a1, m1, a2, m2, a3, m3, a4, m4, a5, m5, a6, m6, a7, m7, rfl, _, up, us, uw, uh, uk, o.recolO 0, s.recol, fun b hb => rcol_new hb⟩
theorem OwnLz.below {w w' : World} {B T : Nat} {y : Sy} {q : Sh} {vp vs vw vh vc vo vk : Value} (o : OwnLz w B T y q vp vs vw vh vc vo vk) (hb : Below w.heap.size w w') : OwnLz w' B T y q vp vs vw vh vc vo vk := by
 obtain ⟨c, up, us, uw, uh, uk, o, s, h⟩ := o
 exact ⟨c, up, us, uw, uh, uk, o.below hb, s.below hb, h⟩
theorem OwnLz.touch {w w' : World} {B T : Nat} {y : Sy} {q : Sh} {vp vs vw vh vc vo vk : Value} {P : Nat → Prop} (o : OwnLz w B T y q vp vs vw vh vc vo vk) (ht : Touch P w w') (hp : ∀ b, P b → T ≤ b ∨ b < B) : OwnLz w' B T y q vp vs vw vh vc vo vk := by
 obtain ⟨c, up, us, uw, uh, uk, o, s, h⟩ := o
 have hk : ∀ k, B ≤ k → 1 ≤ c k → k < w.heap.size → w'.heap[k]? = w.heap[k]? := fun k hB h1 hl => ht.block k hl fun e => by
  rcases hp k e with h2 | h2
  ·have := h k h2
   omega
  ·omega
 have hi : ∀ i, 1 ≤ i → ∀ k, Cl B c i k → k < w.heap.size → w'.heap[k]? = w.heap[k]? := fun i hi k hk' hl => hk k hk'.1 (by rw [hk'.2]; exact hi) hl
 exact ⟨c, up, us, uw, uh, uk, ⟨o.p.keep (hi 1 (by decide)), o.s.keep (hi 2 (by decide)), o.t.keep (hi 3 (by decide)), o.h.keep (hi 4 (by decide))⟩, s.keep fun k h1 h2 _ hl => hk k h1 (by omega) hl, h⟩
theorem eqLive_z (y : Sy) (q : Sh) (B1 B2 : Nat) (v1 v2 : Value) (w : World) (hl : y.Len) (hs : q.Sums) (o1 : OwnLv w B1 y q v1) (o2 : OwnLv w B2 y q v2) :
  Calls Tryz.prog 11 #[v1, v2] w fun e w' => e = .returned (.bool true) ∧ Below w.heap.size w w' := by
 obtain ⟨a1, m1, a2, m2, a3, m3, a4, m4, a5, m5, a6, m6, a7, m7, rfl, z1⟩ := OwnLz.of o1
 obtain ⟨b1, n1, b2, n2, b3, n3, b4, n4, b5, n5, b6, n6, b7, n7, rfl, z2⟩ := OwnLz.of o2
 have HL : Hid (y.Len ∧ q.Sums) := ⟨hl, hs⟩
 obtain ⟨c, up, us, uw, uh, uk, s1, h1, -⟩ := z1
 obtain ⟨d, xp, xs, xw, xh, xk, s2, h2, -⟩ := z2
 have S1 : Hid (OwnSys false w B1 y (.agg #[.slice a1 y.pn m1, .slice a2 y.sn m2, .slice a3 y.wn m3, .slice a4 y.hn m4]) ∧ OwnSh w B1 c q (.slice a5 q.cn m5) (.slice a6 q.ol m6) (.slice a7 q.kn m7) uk) := ⟨⟨_, _, _, _, _, _, _, _, _, rfl, s1⟩, h1⟩
 have S2 : Hid (OwnSys false w B2 y (.agg #[.slice b1 y.pn n1, .slice b2 y.sn n2, .slice b3 y.wn n3, .slice b4 y.hn n4]) ∧ OwnSh w B2 d q (.slice b5 q.cn n5) (.slice b6 q.ol n6) (.slice b7 q.kn n7) xk) := ⟨⟨_, _, _, _, _, _, _, _, _, rfl, s2⟩, h2⟩
 clear s1 s2 h1 h2 o1 o2 hl hs
 go_enter Tryz.func11, Tryz.ntmps11
 have X0 : Hid (B88 w ((w.alloc (oQ5 a1 y.pn m1 a2 y.sn m2 a3 y.wn m3 a4 y.hn m4 q.on a5 q.cn m5 a6 q.ol m6 a7 q.kn m7)).alloc (oQ5 b1 y.pn n1 b2 y.sn n2 b3 y.wn n3 b4 y.hn n4 q.on b5 q.cn n5 b6 q.ol n6 b7 q.kn n7)) (v8 (.slice a1 y.pn m1) (.slice a2 y.sn m2) (.slice a3 y.wn m3) (.slice a4 y.hn m4) (.bool q.on) (.slice a5 q.cn m5) (.slice a6 q.ol m6) (.slice a7 q.kn m7)) (v8 (.slice b1 y.pn n1) (.slice b2 y.sn n2) (.slice b3 y.wn n3) (.slice b4 y.hn n4) (.bool q.on) (.slice b5 q.cn n5) (.slice b6 q.ol n6) (.slice b7 q.kn n7))) := B88.new _ _ _ _ _ _ _ _ _ _ _ _ _ _ _ _ _ _
 have p0 := X0.out.p 0 (by omega)
 have p1 := X0.out.p 1 (by omega)
 have p2 := X0.out.p 2 (by omega)
 have p3 := X0.out.p 3 (by omega)
 have q0 := X0.out.q 0 (by omega)
 have q1 := X0.out.q 1 (by omega)
 have q2 := X0.out.q 2 (by omega)
 have q3 := X0.out.q 3 (by omega)
 simp only [v8] at p0 p1 p2 p3 q0 q1 q2 q3
 go_wp2_with fail
 clear p0 p1 p2 p3 q0 q1 q2 q3
 generalize (w.alloc (oQ5 a1 y.pn m1 a2 y.sn m2 a3 y.wn m3 a4 y.hn m4 q.on a5 q.cn m5 a6 q.ol m6 a7 q.kn m7)).alloc (oQ5 b1 y.pn n1 b2 y.sn n2 b3 y.wn n3 b4 y.hn n4 q.on b5 q.cn n5 b6 q.ol n6 b7 q.kn n7) = wA at *
 refine (eqSys_z y B1 B2 _ _ wA HL.out.1 (S1.out.1.below X0.out.be) (S2.out.1.below X0.out.be)).mono ?_
 rintro e w1 ⟨rfl, c1⟩
 have X1 : Hid (B88 w w1 (v8 (.slice a1 y.pn m1) (.slice a2 y.sn m2) (.slice a3 y.wn m3) (.slice a4 y.hn m4) (.bool q.on) (.slice a5 q.cn m5) (.slice a6 q.ol m6) (.slice a7 q.kn m7)) (v8 (.slice b1 y.pn n1) (.slice b2 y.sn n2) (.slice b3 y.wn n3) (.slice b4 y.hn n4) (.bool q.on) (.slice b5 q.cn n5) (.slice b6 q.ol n6) (.slice b7 q.kn n7))) := X0.out.below c1
 clear c1 X0
 have p4 := X1.out.p 4 (by omega)
 have p5 := X1.out.p 5 (by omega)
 have p6 := X1.out.p 6 (by omega)
 have p7 := X1.out.p 7 (by omega)
 have q4 := X1.out.q 4 (by omega)
 have q5 := X1.out.q 5 (by omega)
 have q6 := X1.out.q 6 (by omega)
 have q7 := X1.out.q 7 (by omega)
 simp only [v8] at p4 p5 p6 p7 q4 q5 q6 q7
 go_wp2_with fail
 clear p4 p5 p6 p7 q4 q5 q6 q7
 refine (eqShot_z HL.out.2 (S1.out.2.below X1.out.be) (S2.out.2.below X1.out.be)).mono ?_
 rintro e w2 ⟨rfl, c2⟩
 have BE : Hid (Below w.heap.size w w2) := X1.out.be.trans (c2.mono X1.out.be.size)
 clear c2 X1
 go_wp2
 go_ret
 exact ⟨rfl, BE.out⟩
theorem markLive_z (y : Sy) (q : Sh) (B T : Nat) (vp vs vw vh vc vo vk : Value) (w : World) (hS : y.Sums) (hs : q.Sums) (o : OwnLz w B T y q vp vs vw vh vc vo vk) :
  Calls Tryz.prog 14 #[.agg #[vp, vs, vw, vh, .bool q.on, vc, vo, vk], .int .i64 1] w fun e w' => e = .returned (.int .i64 (shZ q (mkZ5 y 1))) ∧ OwnLz w' B T (mkY y 1) (mkSh q (mkZ5 y 1)) vp vs vw vh vc vo vk ∧ Touch (fun b => B ≤ b ∧ b < T) w w' := by
 obtain ⟨c, up, us, uw, uh, uk, o, s, hT⟩ := o
 obtain ⟨a1, m1, rfl⟩ := ownsRow_slice o.p.row
 obtain ⟨a2, m2, rfl⟩ := ownsRow_slice o.s.row
 obtain ⟨a3, m3, rfl⟩ := ownsRow_slice o.t.row
 obtain ⟨a4, m4, rfl⟩ := ownsRow_slice o.h.row
 obtain ⟨a5, m5, rfl⟩ := ownsRow_slice s.ic
 obtain ⟨a6, m6, rfl⟩ := ownsRow_slice s.io
 obtain ⟨a7, m7, rfl⟩ := ownsRow_slice s.ik.row
 have ba := below_allocS w (oQ5 a1 y.pn m1 a2 y.sn m2 a3 y.wn m3 a4 y.hn m4 q.on a5 q.cn m5 a6 q.ol m6 a7 q.kn m7)
 obtain ⟨C, hC⟩ : ∃ C, rcol c w.heap.size 0 = C := ⟨_, rfl⟩
 have HC : Hid ((∀ b, T ≤ b → C b = 0) ∧ (∀ b, w.heap.size ≤ b → C b = 0) ∧ ∀ n, w.heap.size ≤ n → rcol C n 0 = C) := by
  refine ⟨fun b hb => ?_, fun b hb => ?_, fun n hn => ?_⟩
  ·rw [← hC]
   unfold rcol
   split
   ·exact hT b hb
   ·rfl
  ·rw [← hC]
   exact rcol_new hb
  ·rw [← hC]
   exact rcol_twice c hn
 have HS : Hid (y.Sums ∧ q.Sums) := ⟨hS, hs⟩
 have HZ : Hid (0 ≤ mkZ5 y 1 ∧ mkZ5 y 1 ≤ 24000000) := (mkZ_bd hS).2.2.2
 have s0 := s.recol
 have o0 := o.recolO 0
 rw [hC] at s0 o0
 have X0 : Hid (Below w.heap.size w (w.alloc (oQ5 a1 y.pn m1 a2 y.sn m2 a3 y.wn m3 a4 y.hn m4 q.on a5 q.cn m5 a6 q.ol m6 a7 q.kn m7)) ∧ BoxH (w.alloc (oQ5 a1 y.pn m1 a2 y.sn m2 a3 y.wn m3 a4 y.hn m4 q.on a5 q.cn m5 a6 q.ol m6 a7 q.kn m7)) w.heap.size (.slice a1 y.pn m1) (.slice a2 y.sn m2) (.slice a3 y.wn m3) (.slice a4 y.hn m4) (.bool q.on) (.slice a5 q.cn m5) (.slice a6 q.ol m6) (.slice a7 q.kn m7) ∧ OwnS false (w.alloc (oQ5 a1 y.pn m1 a2 y.sn m2 a3 y.wn m3 a4 y.hn m4 q.on a5 q.cn m5 a6 q.ol m6 a7 q.kn m7)) B C y (.slice a1 y.pn m1) (.slice a2 y.sn m2) (.slice a3 y.wn m3) (.slice a4 y.hn m4) up us uw uh ∧ OwnSh (w.alloc (oQ5 a1 y.pn m1 a2 y.sn m2 a3 y.wn m3 a4 y.hn m4 q.on a5 q.cn m5 a6 q.ol m6 a7 q.kn m7)) B C q (.slice a5 q.cn m5) (.slice a6 q.ol m6) (.slice a7 q.kn m7) uk) := ⟨ba, BoxH.new _ _ _ _ _ _ _ _ _ _, o0.below ba, s0.below ba⟩
 clear o s hT ba hC s0 o0 hS hs
 obtain ⟨p0, p1, p2, p3, -⟩ := X0.out.2.1
 go_enter Tryz.func14, Tryz.ntmps14
 go_wp2_with fail
 clear p0 p1 p2 p3
 generalize w.alloc (oQ5 a1 y.pn m1 a2 y.sn m2 a3 y.wn m3 a4 y.hn m4 q.on a5 q.cn m5 a6 q.ol m6 a7 q.kn m7) = wA at *
 refine (markSys_c y B C _ _ _ _ up us uw uh wA HS.out.1 X0.out.2.2.1).mono ?_
 rintro e w1 ⟨rfl, ⟨ts, o1⟩, t1⟩
 rw [HC.out.2.2 _ X0.out.1.size] at o1 t1
 have hm1 : w1.heap[w.heap.size]? = wA.heap[w.heap.size]? := t1.block _ X0.out.2.1.lt fun h => by have := HC.out.2.1 w.heap.size (Nat.le_refl _); have := h.2; omega
 have X1 : Hid (Touch (fun b => B ≤ b ∧ b < T) w w1 ∧ BoxH w1 w.heap.size (.slice a1 y.pn m1) (.slice a2 y.sn m2) (.slice a3 y.wn m3) (.slice a4 y.hn m4) (.bool q.on) (.slice a5 q.cn m5) (.slice a6 q.ol m6) (.slice a7 q.kn m7) ∧ OwnS false w1 B C (mkY y 1) (.slice a1 y.pn m1) (.slice a2 y.sn m2) (.slice a3 y.wn m3) (.slice a4 y.hn m4) up ts uw uh ∧ OwnSh w1 B C q (.slice a5 q.cn m5) (.slice a6 q.ol m6) (.slice a7 q.kn m7) uk ∧ w.heap.size ≤ w1.heap.size) := ⟨(Touch.of_below X0.out.1).trans (t1.mono fun b hb => ⟨hb.1, by
  apply Classical.byContradiction
  intro hn
  have := HC.out.1 b (by omega)
  have := hb.2
  omega⟩), X0.out.2.1.blk hm1, o1, X0.out.2.2.2.keep fun k _ h5 _ hl => t1.block k hl fun h => by have := h.2; omega, Nat.le_trans X0.out.1.size t1.size⟩
 clear t1 o1 hm1 X0
 obtain ⟨-, -, -, -, p4, p5, p6, p7⟩ := X1.out.2.1
 go_wp2_with fail
 clear p4 p5 p6 p7
 refine (markShot_z (mkZ5 y 1) HS.out.2 HZ.out.1 (by have := HZ.out; omega) X1.out.2.2.2.1).mono ?_
 rintro e w2 ⟨rfl, o2, t2⟩
 rw [HC.out.2.2 _ X1.out.2.2.2.2] at o2 t2
 have ke : ∀ i, i ≤ 4 → ∀ k, Cl B C i k → k < w1.heap.size → w2.heap[k]? = w1.heap[k]? := fun i hi k hk hl => t2.block k hl fun h => by have := h.2; have := hk.2; omega
 have X2 : Hid (Touch (fun b => B ≤ b ∧ b < T) w w2 ∧ OwnLz w2 B T (mkY y 1) (mkSh q (mkZ5 y 1)) (.slice a1 y.pn m1) (.slice a2 y.sn m2) (.slice a3 y.wn m3) (.slice a4 y.hn m4) (.slice a5 q.cn m5) (.slice a6 q.ol m6) (.slice a7 q.kn m7)) := ⟨X1.out.1.trans (t2.mono fun b hb => ⟨hb.1, by
  apply Classical.byContradiction
  intro hn
  have := HC.out.1 b (by omega)
  have := hb.2
  omega⟩), C, up, ts, uw, uh, uk, ⟨X1.out.2.2.1.p.keep (ke 1 (by decide)), X1.out.2.2.1.s.keep (ke 2 (by decide)), X1.out.2.2.1.t.keep (ke 3 (by decide)), X1.out.2.2.1.h.keep (ke 4 (by decide))⟩, o2, HC.out.1⟩
 clear t2 o2 ke X1
 go_wp2
 go_ret
 exact ⟨rfl, X2.out.2, X2.out.1⟩
theorem heldLive_z (y : Sy) (q : Sh) (B T : Nat) (vp vs vw vh vc vo vk : Value) (w : World) (hS : y.Sums) (hs : q.Sums) (o : OwnLz w B T (mkY y 1) (mkSh q (mkZ5 y 1)) vp vs vw vh vc vo vk) :
  Calls Tryz.prog 15 #[.agg #[vp, vs, vw, vh, .bool q.on, vc, vo, vk], .int .i64 1] w fun e w' => e = .returned (.int .i64 (shZ q (mkZ5 y 1))) ∧ Below w.heap.size w w' := by
 obtain ⟨c, up, us, uw, uh, uk, o, s, -⟩ := o
 obtain ⟨a1, m1, e1⟩ := ownsRow_slice o.p.row
 obtain ⟨a2, m2, e2⟩ := ownsRow_slice o.s.row
 obtain ⟨a3, m3, e3⟩ := ownsRow_slice o.t.row
 obtain ⟨a4, m4, e4⟩ := ownsRow_slice o.h.row
 obtain ⟨a5, m5, e5⟩ := ownsRow_slice s.ic
 obtain ⟨a6, m6, e6⟩ := ownsRow_slice s.io
 obtain ⟨a7, m7, e7⟩ := ownsRow_slice s.ik.row
 have e1 : vp = .slice a1 y.pn m1 := e1
 have e2 : vs = .slice a2 y.sn m2 := e2
 have e3 : vw = .slice a3 y.wn m3 := e3
 have e4 : vh = .slice a4 y.hn m4 := e4
 have e5 : vc = .slice a5 q.cn m5 := e5
 have e6 : vo = .slice a6 q.ol m6 := e6
 have e7 : vk = .slice a7 q.kn m7 := e7
 subst e1 e2 e3 e4 e5 e6 e7
 have HS : Hid (y.Sums ∧ q.Sums) := ⟨hS, hs⟩
 have hz := (mkZ_bd hS).2.2.2
 have HZ : Hid (0 ≤ mkZ5 y 1 ∧ mkZ5 y 1 ≤ 24000000) := hz
 have hz5 : ¬ mkZ5 y 1 < 0 := by omega
 have hz6 : ¬ shZ q (mkZ5 y 1) < 0 := by unfold shZ; omega
 have ba := below_allocS w (oQ5 a1 y.pn m1 a2 y.sn m2 a3 y.wn m3 a4 y.hn m4 q.on a5 q.cn m5 a6 q.ol m6 a7 q.kn m7)
 have X0 : Hid (Below w.heap.size w (w.alloc (oQ5 a1 y.pn m1 a2 y.sn m2 a3 y.wn m3 a4 y.hn m4 q.on a5 q.cn m5 a6 q.ol m6 a7 q.kn m7)) ∧ BoxH (w.alloc (oQ5 a1 y.pn m1 a2 y.sn m2 a3 y.wn m3 a4 y.hn m4 q.on a5 q.cn m5 a6 q.ol m6 a7 q.kn m7)) w.heap.size (.slice a1 y.pn m1) (.slice a2 y.sn m2) (.slice a3 y.wn m3) (.slice a4 y.hn m4) (.bool q.on) (.slice a5 q.cn m5) (.slice a6 q.ol m6) (.slice a7 q.kn m7) ∧ OwnSys false (w.alloc (oQ5 a1 y.pn m1 a2 y.sn m2 a3 y.wn m3 a4 y.hn m4 q.on a5 q.cn m5 a6 q.ol m6 a7 q.kn m7)) B (mkY y 1) (.agg #[.slice a1 y.pn m1, .slice a2 y.sn m2, .slice a3 y.wn m3, .slice a4 y.hn m4]) ∧ OwnSh (w.alloc (oQ5 a1 y.pn m1 a2 y.sn m2 a3 y.wn m3 a4 y.hn m4 q.on a5 q.cn m5 a6 q.ol m6 a7 q.kn m7)) B c (mkSh q (mkZ5 y 1)) (.slice a5 q.cn m5) (.slice a6 q.ol m6) (.slice a7 q.kn m7) uk) := ⟨ba, BoxH.new _ _ _ _ _ _ _ _ _ _, OwnSys.below ⟨_, _, _, _, _, _, _, _, _, rfl, o⟩ ba, s.below ba⟩
 clear o s ba hz hS hs
 obtain ⟨p0, p1, p2, p3, -⟩ := X0.out.2.1
 go_enter Tryz.func15, Tryz.ntmps15
 go_wp2_with fail
 clear p0 p1 p2 p3
 generalize w.alloc (oQ5 a1 y.pn m1 a2 y.sn m2 a3 y.wn m3 a4 y.hn m4 q.on a5 q.cn m5 a6 q.ol m6 a7 q.kn m7) = wA at *
 refine (heldSys_z y B _ wA HS.out.1 X0.out.2.2.1).mono ?_
 rintro e w1 ⟨rfl, c1⟩
 have X1 : Hid (Below w.heap.size w w1 ∧ BoxH w1 w.heap.size (.slice a1 y.pn m1) (.slice a2 y.sn m2) (.slice a3 y.wn m3) (.slice a4 y.hn m4) (.bool q.on) (.slice a5 q.cn m5) (.slice a6 q.ol m6) (.slice a7 q.kn m7) ∧ OwnSh w1 B c (mkSh q (mkZ5 y 1)) (.slice a5 q.cn m5) (.slice a6 q.ol m6) (.slice a7 q.kn m7) uk) := ⟨X0.out.1.trans (c1.mono X0.out.1.size), X0.out.2.1.below c1, X0.out.2.2.2.below c1⟩
 clear c1 X0
 obtain ⟨-, -, -, -, p4, p5, p6, p7⟩ := X1.out.2.1
 go_wp2_with fail
 clear p4 p5 p6 p7
 refine (heldShot_z (mkZ5 y 1) HS.out.2 HZ.out.1 (by have := HZ.out; omega) X1.out.2.2).mono ?_
 rintro e w2 ⟨rfl, c2⟩
 have X2 : Hid (Below w.heap.size w w2) := X1.out.1.trans (c2.mono X1.out.1.size)
 clear c2 X1
 go_wp2
 go_ret
 exact ⟨rfl, X2.out⟩
def mixC (c : Nat → Nat) (n : Nat) (d : Nat → Nat) : Nat → Nat := fun b => if b < n then c b else d b
theorem Cl.mixL {B n i k : Nat} {c d : Nat → Nat} (h : Cl B c i k) (hl : k < n) : Cl B (mixC c n d) i k := ⟨h.1, (if_pos hl).trans h.2⟩
theorem Cl.mixR {B n i k : Nat} {c d : Nat → Nat} (h : Cl n d i k) (hB : B ≤ n) : Cl B (mixC c n d) i k := ⟨Nat.le_trans hB h.1, (if_neg (Nat.not_lt.2 h.1)).trans h.2⟩
structure PrL (W1 : World) (B : Nat) (y : Sy) (q : Sh) (fs fc fo fk : Bool) (vs vc vo vk : Value) (X : Nat → Prop) (w : World) : Prop where
 be : Below W1.heap.size W1 w
 hB : B ≤ W1.heap.size
 ow : ∃ c : Nat → Nat, (fs = true → ∃ vp v2 vw vh up us uw uh, vs = .agg #[vp, v2, vw, vh] ∧ OwnS false w B c y vp v2 vw vh up us uw uh) ∧ (fc = true → w.ownsRow 0 3 1 vc q.cn (fZ q.cH q.cn) ∧ ∀ k, vc.ownBlock = some k → Cl B c 5 k) ∧ (fo = true → OwnQ w 0 vo q.ol q.oH ∧ ∀ k, vo.ownBlock = some k → Cl B c 6 k) ∧ (fk = true → ∃ uk, LN false w (Cl B c 7) vk q.kn uk q.kL q.kH) ∧ ∀ k, X k → k < w.heap.size ∧ c k = 0
section
variable {W1 : World} {B : Nat} {y : Sy} {q : Sh} {fs fc fo fk : Bool} {vs vc vo vk v : Value} {X : Nat → Prop} {w w' : World}
theorem PrL.start (hB : B ≤ W1.heap.size) (h : Below W1.heap.size W1 w) : PrL W1 B y q false false false false vs vc vo vk (fun _ => False) w :=
 ⟨h, hB, fun _ => 0, (fun e => by cases e), (fun e => by cases e), (fun e => by cases e), (fun e => by cases e), fun _ h => h.elim⟩
theorem PrL.mix (h : PrL W1 B y q fs fc fo fk vs vc vo vk X w) (hb : Below w.heap.size w w') (d : Nat → Nat) : ∃ c : Nat → Nat, (fs = true → ∃ vp v2 vw vh up us uw uh, vs = .agg #[vp, v2, vw, vh] ∧ OwnS false w' B (mixC c w.heap.size d) y vp v2 vw vh up us uw uh) ∧ (fc = true → w'.ownsRow 0 3 1 vc q.cn (fZ q.cH q.cn) ∧ ∀ k, vc.ownBlock = some k → Cl B (mixC c w.heap.size d) 5 k) ∧ (fo = true → OwnQ w' 0 vo q.ol q.oH ∧ ∀ k, vo.ownBlock = some k → Cl B (mixC c w.heap.size d) 6 k) ∧ (fk = true → ∃ uk, LN false w' (Cl B (mixC c w.heap.size d) 7) vk q.kn uk q.kL q.kH) ∧ ∀ k, X k → k < w'.heap.size ∧ mixC c w.heap.size d k = 0 := by
 obtain ⟨c, h1, h2, h3, h4, h5⟩ := h.ow
 refine ⟨c, fun e => ?_, fun e => ?_, fun e => ?_, fun e => ?_, fun k hk => ⟨Nat.lt_of_lt_of_le (h5 k hk).1 hb.size, (if_pos (h5 k hk).1).trans (h5 k hk).2⟩⟩
 ·obtain ⟨vp, v2, vw, vh, up, us, uw, uh, ev, o⟩ := h1 e
  exact ⟨vp, v2, vw, vh, up, us, uw, uh, ev, OwnS.below ⟨o.p.mono fun _ h hl => h.mixL hl, o.s.mono fun _ h hl => h.mixL hl, o.t.mono fun _ h hl => h.mixL hl, o.h.mono fun _ h hl => h.mixL hl⟩ hb⟩
 ·obtain ⟨o, hc⟩ := h2 e
  exact ⟨ownsRow_blkL o fun k hk => hb.block k (o.lt k hk).2, fun k hk => (hc k hk).mixL (o.lt k hk).2⟩
 ·obtain ⟨o, hc⟩ := h3 e
  exact ⟨o.below hb, fun k hk => (hc k hk).mixL (World.ownsRow.lt o k hk).2⟩
 ·obtain ⟨uk, o⟩ := h4 e
  exact ⟨uk, (o.mono fun _ h hl => h.mixL hl).below hb⟩
theorem PrL.below (h : PrL W1 B y q fs fc fo fk vs vc vo vk X w) (hb : Below w.heap.size w w') : PrL W1 B y q fs fc fo fk vs vc vo vk X w' := by
 obtain ⟨c, hh⟩ := h.mix hb fun _ => 0
 exact ⟨h.be.trans (hb.mono h.be.size), h.hB, _, hh⟩
theorem PrL.sys (h : PrL W1 B y q fs fc fo fk vs vc vo vk X w) (hb : Below w.heap.size w w') (o : OwnSys false w' w.heap.size y v) : PrL W1 B y q true fc fo fk v vc vo vk X w' := by
 obtain ⟨d, vp, v2, vw, vh, up, us, uw, uh, ev, o⟩ := o
 obtain ⟨c, -, h2, h3, h4, h5⟩ := h.mix hb d
 have hB := Nat.le_trans h.hB h.be.size
 exact ⟨h.be.trans (hb.mono h.be.size), h.hB, _, fun _ => ⟨vp, v2, vw, vh, up, us, uw, uh, ev, o.p.mono fun _ h _ => h.mixR hB, o.s.mono fun _ h _ => h.mixR hB, o.t.mono fun _ h _ => h.mixR hB, o.h.mono fun _ h _ => h.mixR hB⟩, h2, h3, h4, h5⟩
theorem PrL.cut (h : PrL W1 B y q fs fc fo fk vs vc vo vk X w) (hb : Below w.heap.size w w') (o : w'.ownsRow w.heap.size 3 1 v q.cn (fZ q.cH q.cn)) : PrL W1 B y q fs true fo fk vs v vo vk X w' := by
 obtain ⟨c, h1, -, h3, h4, h5⟩ := h.mix hb fun _ => 5
 exact ⟨h.be.trans (hb.mono h.be.size), h.hB, _, h1, fun _ => ⟨o.mono (Nat.zero_le _), fun k hk => Cl.mixR ⟨(o.lt k hk).1, rfl⟩ (Nat.le_trans h.hB h.be.size)⟩, h3, h4, h5⟩
theorem PrL.open' (h : PrL W1 B y q fs fc fo fk vs vc vo vk X w) (hb : Below w.heap.size w w') (o : OwnQ w' w.heap.size v q.ol q.oH) : PrL W1 B y q fs fc true fk vs vc v vk X w' := by
 obtain ⟨c, h1, h2, -, h4, h5⟩ := h.mix hb fun _ => 6
 exact ⟨h.be.trans (hb.mono h.be.size), h.hB, _, h1, h2, fun _ => ⟨World.ownsRow.mono o (Nat.zero_le _), fun k hk => Cl.mixR ⟨(World.ownsRow.lt o k hk).1, rfl⟩ (Nat.le_trans h.hB h.be.size)⟩, h4, h5⟩
theorem PrL.kept (h : PrL W1 B y q fs fc fo fk vs vc vo vk X w) (hb : Below w.heap.size w w') {u : Nat → Value} (o : LN false w' (fun k => w.heap.size ≤ k) v q.kn u q.kL q.kH) : PrL W1 B y q fs fc fo true vs vc vo v X w' := by
 obtain ⟨c, h1, h2, h3, -, h5⟩ := h.mix hb fun _ => 7
 exact ⟨h.be.trans (hb.mono h.be.size), h.hB, _, h1, h2, h3, fun _ => ⟨u, o.mono fun k h' _ => Cl.mixR ⟨h', rfl⟩ (Nat.le_trans h.hB h.be.size)⟩, h5⟩
theorem PrL.box (h : PrL W1 B y q fs fc fo fk vs vc vo vk X w) (o : Obj) (X' : Nat → Prop) (hX : ∀ k, X' k → X k ∨ k = w.heap.size) : PrL W1 B y q fs fc fo fk vs vc vo vk X' (w.alloc o) := by
 have hb := below_allocL w o
 obtain ⟨c, h1, h2, h3, h4, h5⟩ := h.mix hb fun _ => 0
 refine ⟨h.be.trans (hb.mono h.be.size), h.hB, _, h1, h2, h3, h4, fun k hk => ?_⟩
 rcases hX k hk with h6 | rfl
 ·exact h5 k h6
 ·exact ⟨by simp, if_neg (Nat.lt_irrefl _)⟩
theorem PrL.put (h : PrL W1 B y q fs fc fo fk vs vc vo vk X w) {N : Nat} (hX : X N) (hN : W1.heap.size ≤ N) (j : Nat) (u : Value) : PrL W1 B y q fs fc fo fk vs vc vo vk X (w.setCell ⟨N, j, none⟩ u) := by
 obtain ⟨c, h1, h2, h3, h4, h5⟩ := h.ow
 have hk : ∀ k i, c k = i → i ≠ 0 → (w.setCell ⟨N, j, none⟩ u).heap[k]? = w.heap[k]? := fun k i hc hi => Below.heap_setCell _ _ _ _ fun e => hi (by
  have e2 : k = N := e
  rw [← hc, e2]
  exact (h5 N hX).2)
 refine ⟨h.be.setCell hN _, h.hB, c, fun e => ?_, fun e => ?_, fun e => ?_, fun e => ?_, fun k hX' => ⟨by simpa using (h5 k hX').1, (h5 k hX').2⟩⟩
 ·obtain ⟨vp, v2, vw, vh, up, us, uw, uh, ev, o⟩ := h1 e
  exact ⟨vp, v2, vw, vh, up, us, uw, uh, ev, o.p.keep fun k h _ => hk k 1 h.2 (by decide), o.s.keep fun k h _ => hk k 2 h.2 (by decide), o.t.keep fun k h _ => hk k 3 h.2 (by decide), o.h.keep fun k h _ => hk k 4 h.2 (by decide)⟩
 ·obtain ⟨o, hc⟩ := h2 e
  exact ⟨ownsRow_blkL o fun k h => hk k 5 (hc k h).2 (by decide), hc⟩
 ·obtain ⟨o, hc⟩ := h3 e
  exact ⟨ownsRow_blkL o fun k h => hk k 6 (hc k h).2 (by decide), hc⟩
 ·obtain ⟨uk, o⟩ := h4 e
  exact ⟨uk, o.keep fun k h _ => hk k 7 h.2 (by decide)⟩
theorem PrL.drew (h : PrL W1 B y q fs fc fo fk vs vc vo vk X w) : PrL W1 B y q fs fc fo fk vs vc vo vk X w.drew := h.below (Below.refl _ _).drew
theorem PrL.live (h : PrL W1 B y q true true true true vs vc vo vk X w) : ∃ vp v2 vw vh, vs = .agg #[vp, v2, vw, vh] ∧ OwnLv w B y q (.agg #[vp, v2, vw, vh, .bool q.on, vc, vo, vk]) := by
 obtain ⟨c, h1, h2, h3, h4, -⟩ := h.ow
 obtain ⟨vp, v2, vw, vh, up, us, uw, uh, ev, o⟩ := h1 rfl
 obtain ⟨uk, ik⟩ := h4 rfl
 exact ⟨vp, v2, vw, vh, ev, c, vp, v2, vw, vh, up, us, uw, uh, vc, vo, vk, uk, rfl, o, (h2 rfl).1, (h3 rfl).1, ik, (h2 rfl).2, (h3 rfl).2⟩
end
def sh0 (n m : Nat) : Sh := ⟨false, n, fun _ => -1, m, fun _ => false, m, fun _ => 0, fun _ _ => 0⟩
theorem madeBo (w : World) (n : Nat) (hn : n ≤ 1048576) : OwnQ (w.alloc (.cells (madeCells #[.bool false] n) 4)) w.heap.size (.slice (some ⟨w.heap.size, 0, none⟩) n n) n (fun _ => false) := by
 have e : madeCells #[.bool false] n = (fBo (fun _ => false) n).toArray := by
  unfold madeCells fBo
  apply Array.ext_getElem?
  intro i
  have e2 : ∀ x : Nat, (#[Value.bool false] : Array Value)[x % (#[Value.bool false] : Array Value).size]! = .bool false := fun x => by simp [Nat.mod_one]
  simp only [e2]
  by_cases hi : i < n
  ·simp [hi]
  ·simp [hi]
 rw [e]
 exact World.ownsRow_lit (base := w.heap.size) (e := 4) (size := 1) w (fBo (fun _ => false) n).toArray n (Nat.le_refl _) (by unfold maxLen; omega) (by simp [fBo_len])
theorem nilInts : (Tryz.prog.info? 35).bind (·.zero) = some (.slice none 0 0) := by kernel_rfl
theorem madeZZ (w : World) (n : Nat) (hn : n ≤ 1048576) : LN false (w.alloc (.cells (madeCells #[.slice none 0 0] n) 35)) (fun k => w.heap.size ≤ k) (.slice (some ⟨w.heap.size, 0, none⟩) n n) n (fun _ => .slice none 0 0) (fun _ => 0) (fun _ _ => 0) :=
 ZL.ll (ZL.made _ w _ (Nat.le_refl _) n hn) (by decide) _ fun _ => rfl
theorem OwnLv.zero (w : World) (B : Nat) (y : Sy) : OwnLv w B { y with pn := 0, sn := 0, wn := 0, hn := 0 } (sh0 0 0) (.agg #[.slice none 0 0, .slice none 0 0, .slice none 0 0, .slice none 0 0, .bool false, .slice none 0 0, .slice none 0 0, .slice none 0 0]) := by
 obtain ⟨c, vp, vs, vw, vh, up, us, uw, uh, e, o⟩ := OwnSys.zero (z := false) w B y
 simp only [sysV, Value.agg.injEq, Array.mk.injEq, List.cons.injEq, and_true] at e
 obtain ⟨rfl, rfl, rfl, rfl⟩ := e
 exact ⟨c, _, _, _, _, up, us, uw, uh, _, _, _, fun _ => .slice none 0 0, rfl, o, World.ownsRow_nil _ _ _ _, World.ownsRow_nil _ _ _ _, LL.nil _ _ _ _ _ _ _ _, (fun k hk => by cases hk), (fun k hk => by cases hk)⟩
variable {z : Bool}
theorem kndZ1 : Kind 35 3 1 8 := by
 refine ⟨Tryz.underlying35, ?_, by omega, by omega⟩
 have hinfo : (Tryz.prog.info? 3).map (fun i => (i.zero, i.size, i.bytes)) = some (some (.int .i64 0), 1, 8) := by kernel_rfl
 cases hi : Tryz.prog.info? 3 with
 | none => rw [hi] at hinfo; cases hinfo
 | some i =>
  rw [hi] at hinfo
  simp only [Option.map_some, Option.some.injEq, Prod.mk.injEq] at hinfo
  exact ⟨i, _, rfl, hinfo.1, hinfo.2.1, hinfo.2.2, rfl⟩
theorem kndZZ1 : Kind 37 35 1 24 := by
 refine ⟨Tryz.underlying37, ?_, by omega, by omega⟩
 have hinfo : (Tryz.prog.info? 35).map (fun i => (i.zero, i.size, i.bytes)) = some (some (.slice none 0 0), 1, 24) := by kernel_rfl
 cases hi : Tryz.prog.info? 35 with
 | none => rw [hi] at hinfo; cases hinfo
 | some i =>
  rw [hi] at hinfo
  simp only [Option.map_some, Option.some.injEq, Prod.mk.injEq] at hinfo
  exact ⟨i, _, rfl, hinfo.1, hinfo.2.1, hinfo.2.2, rfl⟩
theorem fZ_len (h : Nat → Int) (n : Nat) : (fZ h n).length = n * 1 := by simp [fZ, ofZ_len]
theorem fZ_at {h : Nat → Int} {n i : Nat} (hi : i < n) : (fZ h n)[i]? = some (.int .i64 (h i)) := by
 unfold fZ ofZ
 rw [List.map_map, List.getElem?_map, List.getElem?_range hi]
 rfl
theorem mul64_one (n : Nat) (hn : 1 ≤ n ∧ n ≤ 4) (w : World) :
  Calls Tryz.prog 173 #[.int .u64 1, .int .u64 n] w fun e w' => e = .returned (.tuple #[.int .u64 0, .int .u64 n]) ∧ w' = w := by
 obtain rfl | rfl | rfl | rfl : n = 1 ∨ n = 2 ∨ n = 3 ∨ n = 4 := by omega
 all_goals
  go_enter Tryz.func173, Tryz.ntmps173
  go_wp2
  exact bodyPost_ret (v := .tuple #[_, _]) (by simp [results, Tryz.results173, go_sem]; try rfl) rfl ⟨rfl, rfl⟩
theorem mul_one' (n : Nat) (hn : 1 ≤ n ∧ n ≤ 4) (w : World) :
  Calls Tryz.prog 94 #[.int .u64 1, .int .u64 n] w fun e w' => e = .returned (.tuple #[.int .u64 0, .int .u64 n]) ∧ w' = w := by
 go_enter Tryz.func94, Tryz.ntmps94
 go_wp2_with fail
 refine (mul64_one n hn _).mono ?_
 rintro e w1 ⟨rfl, rfl⟩
 go_wp2
 exact bodyPost_ret (v := .tuple #[_, _]) (by simp [results, Tryz.results94, go_sem]; try rfl) rfl ⟨rfl, rfl⟩
structure RepK (cur : Array Value) (n j : Nat) (k : Int) : Prop where
 sz : cur.size = n
 le : j ≤ n
 at' : ∀ i, i < j → cur.toList[i]? = some (.int .i64 k)
def repTo (cur : Array Value) (j m : Nat) (k : Int) : Array Value := (cur.toList.take j ++ List.replicate m (Value.int .i64 k) ++ cur.toList.drop (j + m)).toArray
theorem RepK.more {cur : Array Value} {n j : Nat} {k : Int} (h : RepK cur n j k) {m : Nat} (hm : j + m ≤ n) : RepK (repTo cur j m k) n (j + m) k := by
 have hl : cur.toList.length = n := by simpa using h.sz
 refine ⟨by simp [repTo, h.sz]; omega, hm, fun i hi => ?_⟩
 unfold repTo
 rw [List.append_assoc]
 by_cases h1 : i < j
 ·rw [List.getElem?_append_left (by rw [List.length_take]; omega), List.getElem?_take_of_lt h1]
  exact h.at' i h1
 ·rw [List.getElem?_append_right (by rw [List.length_take]; omega), List.length_take, List.getElem?_append_left (by rw [List.length_replicate]; omega), List.getElem?_replicate, if_pos (by omega)]
theorem rep_copy (W : World) {cur : Array Value} {n j : Nat} {k : Int} (h : RepK cur n j k) (a : Addr) (s m dCap sCap : Nat) (hm : m = Nat.min s (n - j)) (hsrc : ∀ i, i < m → (W.alloc (.cells cur 3)).cell? (a.add i) = some (.int .i64 k)) :
  (Builtin.copy_ #[35, 35] 3 #[.slice (some ⟨W.heap.size, j, none⟩) (n - j) dCap, .slice (some a) s sCap]).run Tryz.prog (W.alloc (.cells cur 3)) = .ok (goInt m) (W.alloc (.cells (repTo cur j m k) 3)) := by
 have hle : m ≤ n - j := by rw [hm]; exact Nat.min_le_right _ _
 have hj := h.le
 have hr := run_copy_row (P := Tryz.prog) (W.alloc (.cells cur 3)) 35 35 3 3 W.heap.size j (n - j) dCap a s sCap cur 3 (List.replicate m (.int .i64 k)) Tryz.underlying35 sizeInt (heap_alloc_new W _) (by rw [List.length_replicate]; exact hm) (fun i v hi => by
  rw [List.getElem?_replicate] at hi
  split at hi
  ·cases hi
   exact hsrc i (by assumption)
  ·cases hi) (by rw [List.length_replicate, h.sz]; omega) (fun v hv => by rw [List.eq_of_mem_replicate hv]; rfl)
 rw [hr, setRow_alloc, List.length_replicate]
 rfl
theorem RepK.cell {cur : Array Value} {n j : Nat} {k : Int} (h : RepK cur n j k) (W : World) {i : Nat} (hi : i < j) : (W.alloc (.cells cur 3)).cell? (Addr.add ⟨W.heap.size, 0, none⟩ i) = some (.int .i64 k) := by
 rw [addr_add, Nat.zero_add]
 have := h.at' i hi
 rw [Array.getElem?_toList] at this
 rw [World.cell?_alloc_mark]
 exact this
theorem RepK.row {cur : Array Value} {n : Nat} {k : Int} (h : RepK cur n n k) (W : World) (hn : n ≤ 1048576) : (W.alloc (.cells cur 3)).ownsRow W.heap.size 3 1 (.slice (some ⟨W.heap.size, 0, none⟩) n n) n (fZ (fun _ => k) n) := by
 have e : cur = (fZ (fun _ => k) n).toArray := by
  apply Array.ext_getElem?
  intro i
  by_cases hi : i < n
  ·have := h.at' i hi
   rw [Array.getElem?_toList] at this
   rw [this, List.getElem?_toArray, fZ_at hi]
  ·rw [Array.getElem?_eq_none (by rw [h.sz]; omega), List.getElem?_toArray, List.getElem?_eq_none (by rw [fZ_len]; omega)]
 rw [e]
 exact World.ownsRow_lit (base := W.heap.size) (e := 3) (size := 1) W (fZ (fun _ => k) n).toArray n (Nat.le_refl _) (by unfold maxLen; omega) (by simp [fZ_len])
theorem repeatOne (b n : Nat) (k : Int) (hn : 1 ≤ n ∧ n ≤ 4) (w : World) (hb : b < w.heap.size) (hc : w.cell? ⟨b, 0, none⟩ = some (.int .i64 k)) :
  Calls Tryz.prog 35 #[.slice (some ⟨b, 0, none⟩) 1 1, .int .i64 n] w fun e w' => ∃ a c, e = .returned (.slice a n c) ∧ w'.ownsRow w.heap.size 3 1 (.slice a n c) n (fZ (fun _ => k) n) ∧ Below w.heap.size w w' := by
 obtain ⟨cs, hcs, hmk⟩ := run_make_full kndZ1 n (by omega)
 have hR : RepK cs n 0 k := ⟨by omega, Nat.zero_le _, fun i hi => absurd hi (Nat.not_lt_zero i)⟩
 have hm1 : (1 : Nat) = Nat.min 1 (n - 0) := (Nat.min_eq_left (by omega)).symm
 have hcp := rep_copy w hR ⟨b, 0, none⟩ 1 1 n 1 hm1 (fun i hi => by
  rw [show i = 0 by omega, addr_add]
  exact ((below_allocL w _).cell (p := ⟨b, 0, none⟩) hb).trans hc)
 rw [Nat.sub_zero] at hcp
 have HR : Hid (RepK (repTo cs 0 1 k) n 1 k) := hR.more (by omega)
 have hn4 : (n : Int) ≤ 4 := by omega
 have hn1 : 1 ≤ (n : Int) := by omega
 clear hR hm1 hcs
 go_enter Tryz.func35, Tryz.ntmps35
 go_wp2_with fail
 refine (mul_one' n hn _).mono ?_
 rintro e w1 ⟨rfl, rfl⟩
 go_wp2_with fail
 clear hcp hmk
 go_loopw [8] (fun v wr => ∃ j : Nat, 1 ≤ j ∧ j ≤ n ∧ v = .int .i64 j ∧ ∃ cur W, wr = W.alloc (.cells cur 3) ∧ Hid (W.heap.size = w1.heap.size ∧ RepK cur n j k ∧ Below w1.heap.size w1 W)) (fun v _ => n - (intOf v).toNat)
 case atStart => exact ⟨1, by omega, by omega, rfl, _, w1, rfl, rfl, HR.out, Below.refl _ _⟩
 case round =>
  obtain ⟨j, hj1, hj, rfl, cur, W, rfl, HJ⟩ := hrel
  clear HR
  by_cases hlt : j < n
  ·have hlt' : (j : Int) < (n : Int) := by omega
   have hnj : ¬ n = j := by omega
   obtain ⟨m, hm⟩ : ∃ m, m = Nat.min j (n - j) := ⟨_, rfl⟩
   have hcp := rep_copy W.drew HJ.out.2.1 ⟨W.heap.size, 0, none⟩ j m (n - j) n hm (fun i hi => HJ.out.2.1.cell W.drew (by rw [hm] at hi; exact Nat.lt_of_lt_of_le hi (Nat.min_le_left _ _)))
   have hmb : 1 ≤ m ∧ j + m ≤ n := by
    rw [hm]
    show 1 ≤ min j (n - j) ∧ j + min j (n - j) ≤ n
    omega
   have HK : Hid (W.drew.heap.size = w1.heap.size ∧ RepK (repTo cur j m k) n (j + m) k ∧ Below w1.heap.size w1 W.drew) := ⟨HJ.out.1, HJ.out.2.1.more hmb.2, HJ.out.2.2.drew⟩
   have hjm : (j : Int) + (m : Int) ≤ 4 := by omega
   go_wp2_with fail
   refine wp_region_G (fun _ => True) (fun _ => false) (by kernel_rfl) ?_
   refine wpGT_of [0,1,2,3,4,5,6] ?_
   iterate 7 (refine wpGT_k rfl trivial ?_)
   refine wpGT_nil ?_
   have hcp' : (Builtin.copy_ #[35, 35] 3 #[.slice (some ⟨w1.heap.size, j, none⟩) (n - j) (n - j), .slice (some ⟨w1.heap.size, 0, none⟩) j n]).run Tryz.prog (W.alloc (.cells cur 3)).drew = .ok (goInt m) (W.alloc (.cells (repTo cur j m k) 3)).drew := by
    rw [← HJ.out.1]
    exact hcp
   have hw : IntKind.i64.wrap ((j : Int) + (m : Int)) = (j : Int) + (m : Int) := by
    rw [IntKind.wrap_i64]
    omega
   clear hcp hm HJ
   refine wpG_one 7 rfl (by kernel_rfl) (fun K hK => ?_)
   go_simp
   refine hK.out _ _ (fun _ => trivial) ?_
   clear hK K
   (try simp only [Act.put, List.setIfInBounds_toArray, List.set_cons_zero, List.set_cons_succ])
   refine wpG_one 8 rfl (by kernel_rfl) (fun K hK => ?_)
   go_simp
   refine hK.out _ _ (fun _ => trivial) ?_
   clear hK K
   (try simp only [Act.put, List.setIfInBounds_toArray, List.set_cons_zero, List.set_cons_succ])
   refine wpG_one 9 rfl (by kernel_rfl) (fun K hK => ?_)
   go_simp
   refine hK.out _ _ (fun _ => trivial) ?_
   clear hK K
   (try simp only [Act.put, List.setIfInBounds_toArray, List.set_cons_zero, List.set_cons_succ])
   refine wpG_done (by kernel_rfl) ?_ _
   clear hcp'
   go_wp2
   go_roundw
   case rel => exact ⟨j + m, by omega, by omega, by go_num, _, W.drew, rfl, HK⟩
   case measure => simp [intOf]; omega
  ·have hjn : j = n := by omega
   subst hjn
   go_wp2
   go_ret
   exact ⟨_, _, rfl, by rw [← HJ.out.1]; exact HJ.out.2.1.row W (by omega), HJ.out.2.2.alloc (by have := HJ.out.1; omega) _⟩
theorem OwnLv.keepB {w w' : World} {B : Nat} {y : Sy} {q : Sh} {v : Value} (o : OwnLv w B y q v) (hb : ∀ k, B ≤ k → k < w.heap.size → w'.heap[k]? = w.heap[k]?) : OwnLv w' B y q v := by
 obtain ⟨c, vp, vs, vw, vh, up, us, uw, uh, vc, vo, vk, uk, e, o, s⟩ := o
 exact ⟨c, vp, vs, vw, vh, up, us, uw, uh, vc, vo, vk, uk, e, ⟨o.p.keep fun k hk hl => hb k hk.1 hl, o.s.keep fun k hk hl => hb k hk.1 hl, o.t.keep fun k hk hl => hb k hk.1 hl, o.h.keep fun k hk hl => hb k hk.1 hl⟩, s.keep fun k h1 _ _ hl => hb k h1 hl⟩
theorem OwnLv.set1 {w : World} {B N : Nat} {y : Sy} {q : Sh} {v : Value} (o : OwnLv w B y q v) (hN : N < B) (j : Nat) (u : Value) : OwnLv (w.setCell ⟨N, j, none⟩ u) B y q v := o.keepB fun k hk _ => Below.heap_setCell _ _ _ _ fun e => by
 have e2 : k = N := e
 omega
theorem OwnLv.base {w : World} {B B' : Nat} {y : Sy} {q : Sh} {v : Value} (o : OwnLv w B y q v) (h : B' ≤ B) : OwnLv w B' y q v := by
 obtain ⟨c, vp, vs, vw, vh, up, us, uw, uh, vc, vo, vk, uk, e, o, s⟩ := o
 have hc : ∀ i k, Cl B c i k → Cl B' c i k := fun i k hk => ⟨Nat.le_trans h hk.1, hk.2⟩
 exact ⟨c, vp, vs, vw, vh, up, us, uw, uh, vc, vo, vk, uk, e, ⟨o.p.mono fun k hk _ => hc _ k hk, o.s.mono fun k hk _ => hc _ k hk, o.t.mono fun k hk _ => hc _ k hk, o.h.mono fun k hk _ => hc _ k hk⟩, ⟨s.ic, s.io, s.ik.mono fun k hk _ => hc _ k hk, fun k hk => hc _ k (s.cb k hk), fun k hk => hc _ k (s.ob k hk)⟩⟩
def set8 (w : World) (N : Nat) (c0 c1 c2 c3 c4 c5 c6 c7 : Value) : World := (((((((w.setCell ⟨N, 0, none⟩ c0).setCell ⟨N, 1, none⟩ c1).setCell ⟨N, 2, none⟩ c2).setCell ⟨N, 3, none⟩ c3).setCell ⟨N, 4, none⟩ c4).setCell ⟨N, 5, none⟩ c5).setCell ⟨N, 6, none⟩ c6).setCell ⟨N, 7, none⟩ c7
theorem below_set8 {M N : Nat} {w w' : World} (h : Below M w w') (hM : M ≤ N) (c0 c1 c2 c3 c4 c5 c6 c7 : Value) : Below M w (set8 w' N c0 c1 c2 c3 c4 c5 c6 c7) := (((((((h.setCell hM _).setCell hM _).setCell hM _).setCell hM _).setCell hM _).setCell hM _).setCell hM _).setCell hM _
theorem OwnLv.set8 {w : World} {B N : Nat} {y : Sy} {q : Sh} {v : Value} (o : OwnLv w B y q v) (hN : N < B) (c0 c1 c2 c3 c4 c5 c6 c7 : Value) : OwnLv (set8 w N c0 c1 c2 c3 c4 c5 c6 c7) B y q v := (((((((o.set1 hN _ _).set1 hN _ _).set1 hN _ _).set1 hN _ _).set1 hN _ _).set1 hN _ _).set1 hN _ _).set1 hN _ _
theorem boxH_set8 {w : World} {N : Nat} {d0 d1 d2 d3 d4 d5 d6 d7 : Value} (h : BoxH w N d0 d1 d2 d3 d4 d5 d6 d7) (c0 c1 c2 c3 c4 c5 c6 c7 : Value) : BoxH (set8 w N c0 c1 c2 c3 c4 c5 c6 c7) N c0 c1 c2 c3 c4 c5 c6 c7 := by
 obtain ⟨r0, r1, r2, r3, r4, r5, r6, r7⟩ := h
 unfold set8
 refine ⟨?_, ?_, ?_, ?_, ?_, ?_, ?_, ?_⟩ <;> go_cell
noncomputable def snY (y : Sy) : Sy := if y.okB = true then y else y.nil
noncomputable def snQ (y : Sy) : Sh := if y.okB = true then sh0 y.pn y.wn else sh0 0 0
def SnR (y : Sy) (w : World) (e : Ending) (w' : World) : Prop := ∃ v, e = .returned v ∧ OwnLv w' w.heap.size (snY y) (snQ y) v ∧ Below w.heap.size w w'
def liveZ : Value := .agg #[.slice none 0 0, .slice none 0 0, .slice none 0 0, .slice none 0 0, .bool false, .slice none 0 0, .slice none 0 0, .slice none 0 0]
theorem implShotNew_any (x : SysIn) (w : World) (hG : SysG w x) (hL : x.Len) (hN : x.Nn false) (hV : w.cell? ⟨0, 0, none⟩ = some (.iface 310 (.agg #[.pointer (some ⟨1, 250, none⟩)]))) :
  Calls Tryz.prog 10 #[x.v] w (SnR x.y w) := by
 have HS : Hid (∀ wx, Below w.heap.size w wx → Calls Tryz.prog 34 #[x.v] wx fun e w' => e = .returned (.bool x.y.okB) ∧ Below wx.heap.size wx w') := fun wx hb => implSysOk_any x wx (hG.below hb) hL ((hb.cell (p := ⟨0, 0, none⟩) (World.block_lt_of_cell? w _ hV)).trans hV)
 have HC4 : Hid (∀ wx, Below w.heap.size w wx → Calls Tryz.prog 36 #[x.v] wx fun e w' => ∃ v, e = .returned v ∧ OwnSys false w' wx.heap.size x.y v ∧ Below wx.heap.size wx w') := fun wx hb => copySys_any x wx (hG.below hb) hL hN
 have BW : Hid (Below w.heap.size w ((w.alloc (oQ4 x.pa x.pn x.pc x.sa x.sn x.sc x.wa x.wn x.wc x.ha x.hn x.hc)).alloc (zQ5))) := (below_allocL _ _).trans ((below_allocL _ _).mono (by simp))
 have NB : Hid (BoxC ((w.alloc (oQ4 x.pa x.pn x.pc x.sa x.sn x.sc x.wa x.wn x.wc x.ha x.hn x.hc)).alloc (zQ5)) w.heap.size (.slice x.pa x.pn x.pc) (.slice x.sa x.sn x.sc) (.slice x.wa x.wn x.wc) (.slice x.ha x.hn x.hc)) := (BoxC.new w _ _ _ _ _).below (below_allocL _ _)
 have RB : Hid (BoxH ((w.alloc (oQ4 x.pa x.pn x.pc x.sa x.sn x.sc x.wa x.wn x.wc x.ha x.hn x.hc)).alloc (zQ5)) (w.heap.size + 1) (.slice none 0 0) (.slice none 0 0) (.slice none 0 0) (.slice none 0 0) (.bool false) (.slice none 0 0) (.slice none 0 0) (.slice none 0 0) ∧ ∀ j, ((w.alloc (oQ4 x.pa x.pn x.pc x.sa x.sn x.sc x.wa x.wn x.wc x.ha x.hn x.hc)).alloc (zQ5)).frozen? ⟨w.heap.size + 1, j, none⟩ = false) := by
  have e : (w.alloc (oQ4 x.pa x.pn x.pc x.sa x.sn x.sc x.wa x.wn x.wc x.ha x.hn x.hc)).heap.size = w.heap.size + 1 := by simp
  rw [← e]
  exact ⟨BoxH.new _ _ _ _ _ _ _ _ _ _, fun j => new_frozen _ _ _ _ rfl⟩
 have hM : w.heap.size ≤ w.heap.size + 1 := Nat.le_succ _
 clear hG hL hN hV
 go_enter Tryz.func10, Tryz.ntmps10
 go_wp2_with fail
 generalize (w.alloc (oQ4 x.pa x.pn x.pc x.sa x.sn x.sc x.wa x.wn x.wc x.ha x.hn x.hc)).alloc (zQ5) = W2 at *
 refine (HS.out W2 BW.out).mono ?_
 rintro e w1 ⟨rfl, q1⟩
 have B1 : Hid (Below w.heap.size w w1 ∧ BoxC w1 w.heap.size (.slice x.pa x.pn x.pc) (.slice x.sa x.sn x.sc) (.slice x.wa x.wn x.wc) (.slice x.ha x.hn x.hc) ∧ BoxH w1 (w.heap.size + 1) (.slice none 0 0) (.slice none 0 0) (.slice none 0 0) (.slice none 0 0) (.bool false) (.slice none 0 0) (.slice none 0 0) (.slice none 0 0) ∧ ∀ j, w1.frozen? ⟨w.heap.size + 1, j, none⟩ = false) := ⟨BW.out.trans (q1.mono BW.out.size), NB.out.below q1, RB.out.1.below q1, fun j => ((bcell q1).2 _ j RB.out.1.lt).trans (RB.out.2 j)⟩
 clear q1 BW NB RB HS
 have LR : Hid (w.heap.size + 1 < w1.heap.size) := B1.out.2.2.1.lt
 have HRB : Hid (∀ wx, Below w1.heap.size w1 wx → BoxC wx w.heap.size (.slice x.pa x.pn x.pc) (.slice x.sa x.sn x.sc) (.slice x.wa x.wn x.wc) (.slice x.ha x.hn x.hc) ∧ BoxH wx (w.heap.size + 1) (.slice none 0 0) (.slice none 0 0) (.slice none 0 0) (.slice none 0 0) (.bool false) (.slice none 0 0) (.slice none 0 0) (.slice none 0 0) ∧ (∀ j, wx.frozen? ⟨w.heap.size + 1, j, none⟩ = false) ∧ w.heap.size + 1 < wx.heap.size) := fun wx hb => ⟨B1.out.2.1.below hb, B1.out.2.2.1.below hb, fun j => ((bcell hb).2 _ j LR.out).trans (B1.out.2.2.2 j), Nat.lt_of_lt_of_le LR.out hb.size⟩
 rcases Bool.eq_false_or_eq_true x.y.okB with t | t
 case inr =>
  have HV : Hid (snY x.y = x.y.nil ∧ snQ x.y = sh0 0 0) := ⟨if_neg (by rw [t]; simp), if_neg (by rw [t]; simp)⟩
  obtain ⟨⟨r0, r1, r2, r3, r4, r5, r6, r7⟩, rf⟩ := B1.out.2.2
  have l1 := LR.out
  rw [t]
  clear t
  go_wp2
  exact bodyPost_ret (v := liveZ) (by simp [results, Tryz.results10, go_sem, r0, r1, r2, r3, r4, r5, r6, r7, liveZ]) rfl ⟨_, rfl, by rw [HV.out.1, HV.out.2]; exact OwnLv.zero _ _ _, below_set8 B1.out.1 hM _ _ _ _ _ _ _ _⟩
 have HO : Hid (x.y.Ok ∧ x.y.okB = true) := ⟨Sy.ok_of t, t⟩
 have HNP : Hid ((1 ≤ x.pn ∧ x.pn ≤ 4) ∧ x.wn = x.pn * x.pn) := ⟨HO.out.1.cn.1, HO.out.1.cn.2.2.2⟩
 have HV : Hid (snY x.y = x.y ∧ snQ x.y = sh0 x.pn x.wn) := ⟨if_pos t, if_pos t⟩
 have h4 : (x.pn : Int) ≤ 4 := by have := HNP.out; omega
 have hw16 : x.wn ≤ 16 := by rw [HNP.out.2]; exact Nat.mul_le_mul HNP.out.1.2 HNP.out.1.2
 have hw16' : (x.wn : Int) ≤ 16 := by omega
 obtain ⟨b0, b1, b2, b3⟩ := B1.out.2.1
 rw [t]
 clear t
 obtain ⟨d0, -⟩ := (HRB.out (w1.alloc (.cells #[.int .i64 (-1)] 3)) (below_allocL _ _)).1
 go_wp2_with fail
 clear d0
 have bc : (w1.alloc (.cells #[.int .i64 (-1)] 3)).cell? ⟨w1.heap.size, 0, none⟩ = some (.int .i64 (-1)) := by
  rw [World.cell?_alloc_mark]
  rfl
 refine (repeatOne w1.heap.size x.pn (-1) HNP.out.1 _ (by simp) bc).mono ?_
 rintro e w2 ⟨ca, cc, rfl, o2, q2⟩
 have F2 : Hid (PrL w1 w1.heap.size x.y (sh0 x.pn x.wn) false true false false undef (.slice ca x.pn cc) undef undef (fun _ => False) w2) := (PrL.start (vc := undef) (Nat.le_refl _) (below_allocL _ _)).cut q2 o2
 have hHeld : (fun w' : World => BoxC w' w.heap.size (.slice x.pa x.pn x.pc) (.slice x.sa x.sn x.sc) (.slice x.wa x.wn x.wc) (.slice x.ha x.hn x.hc)) w2.drew := (HRB.out w2 F2.out.be).1
 clear o2 q2 bc b0 b1 b2 b3
 obtain ⟨b0, b1, b2, b3⟩ := (HRB.out w2 F2.out.be).1
 go_wp2_with fail
 clear b0 b1 b2 b3
 refine wp_region_G (fun w' => BoxC w' w.heap.size (.slice x.pa x.pn x.pc) (.slice x.sa x.sn x.sc) (.slice x.wa x.wn x.wc) (.slice x.ha x.hn x.hc)) (fun i => i == 9) (by kernel_rfl) ?_
 refine wpG_k 0 rfl hHeld ?_
 refine wpG_k 2 rfl hHeld ?_
 refine wpG_k 3 rfl hHeld ?_
 refine wpG_k 5 rfl hHeld ?_
 clear hHeld
 refine wpG_run (fun s : Bool × Bool × Bool × Bool => #[true, s.1, true, true, s.2.1, true, s.2.2.1, s.2.2.2, false, false]) (fun s => outI s.1 1 ++ (outI s.2.1 4 ++ (outI s.2.2.1 6 ++ outI (s.2.2.2 || !(s.2.1 && s.2.2.1)) 7))) (fun s y wq => (s.2.2.2 = true → s.2.1 = true ∧ s.2.2.1 = true) ∧ ∃ v18 v21 v23 v24, y = ⟨#[x.v, .pointer (some ⟨w.heap.size, 0, none⟩), .pointer (some ⟨w.heap.size + 1, 0, none⟩), .slice ca x.pn cc, .int .i64 x.wn, .agg #[.slice x.pa x.pn x.pc, .slice x.sa x.sn x.sc, .slice x.wa x.wn x.wc, .slice x.ha x.hn x.hc], .bool true, .bool false, undef, .slice (some ⟨w1.heap.size, 0, none⟩) 1 1, .pointer (some ⟨w.heap.size, 0, none⟩), .slice x.pa x.pn x.pc, .int .i64 x.pn, .slice ca x.pn cc, .pointer (some ⟨w.heap.size, 2, none⟩), .slice x.wa x.wn x.wc, .int .i64 x.wn, .agg #[.slice x.pa x.pn x.pc, .slice x.sa x.sn x.sc, .slice x.wa x.wn x.wc, .slice x.ha x.hn x.hc], v18, .slice ca x.pn cc, .int .i64 x.wn, v21, .int .i64 x.wn, v23, v24, undef], []⟩ ∧ (s.2.2.2 = true → v24 = .agg #[.bool false, .slice ca x.pn cc, v21, v23]) ∧ PrL w1 w1.heap.size x.y (sh0 x.pn x.wn) s.1 true s.2.1 s.2.2.1 v18 (.slice ca x.pn cc) v21 v23 (fun _ => False) wq) (fun s => s.1 && s.2.2.2) ?_ ?_ ?_ ?_ _ (false, false, false, false) _ _ _ (by kernel_rfl) ⟨(fun e => by cases e), _, _, _, _, rfl, (fun e => by cases e), F2.out.drew⟩ (by kernel_rfl)
 ·rintro ⟨d, b, c, e⟩ hs
  cases d <;> cases b <;> cases c <;> cases e <;> first | exact absurd hs (by decide) | kernel_rfl
 ·rintro ⟨d, b, c, e⟩ hs
  cases d <;> cases b <;> cases c <;> cases e <;> first | exact absurd hs (by decide) | exact (by decide)
 ·rintro ⟨d, b, c, e⟩ y wq ⟨hbc, v18, v21, v23, v24, rfl, h24, F⟩ hs
  have hS : ∀ wx, Below wq.heap.size wq wx → BoxC wx w.heap.size (.slice x.pa x.pn x.pc) (.slice x.sa x.sn x.sc) (.slice x.wa x.wn x.wc) (.slice x.ha x.hn x.hc) := fun wx hb => (HRB.out wx (F.be.trans (hb.mono F.be.size))).1
  intro i hi
  rw [List.mem_append, List.mem_append, List.mem_append] at hi
  rcases hi with hi | hi | hi | hi
  all_goals obtain ⟨he, rfl⟩ := outI_mem hi
  ·refine ⟨(true, b, c, e), rfl, wpOp_step rfl fun K hK => ?_⟩
   refine stepR_call rfl 36 _ _ rfl #[x.v] (by simp [Act.eval, SysIn.v, sysV]) (run_enter Tryz.func36 (by kernel_rfl) rfl) (HC4.out wq (B1.out.1.trans (F.be.mono B1.out.1.size))) ?_
   rintro e5 w5 ⟨v5, rfl, o5, q5⟩
   exact ⟨_, rfl, hK _ _ ⟨fun _ _ => hS _ q5, hbc, v5, v21, v23, v24, rfl, h24, F.sys q5 o5⟩⟩
  ·refine ⟨(d, true, c, e), rfl, wpOp_step rfl fun K hK => ?_⟩
   have hmk := run_make_bool x.wn (by omega) wq
   go_simp
   refine hK _ _ ⟨fun _ _ => hS _ (below_allocL _ _), (fun h => ⟨rfl, (hbc h).2⟩), v18, .slice (some ⟨wq.heap.size, 0, none⟩) x.wn x.wn, v23, v24, rfl, (fun h => ?_), F.open' (below_allocL _ _) (madeBo wq x.wn (by omega))⟩
   have hb1 : b = true := (hbc h).1
   have hb2 : b = false := he
   rw [hb1] at hb2
   cases hb2
  ·refine ⟨(d, b, true, e), rfl, wpOp_step rfl fun K hK => ?_⟩
   have hmk := run_make_nils kndZZ1 nilInts x.wn (by omega) wq
   go_simp
   refine hK _ _ ⟨fun _ _ => hS _ (below_allocL _ _), (fun h => ⟨(hbc h).1, rfl⟩), v18, v21, .slice (some ⟨wq.heap.size, 0, none⟩) x.wn x.wn, v24, rfl, (fun h => ?_), F.kept (below_allocL _ _) (madeZZ wq x.wn (by omega))⟩
   have hb1 : c = true := (hbc h).2
   have hb2 : c = false := he
   rw [hb1] at hb2
   cases hb2
  ·obtain rfl : e = false := by cases e <;> simp_all
   obtain ⟨rfl, rfl⟩ : b = true ∧ c = true := by cases b <;> cases c <;> simp_all
   refine ⟨(d, true, true, true), rfl, wpOp_step rfl fun K hK => ?_⟩
   obtain ⟨ck, -, -, hO, hK4, -⟩ := F.ow
   obtain ⟨a6, c6, rfl⟩ := ownsRow_slice (hO rfl).1
   obtain ⟨u7, o7⟩ := hK4 rfl
   obtain ⟨a7, c7, rfl⟩ := ownsRow_slice o7.row
   go_simp
   exact hK _ _ ⟨fun h _ => h, (fun _ => ⟨rfl, rfl⟩), v18, _, _, _, rfl, (fun _ => rfl), F⟩
 ·rintro ⟨d, b, c, e⟩ y wq ⟨hbc, v18, v21, v23, v24, rfl, h24, F⟩ hs
  obtain ⟨rfl, rfl⟩ : d = true ∧ e = true := by cases d <;> cases e <;> simp_all
  obtain ⟨rfl, rfl⟩ : b = true ∧ c = true := hbc rfl
  obtain rfl := h24 rfl
  obtain ⟨vp, v2, vw, vh, rfl, OL⟩ := F.live
  obtain ⟨a1, m1, a2, m2, a3, m3, a4, m4, a5, m5, a6, m6, a7, m7, ev, -⟩ := OwnLz.of OL
  simp only [Value.agg.injEq, Array.mk.injEq, List.cons.injEq, and_true] at ev
  obtain ⟨rfl, rfl, rfl, rfl, -, -, rfl, rfl⟩ := ev
  have LV : Hid (OwnLv wq w1.heap.size x.y (sh0 x.pn x.wn) (.agg #[.slice a1 x.y.pn m1, .slice a2 x.y.sn m2, .slice a3 x.y.wn m3, .slice a4 x.y.hn m4, .bool false, .slice ca x.pn cc, .slice a6 (sh0 x.pn x.wn).ol m6, .slice a7 (sh0 x.pn x.wn).kn m7]) ∧ Below w1.heap.size w1 wq) := ⟨OL, F.be⟩
  clear F OL hbc h24 hs
  obtain ⟨r0, r1, r2, r3, r4, r5, r6, r7⟩ := (HRB.out wq LV.out.2).2.1
  have rf := (HRB.out wq LV.out.2).2.2.1
  have l1 := (HRB.out wq LV.out.2).2.2.2
  refine wpG_one 8 rfl (by kernel_rfl) (fun K hK => ?_)
  go_simp
  refine hK.out _ _ (fun _ => (HRB.out wq LV.out.2).1) ?_
  clear hK K
  (try simp only [List.setIfInBounds_toArray, List.set_cons_zero, List.set_cons_succ])
  refine wpG_one 9 rfl (by kernel_rfl) (fun K hK => ?_)
  go_simp
  refine hK.out _ _ (fun h => absurd h (by decide)) ?_
  clear hK K
  (try simp only [List.setIfInBounds_toArray, List.set_cons_zero, List.set_cons_succ])
  refine wpG_done (by kernel_rfl) ?_ _
  have X9 : Hid (BoxH (set8 wq (w.heap.size + 1) (.slice a1 x.y.pn m1) (.slice a2 x.y.sn m2) (.slice a3 x.y.wn m3) (.slice a4 x.y.hn m4) (.bool false) (.slice ca x.pn cc) (.slice a6 (sh0 x.pn x.wn).ol m6) (.slice a7 (sh0 x.pn x.wn).kn m7)) (w.heap.size + 1) (.slice a1 x.y.pn m1) (.slice a2 x.y.sn m2) (.slice a3 x.y.wn m3) (.slice a4 x.y.hn m4) (.bool false) (.slice ca x.pn cc) (.slice a6 (sh0 x.pn x.wn).ol m6) (.slice a7 (sh0 x.pn x.wn).kn m7) ∧ OwnLv (set8 wq (w.heap.size + 1) (.slice a1 x.y.pn m1) (.slice a2 x.y.sn m2) (.slice a3 x.y.wn m3) (.slice a4 x.y.hn m4) (.bool false) (.slice ca x.pn cc) (.slice a6 (sh0 x.pn x.wn).ol m6) (.slice a7 (sh0 x.pn x.wn).kn m7)) w1.heap.size x.y (sh0 x.pn x.wn) (.agg #[.slice a1 x.y.pn m1, .slice a2 x.y.sn m2, .slice a3 x.y.wn m3, .slice a4 x.y.hn m4, .bool false, .slice ca x.pn cc, .slice a6 (sh0 x.pn x.wn).ol m6, .slice a7 (sh0 x.pn x.wn).kn m7] ) ∧ Below w.heap.size w (set8 wq (w.heap.size + 1) (.slice a1 x.y.pn m1) (.slice a2 x.y.sn m2) (.slice a3 x.y.wn m3) (.slice a4 x.y.hn m4) (.bool false) (.slice ca x.pn cc) (.slice a6 (sh0 x.pn x.wn).ol m6) (.slice a7 (sh0 x.pn x.wn).kn m7))) := ⟨boxH_set8 (HRB.out wq LV.out.2).2.1 _ _ _ _ _ _ _ _, LV.out.1.set8 LR.out _ _ _ _ _ _ _ _, below_set8 (B1.out.1.trans (LV.out.2.mono B1.out.1.size)) hM _ _ _ _ _ _ _ _⟩
  unfold set8 at X9
  clear r0 r1 r2 r3 r4 r5 r6 r7 rf LV
  generalize ((((((((wq.setCell ⟨w.heap.size + 1, 0, none⟩ (.slice a1 x.y.pn m1)).setCell ⟨w.heap.size + 1, 1, none⟩ (.slice a2 x.y.sn m2)).setCell ⟨w.heap.size + 1, 2, none⟩ (.slice a3 x.y.wn m3)).setCell ⟨w.heap.size + 1, 3, none⟩ (.slice a4 x.y.hn m4)).setCell ⟨w.heap.size + 1, 4, none⟩ (.bool false)).setCell ⟨w.heap.size + 1, 5, none⟩ (.slice ca x.pn cc)).setCell ⟨w.heap.size + 1, 6, none⟩ (.slice a6 (sh0 x.pn x.wn).ol m6)).setCell ⟨w.heap.size + 1, 7, none⟩ (.slice a7 (sh0 x.pn x.wn).kn m7)) = w9 at *
  obtain ⟨r0, r1, r2, r3, r4, r5, r6, r7⟩ := X9.out.1
  go_wp2
  exact bodyPost_ret (v := .agg #[.slice a1 x.y.pn m1, .slice a2 x.y.sn m2, .slice a3 x.y.wn m3, .slice a4 x.y.hn m4, .bool false, .slice ca x.pn cc, .slice a6 (sh0 x.pn x.wn).ol m6, .slice a7 (sh0 x.pn x.wn).kn m7]) (by simp [results, Tryz.results10, go_sem, r0, r1, r2, r3, r4, r5, r6, r7]) rfl ⟨_, rfl, by rw [HV.out.1, HV.out.2]; exact X9.out.2.1.base (Nat.le_of_lt (Nat.lt_of_succ_lt LR.out)), X9.out.2.2⟩
def sh1 (n m k : Nat) : Sh := ⟨false, n, fun i => if i < k then -1 else if i < n then 0 else -1, m, fun _ => false, m, fun _ => 0, fun _ _ => 0⟩
theorem sh1_next (n m k : Nat) : ({ sh1 n m k with cH := fun i => if i = k then -1 else (sh1 n m k).cH i } : Sh) = sh1 n m (k + 1) := by
 have e : (fun i : Nat => if i = k then (-1 : Int) else if i < k then -1 else if i < n then 0 else -1) = fun i => if i < k + 1 then -1 else if i < n then 0 else -1 := funext fun i => by
  by_cases h : i = k
  ·rw [if_pos h, if_pos (by omega)]
  ·rw [if_neg h]
   by_cases h2 : i < k
   ·rw [if_pos h2, if_pos (by omega)]
   ·rw [if_neg h2, if_neg (show ¬ i < k + 1 by omega)]
 show Sh.mk _ _ _ _ _ _ _ _ = Sh.mk _ _ _ _ _ _ _ _
 simp only [Sh.mk.injEq]
 exact ⟨rfl, rfl, e, rfl, rfl, rfl, rfl, rfl⟩
theorem sh1_all (n m : Nat) : sh1 n m n = sh0 n m := by
 have e : (fun i : Nat => if i < n then (-1 : Int) else if i < n then 0 else -1) = fun _ => -1 := funext fun i => by
  by_cases h : i < n
  ·rw [if_pos h]
  ·rw [if_neg h, if_neg h]
 show Sh.mk _ _ _ _ _ _ _ _ = Sh.mk _ _ _ _ _ _ _ _
 simp only [Sh.mk.injEq, true_and, and_true]
 exact e
theorem run_make_zz (n : Nat) (hn : n ≤ 1048576) (w : World) :
  (Instr.makeSlice 35 (.int .i64 (n : Int)) (.int .i64 (n : Int))).run Tryz.prog w = .ok (.slice (some ⟨w.heap.size, 0, none⟩) n n) (w.alloc (.cells (madeCells #[.int .i64 0] n) 3)) := by
 have hinfo : (Tryz.prog.info? 3).map (fun i => (i.zero, i.size, i.bytes)) = some (some (.int .i64 0), 1, 8) := by kernel_rfl
 cases hi : Tryz.prog.info? 3 with
 | none => rw [hi] at hinfo; cases hinfo
 | some i =>
  rw [hi] at hinfo
  simp only [Option.map_some, Option.some.injEq, Prod.mk.injEq] at hinfo
  obtain ⟨hz, hs, hb⟩ := hinfo
  have h := run_make (P := Tryz.prog) w 35 3 i _ Tryz.underlying35 hi hz .i64 .i64 (n : Int) (n : Int) (by omega) (Int.le_refl _) (by rw [hb]; omega) (by omega)
  rw [hs] at h
  simpa [Value.cells] using h
theorem madeZ1 (w : World) (n m : Nat) (hn : n ≤ 1048576) : (w.alloc (.cells (madeCells #[.int .i64 0] n) 3)).ownsRow w.heap.size 3 1 (.slice (some ⟨w.heap.size, 0, none⟩) n n) n (fZ (sh1 n m 0).cH n) := by
 have e : madeCells #[.int .i64 0] n = (fZ (sh1 n m 0).cH n).toArray := by
  apply Array.ext_getElem?
  intro i
  have e0 : (fZ (sh1 n m 0).cH n).toArray[i]? = (fZ (sh1 n m 0).cH n)[i]? := by simp
  rw [e0]
  by_cases hi : i < n
  ·rw [fZ_at (h := (sh1 n m 0).cH) hi]
   unfold madeCells sh1
   simp [hi, Nat.mod_one]
  ·rw [List.getElem?_eq_none (l := fZ (sh1 n m 0).cH n) (by rw [fZ_len]; omega)]
   unfold madeCells
   simp [hi]
 rw [e]
 exact World.ownsRow_lit (base := w.heap.size) (e := 3) (size := 1) w (fZ (sh1 n m 0).cH n).toArray n (Nat.le_refl _) (by unfold maxLen; omega) (by simp [fZ_len])
theorem fZ_set (h : Nat → Int) (n j : Nat) (x : Int) : (fZ h n).set j (.int .i64 x) = fZ (fun i => if i = j then x else h i) n := by
 apply List.ext_getElem?
 intro i
 rw [List.getElem?_set]
 by_cases hi : i < n
 ·rw [fZ_at (h := fun i => if i = j then x else h i) hi, fZ_at (h := h) hi]
  by_cases e : j = i
  ·rw [if_pos e, if_pos e.symm, if_pos (by rw [fZ_len]; omega)]
  ·rw [if_neg e, if_neg fun h => e h.symm]
 ·rw [List.getElem?_eq_none (l := fZ (fun i => if i = j then x else h i) n) (by rw [fZ_len]; omega), List.getElem?_eq_none (l := fZ h n) (by rw [fZ_len]; omega)]
  by_cases e : j = i
  ·rw [if_pos e, if_neg (by rw [fZ_len]; omega)]
  ·rw [if_neg e]
section
variable {W1 : World} {B : Nat} {y : Sy} {q : Sh} {fs fc fo fk : Bool} {vs vc vo vk v : Value} {X : Nat → Prop} {w w' : World}
theorem PrL.sub (h : PrL W1 B y q fs fc fo fk vs vc vo vk X w) {X' : Nat → Prop} (hX : ∀ k, X' k → X k) : PrL W1 B y q fs fc fo fk vs vc vo vk X' w := by
 obtain ⟨c, h1, h2, h3, h4, h5⟩ := h.ow
 exact ⟨h.be, h.hB, c, h1, h2, h3, h4, fun k hk => h5 k (hX k hk)⟩
theorem PrL.cutAt {g cap : Nat} (h : PrL W1 W1.heap.size y q fs true fo fk vs (.slice (some ⟨g, 0, none⟩) q.cn cap) vo vk X w) (j : Nat) (x : Int) : PrL W1 W1.heap.size y { q with cH := fun i => if i = j then x else q.cH i } fs true fo fk vs (.slice (some ⟨g, 0, none⟩) q.cn cap) vo vk X (w.setCell ⟨g, j, none⟩ (.int .i64 x)) := by
 obtain ⟨c, h1, h2, h3, h4, h5⟩ := h.ow
 obtain ⟨oc, hc⟩ := h2 rfl
 have hg := hc g rfl
 have hk : ∀ k i, c k = i → i ≠ 5 → (w.setCell ⟨g, j, none⟩ (.int .i64 x)).heap[k]? = w.heap[k]? := fun k i hc' hi => Below.heap_setCell _ _ _ _ fun e => hi (by
  have e2 : k = g := e
  rw [← hc', e2]
  exact hg.2)
 refine ⟨h.be.setCell hg.1 _, h.hB, c, fun e => ?_, fun _ => ?_, fun e => ?_, fun e => ?_, fun k hX' => ⟨by simpa using (h5 k hX').1, (h5 k hX').2⟩⟩
 ·obtain ⟨vp, v2, vw, vh, up, us, uw, uh, ev, o⟩ := h1 e
  exact ⟨vp, v2, vw, vh, up, us, uw, uh, ev, o.p.keep fun k h _ => hk k 1 h.2 (by decide), o.s.keep fun k h _ => hk k 2 h.2 (by decide), o.t.keep fun k h _ => hk k 3 h.2 (by decide), o.h.keep fun k h _ => hk k 4 h.2 (by decide)⟩
 ·have := (World.ownsRow.stored oc j (.int .i64 x)).1
  rw [fZ_set] at this
  exact ⟨this, hc⟩
 ·obtain ⟨o, hc⟩ := h3 e
  exact ⟨ownsRow_blkL o fun k h => hk k 6 (hc k h).2 (by decide), hc⟩
 ·obtain ⟨uk, o⟩ := h4 e
  exact ⟨uk, o.keep fun k h _ => hk k 7 h.2 (by decide)⟩
end
theorem boxC_set4 {w : World} {N : Nat} {d0 d1 d2 d3 : Value} (h : BoxC w N d0 d1 d2 d3) (c0 c1 c2 c3 : Value) : BoxC ((((w.setCell ⟨N, 0, none⟩ c0).setCell ⟨N, 1, none⟩ c1).setCell ⟨N, 2, none⟩ c2).setCell ⟨N, 3, none⟩ c3) N c0 c1 c2 c3 := by
 obtain ⟨r0, r1, r2, r3⟩ := h
 refine ⟨?_, ?_, ?_, ?_⟩ <;> go_cell
theorem specShotNew_any (x : SysIn) (w : World) (hG : SysG w x) (hL : x.Len) (hcap : ∀ i, i < x.hn → x.hL i ≤ x.hC i) :
  Calls Tryz.prog 8 #[x.v] w (SnR x.y w) := by
 have HS : Hid (∀ wx, Below w.heap.size w wx → Calls Tryz.prog 28 #[x.v] wx fun e w' => e = .returned (.bool x.y.okB) ∧ Below wx.heap.size wx w') := fun wx hb => specSysOk_any x wx (hG.below hb) hL hcap
 have HC4 : Hid (∀ wx, Below w.heap.size w wx → Calls Tryz.prog 29 #[x.v] wx fun e w' => ∃ v, e = .returned v ∧ OwnSys false w' wx.heap.size x.y v ∧ Below wx.heap.size wx w') := fun wx hb => (l4Copy_any x wx (hG.below hb) hL).mono fun e w' h => by
  obtain ⟨v, e, ⟨c, vp, vs, vw, vh, up, us, uw, uh, ev, o⟩, b⟩ := h
  exact ⟨v, e, ⟨c, vp, vs, vw, vh, up, us, uw, uh, ev, o.weak⟩, b⟩
 have BW : Hid (Below w.heap.size w ((w.alloc (oQ4 x.pa x.pn x.pc x.sa x.sn x.sc x.wa x.wn x.wc x.ha x.hn x.hc)).alloc (zQ5))) := (below_allocL _ _).trans ((below_allocL _ _).mono (by simp))
 have NB : Hid (BoxC ((w.alloc (oQ4 x.pa x.pn x.pc x.sa x.sn x.sc x.wa x.wn x.wc x.ha x.hn x.hc)).alloc (zQ5)) w.heap.size (.slice x.pa x.pn x.pc) (.slice x.sa x.sn x.sc) (.slice x.wa x.wn x.wc) (.slice x.ha x.hn x.hc)) := (BoxC.new w _ _ _ _ _).below (below_allocL _ _)
 have RB : Hid (BoxH ((w.alloc (oQ4 x.pa x.pn x.pc x.sa x.sn x.sc x.wa x.wn x.wc x.ha x.hn x.hc)).alloc (zQ5)) (w.heap.size + 1) (.slice none 0 0) (.slice none 0 0) (.slice none 0 0) (.slice none 0 0) (.bool false) (.slice none 0 0) (.slice none 0 0) (.slice none 0 0) ∧ ∀ j, ((w.alloc (oQ4 x.pa x.pn x.pc x.sa x.sn x.sc x.wa x.wn x.wc x.ha x.hn x.hc)).alloc (zQ5)).frozen? ⟨w.heap.size + 1, j, none⟩ = false) := by
  have e : (w.alloc (oQ4 x.pa x.pn x.pc x.sa x.sn x.sc x.wa x.wn x.wc x.ha x.hn x.hc)).heap.size = w.heap.size + 1 := by simp
  rw [← e]
  exact ⟨BoxH.new _ _ _ _ _ _ _ _ _ _, fun j => new_frozen _ _ _ _ rfl⟩
 have hM : w.heap.size ≤ w.heap.size + 1 := Nat.le_succ _
 clear hG hL hcap
 go_enter Tryz.func8, Tryz.ntmps8
 go_wp2_with fail
 generalize (w.alloc (oQ4 x.pa x.pn x.pc x.sa x.sn x.sc x.wa x.wn x.wc x.ha x.hn x.hc)).alloc (zQ5) = W2 at *
 refine (HS.out W2 BW.out).mono ?_
 rintro e w1 ⟨rfl, q1⟩
 have B1 : Hid (Below w.heap.size w w1 ∧ BoxC w1 w.heap.size (.slice x.pa x.pn x.pc) (.slice x.sa x.sn x.sc) (.slice x.wa x.wn x.wc) (.slice x.ha x.hn x.hc) ∧ BoxH w1 (w.heap.size + 1) (.slice none 0 0) (.slice none 0 0) (.slice none 0 0) (.slice none 0 0) (.bool false) (.slice none 0 0) (.slice none 0 0) (.slice none 0 0) ∧ ∀ j, w1.frozen? ⟨w.heap.size + 1, j, none⟩ = false) := ⟨BW.out.trans (q1.mono BW.out.size), NB.out.below q1, RB.out.1.below q1, fun j => ((bcell q1).2 _ j RB.out.1.lt).trans (RB.out.2 j)⟩
 clear q1 BW NB RB HS
 have LR : Hid (w.heap.size + 1 < w1.heap.size) := B1.out.2.2.1.lt
 have HRB : Hid (∀ wx, Below w1.heap.size w1 wx → BoxC wx w.heap.size (.slice x.pa x.pn x.pc) (.slice x.sa x.sn x.sc) (.slice x.wa x.wn x.wc) (.slice x.ha x.hn x.hc) ∧ BoxH wx (w.heap.size + 1) (.slice none 0 0) (.slice none 0 0) (.slice none 0 0) (.slice none 0 0) (.bool false) (.slice none 0 0) (.slice none 0 0) (.slice none 0 0) ∧ (∀ j, wx.frozen? ⟨w.heap.size + 1, j, none⟩ = false) ∧ w.heap.size + 1 < wx.heap.size) := fun wx hb => ⟨B1.out.2.1.below hb, B1.out.2.2.1.below hb, fun j => ((bcell hb).2 _ j LR.out).trans (B1.out.2.2.2 j), Nat.lt_of_lt_of_le LR.out hb.size⟩
 rcases Bool.eq_false_or_eq_true x.y.okB with t | t
 case inr =>
  have HV : Hid (snY x.y = x.y.nil ∧ snQ x.y = sh0 0 0) := ⟨if_neg (by rw [t]; simp), if_neg (by rw [t]; simp)⟩
  obtain ⟨⟨r0, r1, r2, r3, r4, r5, r6, r7⟩, rf⟩ := B1.out.2.2
  have l1 := LR.out
  rw [t]
  clear t
  go_wp2
  exact bodyPost_ret (v := liveZ) (by simp [results, Tryz.results8, go_sem, r0, r1, r2, r3, r4, r5, r6, r7, liveZ]) rfl ⟨_, rfl, by rw [HV.out.1, HV.out.2]; exact OwnLv.zero _ _ _, below_set8 B1.out.1 hM _ _ _ _ _ _ _ _⟩
 have HO : Hid (x.y.Ok ∧ x.y.okB = true) := ⟨Sy.ok_of t, t⟩
 have HNP : Hid ((1 ≤ x.pn ∧ x.pn ≤ 4) ∧ x.wn = x.pn * x.pn) := ⟨HO.out.1.cn.1, HO.out.1.cn.2.2.2⟩
 have HV : Hid (snY x.y = x.y ∧ snQ x.y = sh0 x.pn x.wn) := ⟨if_pos t, if_pos t⟩
 have h4 : (x.pn : Int) ≤ 4 := by have := HNP.out; omega
 have hw16 : x.wn ≤ 16 := by rw [HNP.out.2]; exact Nat.mul_le_mul HNP.out.1.2 HNP.out.1.2
 have hw16' : (x.wn : Int) ≤ 16 := by omega
 have hm0 : (x.pn : Int) * (x.pn : Int) = (x.wn : Int) := by rw [HNP.out.2]; simp
 obtain ⟨b0, b1, b2, b3⟩ := B1.out.2.1
 rw [t]
 clear t
 go_wp2_with fail
 clear b0 b1 b2 b3
 have F0 : Hid (PrL w1 w1.heap.size x.y (sh1 x.pn x.wn 0) false false false false undef undef undef undef (fun _ => False) w1.drew) := (PrL.start (Nat.le_refl _) (Below.refl _ _)).drew
 refine wp_region_G (fun _ => True) (fun _ => false) (by kernel_rfl) ?_
 refine wpG_k 0 rfl trivial ?_
 refine wpG_k 2 rfl trivial ?_
 refine wpG_k 3 rfl trivial ?_
 refine wpG_k 6 rfl trivial ?_
 refine wpG_k 7 rfl trivial ?_
 refine wpG_take 4 rfl trivial ⟨.int .i64 (x.wn : Int), fun wq _ => ?_, ?_⟩
 ·go_simp
  rw [IntKind.wrap_i64]
  omega
 (try simp only [Act.put, List.setIfInBounds_toArray, List.set_cons_zero, List.set_cons_succ])
 refine wpG_take 8 rfl trivial ⟨.int .i64 (x.wn : Int), fun wq _ => ?_, ?_⟩
 ·go_simp
  rw [IntKind.wrap_i64]
  omega
 (try simp only [Act.put, List.setIfInBounds_toArray, List.set_cons_zero, List.set_cons_succ])
 refine wpG_run (fun s : Bool × Bool × Bool × Bool × Bool => #[true, s.1, true, true, true, s.2.1, true, true, true, s.2.2.1, s.2.2.2.1, s.2.2.2.2, false]) (fun s => outI s.1 1 ++ (outI s.2.1 5 ++ (outI s.2.2.1 9 ++ (outI (s.2.2.2.1 || !(s.1 && (s.2.1 && s.2.2.1))) 10 ++ outI s.2.2.2.2 11)))) (fun s y wq => (s.2.2.2.1 = true → s.1 = true ∧ s.2.1 = true ∧ s.2.2.1 = true) ∧ ∃ v14 v18 v22 v23 v4, y = ⟨#[x.v, .pointer (some ⟨w.heap.size, 0, none⟩), .pointer (some ⟨w.heap.size + 1, 0, none⟩), .int .i64 x.pn, v4, undef, .agg #[.slice x.pa x.pn x.pc, .slice x.sa x.sn x.sc, .slice x.wa x.wn x.wc, .slice x.ha x.hn x.hc], .bool true, .bool false, undef, .pointer (some ⟨w.heap.size, 0, none⟩), .slice x.pa x.pn x.pc, .int .i64 x.pn, .int .i64 x.pn, v14, .int .i64 x.pn, .int .i64 x.pn, .int .i64 x.wn, v18, .int .i64 x.pn, .int .i64 x.pn, .int .i64 x.wn, v22, v23, undef, undef, undef, undef, undef, undef, undef, undef, undef, undef, undef, undef, undef], []⟩ ∧ (s.2.2.2.1 = true → v23 = .agg #[.bool false, v14, v18, v22]) ∧ (s.2.2.2.2 = true → ∃ N, v4 = .pointer (some ⟨N, 0, none⟩) ∧ w1.heap.size ≤ N ∧ BoxC wq N (.bool false) (.slice none 0 0) (.slice none 0 0) (.slice none 0 0) ∧ ∀ j, wq.frozen? ⟨N, j, none⟩ = false) ∧ PrL w1 w1.heap.size x.y (sh1 x.pn x.wn 0) false s.1 s.2.1 s.2.2.1 undef v14 v18 v22 (fun k => s.2.2.2.2 = true ∧ v4 = .pointer (some ⟨k, 0, none⟩)) wq) (fun s => s.2.2.2.1 && s.2.2.2.2) ?_ ?_ ?_ ?_ _ (false, false, false, false, false) _ _ _ (by kernel_rfl) ⟨(fun e => by cases e), _, _, _, _, _, rfl, (fun e => by cases e), (fun e => by cases e), F0.out.sub fun k h => by cases h.1⟩ (by kernel_rfl)
 ·rintro ⟨a, b, c, f, e⟩ hs
  cases a <;> cases b <;> cases c <;> cases f <;> cases e <;> first | exact absurd hs (by decide) | kernel_rfl
 ·rintro ⟨a, b, c, f, e⟩ hs
  cases a <;> cases b <;> cases c <;> cases f <;> cases e <;> first | exact absurd hs (by decide) | exact (by decide)
 ·rintro ⟨a, b, c, f, e⟩ y wq ⟨hbc, v14, v18, v22, v23, v4, rfl, h24, hE, F⟩ hs
  have hE2 : ∀ wx, Below wq.heap.size wq wx → e = true → ∃ N, v4 = .pointer (some ⟨N, 0, none⟩) ∧ w1.heap.size ≤ N ∧ BoxC wx N (.bool false) (.slice none 0 0) (.slice none 0 0) (.slice none 0 0) ∧ ∀ j, wx.frozen? ⟨N, j, none⟩ = false := fun wx hb he => by
   obtain ⟨N, e1, e2, e3, e4⟩ := hE he
   have hl := World.block_lt_of_cell? _ _ e3.1
   exact ⟨N, e1, e2, e3.below hb, fun j => ((bcell hb).2 _ j hl).trans (e4 j)⟩
  intro i hi
  rw [List.mem_append, List.mem_append, List.mem_append, List.mem_append] at hi
  rcases hi with hi | hi | hi | hi | hi
  all_goals obtain ⟨he, rfl⟩ := outI_mem hi
  ·refine ⟨(true, b, c, f, e), rfl, wpOp_step rfl fun K hK => ?_⟩
   have hmk := run_make_zz x.pn (by omega) wq
   go_simp
   refine hK _ _ ⟨fun _ _ => trivial, (fun h => ⟨rfl, (hbc h).2⟩), .slice (some ⟨wq.heap.size, 0, none⟩) x.pn x.pn, v18, v22, v23, v4, rfl, (fun h => ?_), hE2 _ (below_allocL _ _), F.cut (below_allocL _ _) (madeZ1 wq x.pn x.wn (by omega))⟩
   have hb1 : a = true := (hbc h).1
   have hb2 : a = false := he
   rw [hb1] at hb2
   cases hb2
  ·refine ⟨(a, true, c, f, e), rfl, wpOp_step rfl fun K hK => ?_⟩
   have hmk := run_make_bool x.wn (by omega) wq
   go_simp
   refine hK _ _ ⟨fun _ _ => trivial, (fun h => ⟨(hbc h).1, rfl, (hbc h).2.2⟩), v14, .slice (some ⟨wq.heap.size, 0, none⟩) x.wn x.wn, v22, v23, v4, rfl, (fun h => ?_), hE2 _ (below_allocL _ _), F.open' (below_allocL _ _) (madeBo wq x.wn (by omega))⟩
   have hb1 : b = true := (hbc h).2.1
   have hb2 : b = false := he
   rw [hb1] at hb2
   cases hb2
  ·refine ⟨(a, b, true, f, e), rfl, wpOp_step rfl fun K hK => ?_⟩
   have hmk := run_make_nils kndZZ1 nilInts x.wn (by omega) wq
   go_simp
   refine hK _ _ ⟨fun _ _ => trivial, (fun h => ⟨(hbc h).1, (hbc h).2.1, rfl⟩), v14, v18, .slice (some ⟨wq.heap.size, 0, none⟩) x.wn x.wn, v23, v4, rfl, (fun h => ?_), hE2 _ (below_allocL _ _), F.kept (below_allocL _ _) (madeZZ wq x.wn (by omega))⟩
   have hb1 : c = true := (hbc h).2.2
   have hb2 : c = false := he
   rw [hb1] at hb2
   cases hb2
  ·obtain rfl : f = false := by cases f <;> simp_all
   obtain ⟨rfl, rfl, rfl⟩ : a = true ∧ b = true ∧ c = true := by cases a <;> cases b <;> cases c <;> simp_all
   refine ⟨(true, true, true, true, e), rfl, wpOp_step rfl fun K hK => ?_⟩
   obtain ⟨ck, -, hC, hO, hK4, -⟩ := F.ow
   obtain ⟨a5, c5, rfl⟩ := ownsRow_slice (hC rfl).1
   obtain ⟨a6, c6, rfl⟩ := ownsRow_slice (hO rfl).1
   obtain ⟨u7, o7⟩ := hK4 rfl
   obtain ⟨a7, c7, rfl⟩ := ownsRow_slice o7.row
   go_simp
   exact hK _ _ ⟨fun _ _ => trivial, (fun _ => ⟨rfl, rfl, rfl⟩), _, _, _, _, v4, rfl, (fun _ => rfl), hE, F⟩
  ·obtain rfl : e = false := he
   refine ⟨(a, b, c, f, true), rfl, wpOp_step rfl fun K hK => ?_⟩
   go_simp
   exact hK _ _ ⟨fun _ _ => trivial, hbc, v14, v18, v22, v23, .pointer (some ⟨wq.heap.size, 0, none⟩), rfl, h24, (fun _ => ⟨_, rfl, F.be.size, BoxC.new wq _ _ _ _ _, fun j => new_frozen _ _ _ _ rfl⟩), F.box _ _ fun k hk => .inr (by have := hk.2; simp at this; exact this.symm)⟩
 rintro ⟨a, b, c, f, e⟩ y wq ⟨hbc, v14, v18, v22, v23, v4, rfl, h24, hE, F⟩ hs
 obtain ⟨rfl, rfl⟩ : f = true ∧ e = true := by cases f <;> cases e <;> simp_all
 obtain ⟨rfl, rfl, rfl⟩ : a = true ∧ b = true ∧ c = true := hbc rfl
 obtain rfl := h24 rfl
 obtain ⟨N, rfl, nw, nb, nf⟩ := hE rfl
 obtain ⟨ck, -, hC, hO, hK4, -⟩ := F.ow
 obtain ⟨a5, c5, rfl⟩ : ∃ a c, v14 = .slice a x.pn c := ownsRow_slice (hC rfl).1
 obtain ⟨a6, c6, rfl⟩ : ∃ a c, v18 = .slice a x.wn c := ownsRow_slice (hO rfl).1
 obtain ⟨u7, o7⟩ := hK4 rfl
 obtain ⟨a7, c7, rfl⟩ : ∃ a c, v22 = .slice a x.wn c := ownsRow_slice o7.row
 clear hC hO hK4 o7
 have nb' := nb
 obtain ⟨g0, g1, g2, g3⟩ := nb
 have nl := World.block_lt_of_cell? _ _ g0
 refine wpG_one 12 rfl (by kernel_rfl) (fun K hK => ?_)
 go_simp
 refine hK.out _ _ (fun _ => trivial) ?_
 clear hK K
 (try simp only [List.setIfInBounds_toArray, List.set_cons_zero, List.set_cons_succ])
 refine wpG_done (by kernel_rfl) ?_ _
 have hX : ∀ k, k = N → true = true ∧ (Value.pointer (some ⟨N, 0, none⟩) : Value) = .pointer (some ⟨k, 0, none⟩) := fun k hk => ⟨rfl, by rw [hk]⟩
 have X5 : Hid (PrL w1 w1.heap.size x.y (sh1 x.pn x.wn 0) false true true true undef (.slice a5 x.pn c5) (.slice a6 x.wn c6) (.slice a7 x.wn c7) (fun k => k = N) ((((wq.setCell ⟨N, 0, none⟩ (.bool false)).setCell ⟨N, 1, none⟩ (.slice a5 x.pn c5)).setCell ⟨N, 2, none⟩ (.slice a6 x.wn c6)).setCell ⟨N, 3, none⟩ (.slice a7 x.wn c7)) ∧ BoxC ((((wq.setCell ⟨N, 0, none⟩ (.bool false)).setCell ⟨N, 1, none⟩ (.slice a5 x.pn c5)).setCell ⟨N, 2, none⟩ (.slice a6 x.wn c6)).setCell ⟨N, 3, none⟩ (.slice a7 x.wn c7)) N (.bool false) (.slice a5 x.pn c5) (.slice a6 x.wn c6) (.slice a7 x.wn c7) ∧ (∀ i, ((((wq.setCell ⟨N, 0, none⟩ (.bool false)).setCell ⟨N, 1, none⟩ (.slice a5 x.pn c5)).setCell ⟨N, 2, none⟩ (.slice a6 x.wn c6)).setCell ⟨N, 3, none⟩ (.slice a7 x.wn c7)).frozen? ⟨N, i, none⟩ = false) ∧ w1.heap.size ≤ N) := ⟨((((F.sub hX).put rfl nw 0 _).put rfl nw 1 _).put rfl nw 2 _).put rfl nw 3 _, boxC_set4 nb' _ _ _ _, fun i => by simp only [World.frozen?_setCell]; exact nf i, nw⟩
 clear F hX nb' g0 g1 g2 g3 nl nf hE hbc h24 hs nw
 generalize ((((wq.setCell ⟨N, 0, none⟩ (.bool false)).setCell ⟨N, 1, none⟩ (.slice a5 x.pn c5)).setCell ⟨N, 2, none⟩ (.slice a6 x.wn c6)).setCell ⟨N, 3, none⟩ (.slice a7 x.wn c7)) = w5 at *
 go_wp2_with fail
 go_loopw [5] (fun i wr => ∃ j : Nat, j ≤ x.pn ∧ i = .int .i64 j ∧ Hid (PrL w1 w1.heap.size x.y (sh1 x.pn x.wn j) false true true true undef (.slice a5 x.pn c5) (.slice a6 x.wn c6) (.slice a7 x.wn c7) (fun k => k = N) wr ∧ BoxC wr N (.bool false) (.slice a5 x.pn c5) (.slice a6 x.wn c6) (.slice a7 x.wn c7) ∧ (∀ i, wr.frozen? ⟨N, i, none⟩ = false) ∧ w1.heap.size ≤ N)) (fun i _ => x.pn - (intOf i).toNat)
 case atStart => exact ⟨0, Nat.zero_le _, rfl, X5⟩
 case round =>
  clear X5
  obtain ⟨j, hj, rfl, HJ⟩ := hrel
  by_cases hlt : j < x.pn
  ·have hlt' : (j : Int) < (x.pn : Int) := by omega
   obtain ⟨cl, -, hC, -, -, h5⟩ := HJ.out.1.ow
   obtain ⟨oc, hc⟩ := hC rfl
   have oc' : wr.ownsRow 0 3 1 (.slice a5 x.pn c5) x.pn (fZ (sh1 x.pn x.wn j).cH x.pn) := oc
   rcases oc'.2 with ⟨_, h0⟩ | ⟨g, cap, cur, e, hb, -⟩
   ·omega
   simp only [Value.slice.injEq, true_and] at e
   obtain ⟨rfl, rfl⟩ := e
   have cg := World.ownsRow.cellAt oc' j (by omega)
   rw [fZ_at hlt] at cg
   have cf := World.ownsRow.frozenAt oc' j
   have hgl := (oc'.lt g rfl).2
   have hgN : N ≠ g := fun e2 => by
    have e3 := (hc g rfl).2
    rw [← e2, (h5 N rfl).2] at e3
    cases e3
   have hkN : (wr.setCell ⟨g, j, none⟩ (.int .i64 (-1))).heap[N]? = wr.heap[N]? := Below.heap_setCell _ _ _ _ fun e2 => hgN e2
   have HJ1 : Hid (PrL w1 w1.heap.size x.y (sh1 x.pn x.wn (j + 1)) false true true true undef (.slice (some ⟨g, 0, none⟩) x.pn c5) (.slice a6 x.wn c6) (.slice a7 x.wn c7) (fun k => k = N) (wr.setCell ⟨g, j, none⟩ (.int .i64 (-1))) ∧ BoxC (wr.setCell ⟨g, j, none⟩ (.int .i64 (-1))) N (.bool false) (.slice (some ⟨g, 0, none⟩) x.pn c5) (.slice a6 x.wn c6) (.slice a7 x.wn c7) ∧ (∀ i, (wr.setCell ⟨g, j, none⟩ (.int .i64 (-1))).frozen? ⟨N, i, none⟩ = false) ∧ w1.heap.size ≤ N) := ⟨by
    have := PrL.cutAt HJ.out.1 j (-1)
    rw [sh1_next] at this
    exact this, HJ.out.2.1.blkO hkN, fun i => by rw [World.frozen?_setCell]; exact HJ.out.2.2.1 i, HJ.out.2.2.2⟩
   obtain ⟨p0, p1, p2, p3⟩ := HJ.out.2.1
   clear oc oc' hc hC h5 hkN HJ
   go_wp2
   go_roundw
   case rel => exact ⟨j + 1, by omega, by go_num, HJ1⟩
   case measure => simp [intOf]; omega
  ·have hjn : j = x.pn := by omega
   subst hjn
   have X6 : Hid (PrL w1 w1.heap.size x.y (sh0 x.pn x.wn) false true true true undef (.slice a5 x.pn c5) (.slice a6 x.wn c6) (.slice a7 x.wn c7) (fun k => k = N) wr ∧ BoxC wr N (.bool false) (.slice a5 x.pn c5) (.slice a6 x.wn c6) (.slice a7 x.wn c7) ∧ (∀ i, wr.frozen? ⟨N, i, none⟩ = false) ∧ w1.heap.size ≤ N) := by rw [← sh1_all]; exact HJ
   clear HJ
   have hHeld : (fun w' : World => BoxC w' w.heap.size (.slice x.pa x.pn x.pc) (.slice x.sa x.sn x.sc) (.slice x.wa x.wn x.wc) (.slice x.ha x.hn x.hc) ∧ BoxC w' N (.bool false) (.slice a5 x.pn c5) (.slice a6 x.wn c6) (.slice a7 x.wn c7)) wr.drew := ⟨(HRB.out wr X6.out.1.be).1, X6.out.2.1⟩
   go_wp2_with fail
   refine wp_region_G (fun w' => BoxC w' w.heap.size (.slice x.pa x.pn x.pc) (.slice x.sa x.sn x.sc) (.slice x.wa x.wn x.wc) (.slice x.ha x.hn x.hc) ∧ BoxC w' N (.bool false) (.slice a5 x.pn c5) (.slice a6 x.wn c6) (.slice a7 x.wn c7)) (fun i => i == 4) (by kernel_rfl) ?_
   refine wpG_k 0 rfl hHeld ?_
   refine wpG_k 2 rfl hHeld ?_
   refine wpG_one 1 rfl (by kernel_rfl) (fun K hK => ?_)
   refine stepR_call rfl 29 _ _ rfl #[x.v] (by simp [Act.eval, SysIn.v, sysV]) (run_enter Tryz.func29 (by kernel_rfl) rfl) (HC4.out wr.drew (B1.out.1.trans (X6.out.1.drew.be.mono B1.out.1.size))) ?_
   rintro e8 w8 ⟨v8, rfl, o8, q8⟩
   refine ⟨_, rfl, ?_⟩
   have hH8 : (fun w' : World => BoxC w' w.heap.size (.slice x.pa x.pn x.pc) (.slice x.sa x.sn x.sc) (.slice x.wa x.wn x.wc) (.slice x.ha x.hn x.hc) ∧ BoxC w' N (.bool false) (.slice a5 x.pn c5) (.slice a6 x.wn c6) (.slice a7 x.wn c7)) w8 := ⟨hHeld.1.below q8, hHeld.2.below q8⟩
   refine hK.out _ _ (fun _ => hH8) ?_
   clear hK K hHeld
   have F := X6.out.1.drew.sys q8 o8
   clear o8 q8 X6
   obtain ⟨vp, v2, vw, vh, rfl, OL⟩ := F.live
   obtain ⟨a1, m1, a2, m2, a3, m3, a4, m4, b5, n5, b6, n6, b7, n7, ev, -⟩ := OwnLz.of OL
   simp only [Value.agg.injEq, Array.mk.injEq, List.cons.injEq, and_true] at ev
   obtain ⟨rfl, rfl, rfl, rfl, -⟩ := ev
   have LV : Hid (OwnLv w8 w1.heap.size x.y (sh0 x.pn x.wn) (.agg #[.slice a1 x.y.pn m1, .slice a2 x.y.sn m2, .slice a3 x.y.wn m3, .slice a4 x.y.hn m4, .bool false, .slice a5 x.pn c5, .slice a6 x.wn c6, .slice a7 x.wn c7]) ∧ Below w1.heap.size w1 w8) := ⟨OL, F.be⟩
   clear F OL
   obtain ⟨r0, r1, r2, r3, r4, r5, r6, r7⟩ := (HRB.out w8 LV.out.2).2.1
   have rf := (HRB.out w8 LV.out.2).2.2.1
   have l1 := (HRB.out w8 LV.out.2).2.2.2
   (try simp only [Act.put, List.setIfInBounds_toArray, List.set_cons_zero, List.set_cons_succ])
   refine wpG_one 3 rfl (by kernel_rfl) (fun K hK => ?_)
   go_simp
   refine hK.out _ _ (fun _ => hH8) ?_
   clear hK K hH8
   (try simp only [List.setIfInBounds_toArray, List.set_cons_zero, List.set_cons_succ])
   refine wpG_one 4 rfl (by kernel_rfl) (fun K hK => ?_)
   go_simp
   refine hK.out _ _ (fun h => absurd h (by decide)) ?_
   clear hK K
   (try simp only [List.setIfInBounds_toArray, List.set_cons_zero, List.set_cons_succ])
   refine wpG_done (by kernel_rfl) ?_ _
   have X9 : Hid (BoxH (set8 w8 (w.heap.size + 1) (.slice a1 x.y.pn m1) (.slice a2 x.y.sn m2) (.slice a3 x.y.wn m3) (.slice a4 x.y.hn m4) (.bool false) (.slice a5 x.pn c5) (.slice a6 x.wn c6) (.slice a7 x.wn c7)) (w.heap.size + 1) (.slice a1 x.y.pn m1) (.slice a2 x.y.sn m2) (.slice a3 x.y.wn m3) (.slice a4 x.y.hn m4) (.bool false) (.slice a5 x.pn c5) (.slice a6 x.wn c6) (.slice a7 x.wn c7) ∧ OwnLv (set8 w8 (w.heap.size + 1) (.slice a1 x.y.pn m1) (.slice a2 x.y.sn m2) (.slice a3 x.y.wn m3) (.slice a4 x.y.hn m4) (.bool false) (.slice a5 x.pn c5) (.slice a6 x.wn c6) (.slice a7 x.wn c7)) w1.heap.size x.y (sh0 x.pn x.wn) (.agg #[.slice a1 x.y.pn m1, .slice a2 x.y.sn m2, .slice a3 x.y.wn m3, .slice a4 x.y.hn m4, .bool false, .slice a5 x.pn c5, .slice a6 x.wn c6, .slice a7 x.wn c7]) ∧ Below w.heap.size w (set8 w8 (w.heap.size + 1) (.slice a1 x.y.pn m1) (.slice a2 x.y.sn m2) (.slice a3 x.y.wn m3) (.slice a4 x.y.hn m4) (.bool false) (.slice a5 x.pn c5) (.slice a6 x.wn c6) (.slice a7 x.wn c7))) := ⟨boxH_set8 (HRB.out w8 LV.out.2).2.1 _ _ _ _ _ _ _ _, LV.out.1.set8 LR.out _ _ _ _ _ _ _ _, below_set8 (B1.out.1.trans (LV.out.2.mono B1.out.1.size)) hM _ _ _ _ _ _ _ _⟩
   unfold set8 at X9
   clear r0 r1 r2 r3 r4 r5 r6 r7 rf LV
   generalize ((((((((w8.setCell ⟨w.heap.size + 1, 0, none⟩ (.slice a1 x.y.pn m1)).setCell ⟨w.heap.size + 1, 1, none⟩ (.slice a2 x.y.sn m2)).setCell ⟨w.heap.size + 1, 2, none⟩ (.slice a3 x.y.wn m3)).setCell ⟨w.heap.size + 1, 3, none⟩ (.slice a4 x.y.hn m4)).setCell ⟨w.heap.size + 1, 4, none⟩ (.bool false)).setCell ⟨w.heap.size + 1, 5, none⟩ (.slice a5 x.pn c5)).setCell ⟨w.heap.size + 1, 6, none⟩ (.slice a6 x.wn c6)).setCell ⟨w.heap.size + 1, 7, none⟩ (.slice a7 x.wn c7)) = w9 at *
   obtain ⟨r0, r1, r2, r3, r4, r5, r6, r7⟩ := X9.out.1
   go_wp2
   exact bodyPost_ret (v := .agg #[.slice a1 x.y.pn m1, .slice a2 x.y.sn m2, .slice a3 x.y.wn m3, .slice a4 x.y.hn m4, .bool false, .slice a5 x.pn c5, .slice a6 x.wn c6, .slice a7 x.wn c7]) (by simp [results, Tryz.results8, go_sem, r0, r1, r2, r3, r4, r5, r6, r7]) rfl ⟨_, rfl, by rw [HV.out.1, HV.out.2]; exact X9.out.2.1.base (Nat.le_of_lt (Nat.lt_of_succ_lt LR.out)), X9.out.2.2⟩
theorem SysIn.Nn.no {x : SysIn} (h : x.Nn true) : x.Nn false := ⟨fun i hi => .inl ((h.w i hi).resolve_right fun h => by cases h.1), fun i hi => .inl ((h.h i hi).resolve_right fun h => by cases h.1)⟩
theorem snY_sm (y : Sy) : (snY y).Sm := by
 unfold snY
 split
 ·rename_i h
  exact (Sy.ok_of h).sm
 ·exact y.nil_sm
theorem sumL_nil (n : Nat) : sumL (fun _ => 0) n = 0 := by
 induction n with
 | zero => rfl
 | succ n ih => simp only [sumL, ih]
theorem snQ_sums (y : Sy) : (snQ y).Sums := by
 unfold snQ
 split
 ·rename_i h
  have h1 := (Sy.ok_of h).cn.1.2
  have h2 := (Sy.ok_of h).cn.2.2.2
  have h3 : y.wn ≤ 16 := by rw [h2]; exact Nat.mul_le_mul h1 h1
  exact ⟨by show y.pn ≤ 1048576; omega, by show y.wn ≤ 1048576; omega, by show y.wn ≤ 1048576; omega, by show sumL (fun _ => 0) y.wn ≤ 1048576; rw [sumL_nil]; omega⟩
 ·exact ⟨by show 0 ≤ 1048576; omega, by show 0 ≤ 1048576; omega, by show 0 ≤ 1048576; omega, by show sumL (fun _ => 0) 0 ≤ 1048576; rw [sumL_nil]; omega⟩
theorem BoxH.touch {w w' : World} {b : Nat} {c0 c1 c2 c3 c4 c5 c6 c7 : Value} {P : Nat → Prop} (h : BoxH w b c0 c1 c2 c3 c4 c5 c6 c7) (t : Touch P w w') (hp : ¬ P b) : BoxH w' b c0 c1 c2 c3 c4 c5 c6 c7 := h.blk (t.block b h.lt hp)
structure LnF (W : World) (x : SysIn) (Y : Sy) (Q : Sh) (x3 : SysIn) (N1 T8 lo T10 B4 T11 : Nat) (a1 a2 a3 a4 a5 a6 a7 g1 g2 g3 g4 g5 g6 g7 : Value) (w : World) : Prop where
 px : Px W x w
 o2 : OwnLz w N1 T8 Y Q a1 a2 a3 a4 a5 a6 a7
 b8 : BoxH w T8 a1 a2 a3 a4 (.bool Q.on) a5 a6 a7
 s3 : IsSys w lo T10 x x3.v
 b10 : BoxC w T10 (.slice x3.pa x3.pn x3.pc) (.slice x3.sa x3.sn x3.sc) (.slice x3.wa x3.wn x3.wc) (.slice x3.ha x3.hn x3.hc)
 o4 : OwnLz w B4 T11 Y Q g1 g2 g3 g4 g5 g6 g7
 b11 : BoxH w T11 g1 g2 g3 g4 (.bool Q.on) g5 g6 g7
structure LnG (W : World) (x : SysIn) (Y Z : Sy) (Q R : Sh) (N1 T8 B4 T11 : Nat) (a1 a2 a3 a4 a5 a6 a7 g1 g2 g3 g4 g5 g6 g7 : Value) (w : World) : Prop where
 px : Px W x w
 o2 : OwnLz w N1 T8 Y Q a1 a2 a3 a4 a5 a6 a7
 b8 : BoxH w T8 a1 a2 a3 a4 (.bool Q.on) a5 a6 a7
 o4 : OwnLz w B4 T11 Z R g1 g2 g3 g4 g5 g6 g7
 b11 : BoxH w T11 g1 g2 g3 g4 (.bool Q.on) g5 g6 g7
section
variable {W : World} {x : SysIn} {Y Z : Sy} {Q R : Sh} {x3 : SysIn} {N1 T8 lo T10 B4 T11 : Nat} {a1 a2 a3 a4 a5 a6 a7 g1 g2 g3 g4 g5 g6 g7 : Value} {w w' : World}
theorem LnF.below (h : LnF W x Y Q x3 N1 T8 lo T10 B4 T11 a1 a2 a3 a4 a5 a6 a7 g1 g2 g3 g4 g5 g6 g7 w) (hb : Below w.heap.size w w') : LnF W x Y Q x3 N1 T8 lo T10 B4 T11 a1 a2 a3 a4 a5 a6 a7 g1 g2 g3 g4 g5 g6 g7 w' :=
 ⟨h.px.below hb, h.o2.below hb, h.b8.below hb, h.s3.below hb (Nat.le_of_lt h.b10.ltF), h.b10.below hb, h.o4.below hb, h.b11.below hb⟩
theorem LnG.below (h : LnG W x Y Z Q R N1 T8 B4 T11 a1 a2 a3 a4 a5 a6 a7 g1 g2 g3 g4 g5 g6 g7 w) (hb : Below w.heap.size w w') : LnG W x Y Z Q R N1 T8 B4 T11 a1 a2 a3 a4 a5 a6 a7 g1 g2 g3 g4 g5 g6 g7 w' :=
 ⟨h.px.below hb, h.o2.below hb, h.b8.below hb, h.o4.below hb, h.b11.below hb⟩
theorem LnF.mark (h : LnF W x Y Q x3 N1 T8 lo T10 B4 T11 a1 a2 a3 a4 a5 a6 a7 g1 g2 g3 g4 g5 g6 g7 w) (t : Touch (fun b => lo ≤ b ∧ b < T10) w w') (h1 : W.heap.size < lo) (h2 : T8 < lo) (h3 : T10 ≤ B4) (h4 : B4 ≤ T11) : LnG W x Y Y Q Q N1 T8 B4 T11 a1 a2 a3 a4 a5 a6 a7 g1 g2 g3 g4 g5 g6 g7 w' :=
 ⟨h.px.touchF t fun b hb => by omega, h.o2.touch t fun b hb => by omega, h.b8.touch t fun hb => by omega, h.o4.touch t fun b hb => by omega, h.b11.touch t fun hb => by omega⟩
theorem LnG.mark (h : LnG W x Y Z Q R N1 T8 B4 T11 a1 a2 a3 a4 a5 a6 a7 g1 g2 g3 g4 g5 g6 g7 w) {Z' : Sy} {R' : Sh} (t : Touch (fun b => B4 ≤ b ∧ b < T11) w w') (o : OwnLz w' B4 T11 Z' R' g1 g2 g3 g4 g5 g6 g7) (h1 : W.heap.size < B4) (h2 : T8 < B4) : LnG W x Y Z' Q R' N1 T8 B4 T11 a1 a2 a3 a4 a5 a6 a7 g1 g2 g3 g4 g5 g6 g7 w' :=
 ⟨h.px.touchF t fun b hb => by omega, h.o2.touch t fun b hb => by omega, h.b8.touch t fun hb => by omega, o, h.b11.touch t fun hb => by omega⟩
end
theorem shotNewLaw_small (x : SysIn) (W : World) (hs : x.size ≤ 1048576) (hA : x.Ok W) (hV : W.cell? ⟨0, 0, none⟩ = some (.iface 310 (.agg #[.pointer (some ⟨1, 250, none⟩)]))) :
  Calls Tryz.prog 3 #[sysV x.pa x.pn x.pc x.sa x.sn x.sc x.wa x.wn x.wc x.ha x.hn x.hc] W fun e w' => e = .returned (.bool true) ∧ Below W.heap.size W w' := by
 have HS : Hid (x.size ≤ 1048576) := hs
 have HA : Hid (x.Ok W) := hA
 have HV : Hid (W.cell? ⟨0, 0, none⟩ = some (.iface 310 (.agg #[.pointer (some ⟨1, 250, none⟩)]))) := hV
 have HV0 : Hid (0 < W.heap.size) := World.block_lt_of_cell? W _ hV
 have hsz : ¬ (1048576 - (x.size : Int) < 0) := by omega
 have X0 : Hid (Px W x (W.alloc (.cells #[.slice x.pa x.pn x.pc, .slice x.sa x.sn x.sc, .slice x.wa x.wn x.wc, .slice x.ha x.hn x.hc] 27))) := ⟨below_allocS _ _, BoxC.new W _ _ _ _ _, by simp⟩
 have HSM : Hid ((snY x.y).Sm ∧ (snQ x.y).Sums) := ⟨snY_sm _, snQ_sums _⟩
 clear hs hA hV
 obtain ⟨Y, hY⟩ : ∃ Y, snY x.y = Y := ⟨_, rfl⟩
 obtain ⟨Q, hQ⟩ : ∃ Q, snQ x.y = Q := ⟨_, rfl⟩
 rw [hY, hQ] at HSM
 have HYC : Hid (snY x.y = Y ∧ snQ x.y = Q) := ⟨hY, hQ⟩
 clear hY hQ
 go_enter Tryz.func3, Tryz.ntmps3
 go_wp2_with fail
 generalize W.alloc (.cells #[.slice x.pa x.pn x.pc, .slice x.sa x.sn x.sc, .slice x.wa x.wn x.wc, .slice x.ha x.hn x.hc] 27) = wA at *
 refine (szSys_small x wA (HA.out.row.below X0.out.be) HS.out).mono ?_
 rintro e w0 ⟨rfl, b0⟩
 have X1 : Hid (Px W x w0) := X0.out.below b0
 clear b0 X0
 obtain ⟨-, ⟨p0, p1, p2, p3⟩, lt⟩ := X1.out
 go_wp2_with fail
 clear p0 p1 p2 p3 lt
 refine (toSys_any x W w0 HS.out HA.out X1.out.be).mono ?_
 rintro e w1 ⟨v1, rfl, o1, b1⟩
 obtain ⟨x1, rfl, g1, y1, cp1⟩ := o1.g2
 have O1 : Hid (SysG w1 x1 ∧ x1.y = x.y ∧ ∀ i, i < x1.hn → x1.hL i ≤ x1.hC i) := ⟨g1, y1, cp1⟩
 have X2 : Hid (Px W x w1) := X1.out.below b1
 clear b1 X1 o1 g1 y1 cp1
 go_wp2_with fail
 refine (specShotNew_any x1 w1 O1.out.1 (SysIn.len_of HS.out O1.out.2.1) O1.out.2.2).mono ?_
 rintro e w2 ⟨v2, rfl, o2, b2⟩
 rw [O1.out.2.1, HYC.out.1, HYC.out.2] at o2
 obtain ⟨a1, ac1, a2, ac2, a3, ac3, a4, ac4, a5, ac5, a6, ac6, a7, ac7, rfl, n2⟩ := OwnLz.of o2
 have ba := below_allocS w2 (oQ5 a1 Y.pn ac1 a2 Y.sn ac2 a3 Y.wn ac3 a4 Y.hn ac4 Q.on a5 Q.cn ac5 a6 Q.ol ac6 a7 Q.kn ac7)
 have X3 : Hid (Px W x (w2.alloc (oQ5 a1 Y.pn ac1 a2 Y.sn ac2 a3 Y.wn ac3 a4 Y.hn ac4 Q.on a5 Q.cn ac5 a6 Q.ol ac6 a7 Q.kn ac7)) ∧ OwnLz (w2.alloc (oQ5 a1 Y.pn ac1 a2 Y.sn ac2 a3 Y.wn ac3 a4 Y.hn ac4 Q.on a5 Q.cn ac5 a6 Q.ol ac6 a7 Q.kn ac7)) w1.heap.size w2.heap.size Y Q (.slice a1 Y.pn ac1) (.slice a2 Y.sn ac2) (.slice a3 Y.wn ac3) (.slice a4 Y.hn ac4) (.slice a5 Q.cn ac5) (.slice a6 Q.ol ac6) (.slice a7 Q.kn ac7) ∧ BoxH (w2.alloc (oQ5 a1 Y.pn ac1 a2 Y.sn ac2 a3 Y.wn ac3 a4 Y.hn ac4 Q.on a5 Q.cn ac5 a6 Q.ol ac6 a7 Q.kn ac7)) w2.heap.size (.slice a1 Y.pn ac1) (.slice a2 Y.sn ac2) (.slice a3 Y.wn ac3) (.slice a4 Y.hn ac4) (.bool Q.on) (.slice a5 Q.cn ac5) (.slice a6 Q.ol ac6) (.slice a7 Q.kn ac7) ∧ W.heap.size < w1.heap.size ∧ w1.heap.size ≤ w2.heap.size ∧ w2.heap.size < (w2.alloc (oQ5 a1 Y.pn ac1 a2 Y.sn ac2 a3 Y.wn ac3 a4 Y.hn ac4 Q.on a5 Q.cn ac5 a6 Q.ol ac6 a7 Q.kn ac7)).heap.size) := ⟨(X2.out.below b2).below ba, n2.below ba, BoxH.new w2 _ _ _ _ _ _ _ _ _, X2.out.lt, b2.size, by simp⟩
 go_upto_region 6 with fail
 clear b2 X2 o2 n2 O1 ba
 generalize hN1 : w1.heap.size = N1 at *
 generalize hT8 : w2.heap.size = T8 at *
 clear hN1 hT8
 generalize w2.alloc (oQ5 a1 Y.pn ac1 a2 Y.sn ac2 a3 Y.wn ac3 a4 Y.hn ac4 Q.on a5 Q.cn ac5 a6 Q.ol ac6 a7 Q.kn ac7) = w2a at *
 obtain ⟨-, ⟨p0, p1, p2, p3⟩, lt⟩ := X3.out.1
 go_wp2_with fail
 clear p0 p1 p2 p3 lt
 refine (toSys_any x W w2a HS.out HA.out X3.out.1.be).mono ?_
 rintro e w3 ⟨v3, rfl, o3, b3⟩
 obtain ⟨x3, rfl, g3, y3, cp3, nn3⟩ := o3.g3
 have ba := below_allocS w3 (oQ4 x3.pa x3.pn x3.pc x3.sa x3.sn x3.sc x3.wa x3.wn x3.wc x3.ha x3.hn x3.hc)
 have F3 : Hid (Px W x (w3.alloc (oQ4 x3.pa x3.pn x3.pc x3.sa x3.sn x3.sc x3.wa x3.wn x3.wc x3.ha x3.hn x3.hc)) ∧ OwnLz (w3.alloc (oQ4 x3.pa x3.pn x3.pc x3.sa x3.sn x3.sc x3.wa x3.wn x3.wc x3.ha x3.hn x3.hc)) N1 T8 Y Q (.slice a1 Y.pn ac1) (.slice a2 Y.sn ac2) (.slice a3 Y.wn ac3) (.slice a4 Y.hn ac4) (.slice a5 Q.cn ac5) (.slice a6 Q.ol ac6) (.slice a7 Q.kn ac7) ∧ BoxH (w3.alloc (oQ4 x3.pa x3.pn x3.pc x3.sa x3.sn x3.sc x3.wa x3.wn x3.wc x3.ha x3.hn x3.hc)) T8 (.slice a1 Y.pn ac1) (.slice a2 Y.sn ac2) (.slice a3 Y.wn ac3) (.slice a4 Y.hn ac4) (.bool Q.on) (.slice a5 Q.cn ac5) (.slice a6 Q.ol ac6) (.slice a7 Q.kn ac7) ∧ IsSys (w3.alloc (oQ4 x3.pa x3.pn x3.pc x3.sa x3.sn x3.sc x3.wa x3.wn x3.wc x3.ha x3.hn x3.hc)) w2a.heap.size w3.heap.size x x3.v ∧ BoxC (w3.alloc (oQ4 x3.pa x3.pn x3.pc x3.sa x3.sn x3.sc x3.wa x3.wn x3.wc x3.ha x3.hn x3.hc)) w3.heap.size (.slice x3.pa x3.pn x3.pc) (.slice x3.sa x3.sn x3.sc) (.slice x3.wa x3.wn x3.wc) (.slice x3.ha x3.hn x3.hc)) := ⟨(X3.out.1.below b3).below ba, (X3.out.2.1.below b3).below ba, (X3.out.2.2.1.below b3).below ba, o3.below ba (Nat.le_refl _), BoxC.new w3 _ _ _ _ _⟩
 have LT : Hid (W.heap.size < N1 ∧ N1 ≤ T8 ∧ T8 < w2a.heap.size ∧ w2a.heap.size ≤ w3.heap.size ∧ w3.heap.size < (w3.alloc (oQ4 x3.pa x3.pn x3.pc x3.sa x3.sn x3.sc x3.wa x3.wn x3.wc x3.ha x3.hn x3.hc)).heap.size) := ⟨X3.out.2.2.2.1, X3.out.2.2.2.2.1, X3.out.2.2.2.2.2, b3.size, by simp⟩
 have Ga : Hid (SysG (w3.alloc (oQ4 x3.pa x3.pn x3.pc x3.sa x3.sn x3.sc x3.wa x3.wn x3.wc x3.ha x3.hn x3.hc)) x3 ∧ x3.y = x.y ∧ x3.Nn true) := ⟨g3.below ba, y3, nn3⟩
 go_upto_region 7 with fail
 clear b3 o3 g3 y3 cp3 nn3 ba X3
 generalize hlo : w2a.heap.size = lo at *
 generalize hT10 : w3.heap.size = T10 at *
 clear hlo hT10
 generalize w3.alloc (oQ4 x3.pa x3.pn x3.pc x3.sa x3.sn x3.sc x3.wa x3.wn x3.wc x3.ha x3.hn x3.hc) = wB at *
 obtain ⟨p0, p1, p2, p3⟩ := F3.out.2.2.2.2
 go_wp2_with fail
 clear p0 p1 p2 p3
 refine (implShotNew_any x3 wB Ga.out.1 (SysIn.len_of HS.out Ga.out.2.1) Ga.out.2.2.no ((F3.out.1.be.cell (p := ⟨0, 0, none⟩) HV0.out).trans HV.out)).mono ?_
 rintro e w4 ⟨v4, rfl, o4, b4⟩
 rw [Ga.out.2.1, HYC.out.1, HYC.out.2] at o4
 obtain ⟨g1, gc1, g2, gc2, g3, gc3, g4, gc4, g5, gc5, g6, gc6, g7, gc7, rfl, n4⟩ := OwnLz.of o4
 have ba := below_allocS w4 (oQ5 g1 Y.pn gc1 g2 Y.sn gc2 g3 Y.wn gc3 g4 Y.hn gc4 Q.on g5 Q.cn gc5 g6 Q.ol gc6 g7 Q.kn gc7)
 have q4 := b4.trans (ba.mono b4.size)
 have F4 : Hid (LnF W x Y Q x3 N1 T8 lo T10 wB.heap.size w4.heap.size (.slice a1 Y.pn ac1) (.slice a2 Y.sn ac2) (.slice a3 Y.wn ac3) (.slice a4 Y.hn ac4) (.slice a5 Q.cn ac5) (.slice a6 Q.ol ac6) (.slice a7 Q.kn ac7) (.slice g1 Y.pn gc1) (.slice g2 Y.sn gc2) (.slice g3 Y.wn gc3) (.slice g4 Y.hn gc4) (.slice g5 Q.cn gc5) (.slice g6 Q.ol gc6) (.slice g7 Q.kn gc7) (w4.alloc (oQ5 g1 Y.pn gc1 g2 Y.sn gc2 g3 Y.wn gc3 g4 Y.hn gc4 Q.on g5 Q.cn gc5 g6 Q.ol gc6 g7 Q.kn gc7))) := ⟨F3.out.1.below q4, F3.out.2.1.below q4, F3.out.2.2.1.below q4, F3.out.2.2.2.1.below q4 (Nat.le_of_lt LT.out.2.2.2.2), F3.out.2.2.2.2.below q4, n4.below ba, BoxH.new w4 _ _ _ _ _ _ _ _ _⟩
 have LT2 : Hid ((W.heap.size < N1 ∧ N1 ≤ T8 ∧ T8 < lo ∧ lo ≤ T10 ∧ T10 < wB.heap.size) ∧ wB.heap.size ≤ w4.heap.size) := ⟨LT.out, b4.size⟩
 go_upto_region 8 with fail
 clear b4 o4 n4 ba q4 F3 LT Ga
 generalize hB4 : wB.heap.size = B4 at *
 generalize hT11 : w4.heap.size = T11 at *
 clear hB4 hT11
 generalize w4.alloc (oQ5 g1 Y.pn gc1 g2 Y.sn gc2 g3 Y.wn gc3 g4 Y.hn gc4 Q.on g5 Q.cn gc5 g6 Q.ol gc6 g7 Q.kn gc7) = wC at *
 obtain ⟨p0, p1, p2, p3, p4, p5, p6, p7⟩ := F4.out.b8
 obtain ⟨q0, q1, q2, q3, q4, q5, q6, q7⟩ := F4.out.b11
 go_wp2_with fail
 clear p0 p1 p2 p3 p4 p5 p6 p7 q0 q1 q2 q3 q4 q5 q6 q7
 refine (eqLive_z Y Q B4 N1 _ _ wC HSM.out.1.len HSM.out.2 F4.out.o4.lv F4.out.o2.lv).mono ?_
 rintro e w5 ⟨rfl, b5⟩
 have F5 : Hid (LnF W x Y Q x3 N1 T8 lo T10 B4 T11 (.slice a1 Y.pn ac1) (.slice a2 Y.sn ac2) (.slice a3 Y.wn ac3) (.slice a4 Y.hn ac4) (.slice a5 Q.cn ac5) (.slice a6 Q.ol ac6) (.slice a7 Q.kn ac7) (.slice g1 Y.pn gc1) (.slice g2 Y.sn gc2) (.slice g3 Y.wn gc3) (.slice g4 Y.hn gc4) (.slice g5 Q.cn gc5) (.slice g6 Q.ol gc6) (.slice g7 Q.kn gc7) w5) := F4.out.below b5
 clear b5 F4
 obtain ⟨-, ⟨p0, p1, p2, p3⟩, lt⟩ := F5.out.px
 obtain ⟨q0, q1, q2, q3⟩ := F5.out.b10
 have lq := F5.out.b10.ltF
 go_wp2_with fail
 first | (go_region_with (first | (go_at_call 9; refine (toSys_any x W _ HS.out HA.out (by exact F5.out.px.be.drew)).mono ?_; rintro e w6 ⟨v6, rfl, o6, b6⟩; have q6 : Below w5.heap.size w5 w6 := (Below.refl w5.heap.size w5).drew.trans b6; have T6 : Hid (∃ l, IsSys w6 l w6.heap.size x v6) := ⟨_, o6⟩; obtain ⟨r0, r1, r2, r3⟩ := F5.out.b10.below q6; have Q6 : Hid (Below w5.heap.size w5 w6) := q6; clear o6 b6 q6) | (go_at_call 12; refine (eqSys_same x lo T10 T6.out.choose _ _ v6 w6 HS.out (F5.out.s3.below Q6.out (Nat.le_of_lt F5.out.b10.ltF)) T6.out.choose_spec).mono ?_; rintro e w7 ⟨rfl, b7⟩; have Q7 : Hid (Below w5.heap.size w5 w7) := Q6.out.trans (b7.mono Q6.out.size); clear b7))) | fail
 all_goals
  clear r0 r1 r2 r3 p0 p1 p2 p3 lt q0 q1 q2 q3 lq T6 Q6
  have F7 : Hid (LnF W x Y Q x3 N1 T8 lo T10 B4 T11 (.slice a1 Y.pn ac1) (.slice a2 Y.sn ac2) (.slice a3 Y.wn ac3) (.slice a4 Y.hn ac4) (.slice a5 Q.cn ac5) (.slice a6 Q.ol ac6) (.slice a7 Q.kn ac7) (.slice g1 Y.pn gc1) (.slice g2 Y.sn gc2) (.slice g3 Y.wn gc3) (.slice g4 Y.hn gc4) (.slice g5 Q.cn gc5) (.slice g6 Q.ol gc6) (.slice g7 Q.kn gc7) w7) := F5.out.below Q7.out
  clear Q7 F5
  obtain ⟨q0, q1, q2, q3⟩ := F7.out.b10
  go_wp2_with fail
  clear q0 q1 q2 q3
  refine (markSys_any x _ _ _ w7 HS.out F7.out.s3).mono ?_
  rintro e w8 ⟨⟨z, rfl, hz⟩, t8⟩
  have F8 : Hid (LnG W x Y Y Q Q N1 T8 B4 T11 (.slice a1 Y.pn ac1) (.slice a2 Y.sn ac2) (.slice a3 Y.wn ac3) (.slice a4 Y.hn ac4) (.slice a5 Q.cn ac5) (.slice a6 Q.ol ac6) (.slice a7 Q.kn ac7) (.slice g1 Y.pn gc1) (.slice g2 Y.sn gc2) (.slice g3 Y.wn gc3) (.slice g4 Y.hn gc4) (.slice g5 Q.cn gc5) (.slice g6 Q.ol gc6) (.slice g7 Q.kn gc7) w8) := F7.out.mark t8 (by have := LT2.out; omega) (by have := LT2.out; omega) (by have := LT2.out; omega) LT2.out.2
  clear t8 F7
  obtain ⟨p0, p1, p2, p3, p4, p5, p6, p7⟩ := F8.out.b8
  obtain ⟨q0, q1, q2, q3, q4, q5, q6, q7⟩ := F8.out.b11
  go_wp2_with fail
  clear p0 p1 p2 p3 p4 p5 p6 p7 q0 q1 q2 q3 q4 q5 q6 q7
  refine (eqLive_z Y Q B4 N1 _ _ w8 HSM.out.1.len HSM.out.2 F8.out.o4.lv F8.out.o2.lv).mono ?_
  rintro e w9 ⟨rfl, b9⟩
  have F9 : Hid (LnG W x Y Y Q Q N1 T8 B4 T11 (.slice a1 Y.pn ac1) (.slice a2 Y.sn ac2) (.slice a3 Y.wn ac3) (.slice a4 Y.hn ac4) (.slice a5 Q.cn ac5) (.slice a6 Q.ol ac6) (.slice a7 Q.kn ac7) (.slice g1 Y.pn gc1) (.slice g2 Y.sn gc2) (.slice g3 Y.wn gc3) (.slice g4 Y.hn gc4) (.slice g5 Q.cn gc5) (.slice g6 Q.ol gc6) (.slice g7 Q.kn gc7) w9) := F8.out.below b9
  clear b9 F8
  obtain ⟨q0, q1, q2, q3, q4, q5, q6, q7⟩ := F9.out.b11
  go_wp2_with fail
  clear q0 q1 q2 q3 q4 q5 q6 q7
  refine (markLive_z Y Q B4 T11 _ _ _ _ _ _ _ w9 HSM.out.1.sums HSM.out.2 F9.out.o4).mono ?_
  rintro e w10 ⟨rfl, o10, t10⟩
  have F10 : Hid (LnG W x Y (mkY Y 1) Q (mkSh Q (mkZ5 Y 1)) N1 T8 B4 T11 (.slice a1 Y.pn ac1) (.slice a2 Y.sn ac2) (.slice a3 Y.wn ac3) (.slice a4 Y.hn ac4) (.slice a5 Q.cn ac5) (.slice a6 Q.ol ac6) (.slice a7 Q.kn ac7) (.slice g1 Y.pn gc1) (.slice g2 Y.sn gc2) (.slice g3 Y.wn gc3) (.slice g4 Y.hn gc4) (.slice g5 Q.cn gc5) (.slice g6 Q.ol gc6) (.slice g7 Q.kn gc7) w10) := F9.out.mark t10 o10 (by have := LT2.out; omega) (by have := LT2.out; omega)
  have HZ : Hid (¬ shZ Q (mkZ5 Y 1) < 0) := by
   have := (mkZ_bd HSM.out.1.sums).2.2.2
   show ¬ shZ Q (mkZ5 Y 1) < 0
   unfold shZ
   omega
  clear t10 o10 F9
  obtain ⟨q0, q1, q2, q3, q4, q5, q6, q7⟩ := F10.out.b11
  go_wp2_with fail
  clear q0 q1 q2 q3 q4 q5 q6 q7
  refine (heldLive_z Y Q B4 T11 _ _ _ _ _ _ _ w10 HSM.out.1.sums HSM.out.2 F10.out.o4).mono ?_
  rintro e w11 ⟨rfl, b11⟩
  have F11 : Hid (LnG W x Y (mkY Y 1) Q (mkSh Q (mkZ5 Y 1)) N1 T8 B4 T11 (.slice a1 Y.pn ac1) (.slice a2 Y.sn ac2) (.slice a3 Y.wn ac3) (.slice a4 Y.hn ac4) (.slice a5 Q.cn ac5) (.slice a6 Q.ol ac6) (.slice a7 Q.kn ac7) (.slice g1 Y.pn gc1) (.slice g2 Y.sn gc2) (.slice g3 Y.wn gc3) (.slice g4 Y.hn gc4) (.slice g5 Q.cn gc5) (.slice g6 Q.ol gc6) (.slice g7 Q.kn gc7) w11) := F10.out.below b11
  clear b11 F10
  obtain ⟨-, ⟨p0, p1, p2, p3⟩, lt⟩ := F11.out.px
  have hz5 := HZ.out
  go_wp2_with fail
  clear p0 p1 p2 p3 lt hz5
  refine (toSys_any x W w11 HS.out HA.out F11.out.px.be).mono ?_
  rintro e w12 ⟨v12, rfl, o12, b12⟩
  obtain ⟨x12, rfl, g12, y12, -, nn12⟩ := o12.g3
  have S12 : Hid (SysG w12 x12 ∧ x12.y = x.y ∧ x12.Nn true) := ⟨g12, y12, nn12⟩
  have F12 : Hid (LnG W x Y (mkY Y 1) Q (mkSh Q (mkZ5 Y 1)) N1 T8 B4 T11 (.slice a1 Y.pn ac1) (.slice a2 Y.sn ac2) (.slice a3 Y.wn ac3) (.slice a4 Y.hn ac4) (.slice a5 Q.cn ac5) (.slice a6 Q.ol ac6) (.slice a7 Q.kn ac7) (.slice g1 Y.pn gc1) (.slice g2 Y.sn gc2) (.slice g3 Y.wn gc3) (.slice g4 Y.hn gc4) (.slice g5 Q.cn gc5) (.slice g6 Q.ol gc6) (.slice g7 Q.kn gc7) w12) := F11.out.below b12
  clear b12 F11 o12 g12 y12 nn12
  go_wp2_with fail
  refine (implShotNew_any x12 w12 S12.out.1 (SysIn.len_of HS.out S12.out.2.1) S12.out.2.2.no ((F12.out.px.be.cell (p := ⟨0, 0, none⟩) HV0.out).trans HV.out)).mono ?_
  rintro e w13 ⟨v13, rfl, o13, b13⟩
  rw [S12.out.2.1, HYC.out.1, HYC.out.2] at o13
  obtain ⟨k1, kc1, k2, kc2, k3, kc3, k4, kc4, k5, kc5, k6, kc6, k7, kc7, rfl, n13⟩ := OwnLz.of o13
  have ba := below_allocS w13 (oQ5 k1 Y.pn kc1 k2 Y.sn kc2 k3 Y.wn kc3 k4 Y.hn kc4 Q.on k5 Q.cn kc5 k6 Q.ol kc6 k7 Q.kn kc7)
  have q13 := b13.trans (ba.mono b13.size)
  have F13 : Hid (LnG W x Y (mkY Y 1) Q (mkSh Q (mkZ5 Y 1)) N1 T8 B4 T11 (.slice a1 Y.pn ac1) (.slice a2 Y.sn ac2) (.slice a3 Y.wn ac3) (.slice a4 Y.hn ac4) (.slice a5 Q.cn ac5) (.slice a6 Q.ol ac6) (.slice a7 Q.kn ac7) (.slice g1 Y.pn gc1) (.slice g2 Y.sn gc2) (.slice g3 Y.wn gc3) (.slice g4 Y.hn gc4) (.slice g5 Q.cn gc5) (.slice g6 Q.ol gc6) (.slice g7 Q.kn gc7) (w13.alloc (oQ5 k1 Y.pn kc1 k2 Y.sn kc2 k3 Y.wn kc3 k4 Y.hn kc4 Q.on k5 Q.cn kc5 k6 Q.ol kc6 k7 Q.kn kc7)) ∧ OwnLz (w13.alloc (oQ5 k1 Y.pn kc1 k2 Y.sn kc2 k3 Y.wn kc3 k4 Y.hn kc4 Q.on k5 Q.cn kc5 k6 Q.ol kc6 k7 Q.kn kc7)) w12.heap.size w13.heap.size Y Q (.slice k1 Y.pn kc1) (.slice k2 Y.sn kc2) (.slice k3 Y.wn kc3) (.slice k4 Y.hn kc4) (.slice k5 Q.cn kc5) (.slice k6 Q.ol kc6) (.slice k7 Q.kn kc7) ∧ BoxH (w13.alloc (oQ5 k1 Y.pn kc1 k2 Y.sn kc2 k3 Y.wn kc3 k4 Y.hn kc4 Q.on k5 Q.cn kc5 k6 Q.ol kc6 k7 Q.kn kc7)) w13.heap.size (.slice k1 Y.pn kc1) (.slice k2 Y.sn kc2) (.slice k3 Y.wn kc3) (.slice k4 Y.hn kc4) (.bool Q.on) (.slice k5 Q.cn kc5) (.slice k6 Q.ol kc6) (.slice k7 Q.kn kc7)) := ⟨F12.out.below q13, n13.below ba, BoxH.new w13 _ _ _ _ _ _ _ _ _⟩
  go_upto_region 25 with fail
  clear b13 o13 n13 ba q13 F12 S12
  generalize hN12 : w12.heap.size = N12 at *
  generalize hT16 : w13.heap.size = T16 at *
  clear hN12 hT16
  generalize w13.alloc (oQ5 k1 Y.pn kc1 k2 Y.sn kc2 k3 Y.wn kc3 k4 Y.hn kc4 Q.on k5 Q.cn kc5 k6 Q.ol kc6 k7 Q.kn kc7) = wD at *
  obtain ⟨p0, p1, p2, p3, p4, p5, p6, p7⟩ := F13.out.1.b8
  obtain ⟨q0, q1, q2, q3, q4, q5, q6, q7⟩ := F13.out.2.2
  go_wp2_with fail
  clear p0 p1 p2 p3 p4 p5 p6 p7 q0 q1 q2 q3 q4 q5 q6 q7
  refine (eqLive_z Y Q N12 N1 _ _ wD HSM.out.1.len HSM.out.2 F13.out.2.1.lv F13.out.1.o2.lv).mono ?_
  rintro e w14 ⟨rfl, b14⟩
  have F14 : Hid (LnG W x Y (mkY Y 1) Q (mkSh Q (mkZ5 Y 1)) N1 T8 B4 T11 (.slice a1 Y.pn ac1) (.slice a2 Y.sn ac2) (.slice a3 Y.wn ac3) (.slice a4 Y.hn ac4) (.slice a5 Q.cn ac5) (.slice a6 Q.ol ac6) (.slice a7 Q.kn ac7) (.slice g1 Y.pn gc1) (.slice g2 Y.sn gc2) (.slice g3 Y.wn gc3) (.slice g4 Y.hn gc4) (.slice g5 Q.cn gc5) (.slice g6 Q.ol gc6) (.slice g7 Q.kn gc7) w14) := F13.out.1.below b14
  clear b14 F13
  obtain ⟨q0, q1, q2, q3, q4, q5, q6, q7⟩ := F14.out.b11
  go_wp2_with fail
  clear q0 q1 q2 q3 q4 q5 q6 q7
  refine (heldLive_z Y Q B4 T11 _ _ _ _ _ _ _ w14 HSM.out.1.sums HSM.out.2 F14.out.o4).mono ?_
  rintro e w15 ⟨rfl, b15⟩
  have F15 : Hid (LnG W x Y (mkY Y 1) Q (mkSh Q (mkZ5 Y 1)) N1 T8 B4 T11 (.slice a1 Y.pn ac1) (.slice a2 Y.sn ac2) (.slice a3 Y.wn ac3) (.slice a4 Y.hn ac4) (.slice a5 Q.cn ac5) (.slice a6 Q.ol ac6) (.slice a7 Q.kn ac7) (.slice g1 Y.pn gc1) (.slice g2 Y.sn gc2) (.slice g3 Y.wn gc3) (.slice g4 Y.hn gc4) (.slice g5 Q.cn gc5) (.slice g6 Q.ol gc6) (.slice g7 Q.kn gc7) w15) := F14.out.below b15
  clear b15 F14
  have hz5 := HZ.out
  go_wp2
  go_ret
  exact ⟨rfl, F15.out.px.be⟩
theorem shotNewLaw_great (x : SysIn) (W : World) (hr : x.Row W) (hm : x.Max) (hs : 1048576 < x.size) :
  Calls Tryz.prog 3 #[sysV x.pa x.pn x.pc x.sa x.sn x.sc x.wa x.wn x.wc x.ha x.hn x.hc] W fun e w' => e = .returned (.bool true) ∧ Below W.heap.size W w' := by
 have HR : Hid (x.Row W) := hr
 have HM : Hid x.Max := hm
 have HS : Hid (1048576 < x.size) := hs
 clear hr hm hs
 go_enter Tryz.func3, Tryz.ntmps3
 go_wp2_with fail
 refine (szSys_great x _ (HR.out.below (below_allocS _ _)) HM.out HS.out).mono ?_
 rintro e w0 ⟨rfl, b0⟩
 have B0 : Hid (Below W.heap.size W w0) := (below_allocS _ _).trans (b0.mono (by simp))
 clear b0
 go_wp2
 go_ret
 exact ⟨rfl, B0.out⟩
theorem shotNewLifted (os : Os) (started : os.Started) (H : Type) (enc : TypeId × Value → H) :
  ReturnsInHanded {} Tryz.checked os 3 .any (fun w args => (Rows.fnExactShotNewSpec.pre enc Tryz.prog Tryz.f3 [] false w args ∧ laidMetH Tryz.prog [("errors.errorType", Rows.laid_errors_errorType)] w) ∧ sizedMet enc Tryz.prog Tryz.f3 (OpenSpec.ofChange Rows.fnExactShotNewSpec) false w args)
   (Rows.fnExactShotNewSpec.post enc Tryz.prog Tryz.f3 false true false false) := by
 refine returnsInHanded_of_change_and (C := Tryz.checked) (X := fun w _ => laidMetH Tryz.prog [("errors.errorType", Rows.laid_errors_errorType)] w) (fun _ _ _ hh h => h.of_heap hh) Tryz.own started (by kernel_rfl) Tryz.func3
  (ChangeSpec.witness_at (enc := enc) (C := Tryz.checked) (os := os) (X := fun w _ => laidMetH Tryz.prog [("errors.errorType", Rows.laid_errors_errorType)] w) false (laidWorld os) #[sysV none 0 0 none 0 0 none 0 0 none 0 0] 8 rfl (by kernel_rfl) (by kernel_rfl) (by kernel_rfl) (by kernel_rfl) (by kernel_rfl) (laidWorld_met os _)) ?_
 intro W base args ds gs before hval0 hW _ _ hL _
 have hval : ∀ (j : Nat) t v, Tryz.f3.params[j]? = some t → args[j]? = some v → Value.okWide Tryz.prog W .any base t v := hval0
 have hW' := hW
 obtain ⟨p, q, hA0, hV, rfl, hfz, hnd⟩ := hW
 have hA : DataW.TrodAll enc Tryz.prog W 0 (fun _ => true) true Tryz.f3.params.toList args.toList ds p := hA0
 rw [Tryz.params3] at hA hval
 obtain ⟨v0, d0, rfl, rfl, h0⟩ := trodAll_one hA
 obtain ⟨rfl, rfl⟩ := trodVars_none hV
 have lt0 : ∀ x ∈ p, x.block < W.heap.size := by obtain ⟨m, hm⟩ := h0; exact DataW.trod_lt m _ _ _ hm
 have hg := handle_of_laid hL
 clear hA0 hval0
 have hlaw : Calls Tryz.prog 3 #[v0] W fun e w' => e = .returned (.bool true) ∧ Below W.heap.size W w' := by
  obtain ⟨x, e, hr, hm, hy⟩ := open_sys (hval 0 27 v0 rfl rfl) h0
  by_cases hs : x.size ≤ 1048576
  ·obtain ⟨y, ey, hok, hys⟩ := hy hs
   rw [ey]
   exact shotNewLaw_small y W hys hok hg
  ·rw [e]
   exact shotNewLaw_great x W hr hm (by omega)
 refine hlaw.mono fun e W' ⟨he, bel⟩ => ?_
 subst he
 exact ⟨_, rfl, _, _, _, [], _, [], hW', trodAll_mk1 (shut_bool Tryz.underlying4 _), trodAll_mk1 (Below.trod Tryz.laidOut (by kernel_rfl) (of_decide_eq_true (by kernel_rfl)) h0 bel lt0), rfl, bel.frame _, fun h => by cases h⟩
theorem shotNewSaid : Rows.FnExactShotNewSaid :=
 OpenClaim.holds_of_wide 3 Tryz.f3 rfl rfl rfl rfl rfl rfl rfl ⟨rfl, rfl, rfl, rfl, rfl⟩ rfl rfl rfl rfl rfl (by kernel_rfl) Tryz.func3 (by kernel_rfl)
  (of_decide_eq_true (by kernel_rfl)) (by unfold Func.isWrapper; first | (rw [if_pos (by decide +kernel)]; kernel_rfl) | (rw [if_neg (by decide +kernel)]; exact ⟨rfl, rfl⟩))
  (fun os started H enc _ => shotNewLifted os started H enc)
theorem shotNewPlain (f : FuncId) (fn : Func) (hf : Tryz.pinned.checked.prog.funcNamed "loop.example/g00196/laws.FnExactShotNew" = some f) (hfn : Tryz.pinned.checked.prog.funcs[f]? = some fn) :
  true = Tryz.pinned.checked.prog.looks [] ∧ ∀ (j : Nat) t, fn.params[j]? = some t → Tryz.pinned.checked.prog.wantsStandIn t = false := by
 obtain rfl : f = 3 := Option.some.inj ((show Tryz.prog.funcNamed "loop.example/g00196/laws.FnExactShotNew" = some 3 by kernel_rfl).symm.trans hf) |>.symm
 obtain rfl : fn = Tryz.f3 := (Option.some.inj (Tryz.func3.symm.trans hfn)).symm
 refine ⟨by kernel_rfl, fun j t ht => ?_⟩
 rw [Tryz.params3] at ht
 have hm := Array.mem_of_getElem? ht
 simp at hm
 obtain rfl := hm
 exact (show Tryz.prog.wantsStandIn 27 = false by kernel_rfl)
theorem shotNew_card : Rows.FnExactShotNewCardSaid :=
 Claim7.holds_tied_plain_at .later [] _ _ _ _ shotNewSaid (fun _ h => by cases h) (by kernel_rfl) (fun _ h => by cases h) fnExactShotNew_row_tie rfl ⟨rfl, rfl⟩ (by kernel_rfl) rfl shotNewPlain (by kernel_rfl)
end Go.Proofs.YtfdanemmefckpaaGreatDoor
