/- The walks of slices.Grow and slices.Concat, and of a queue's with. -/
import Derived.Test.YtdigofhceahpdaaGreatDoorTc0
import Derived.Test.YtdigofhceahpdaaGreatDoorTc28
import Derived.Test.YtdigofhceahpdaaGreatDoorTc32
import Derived.Test.YtdigofhceahpdaaGreatDoorTc30
import Derived.Lib.AppendZerosOnto
import Derived.Lib.Walk
import Derived.Lib.SliceRun
import Derived.Maps.AppendAt
namespace Go.Proofs.YtdigofhceahpdaaGreatDoor
set_option maxRecDepth 100000
set_option maxHeartbeats 2000000
open Go.ChangeShapes Go.WideShapes Go.ChangeAt Go.RowKit Go.Deep
theorem eqSys_same (x : SysIn) (l1 u1 l2 u2 : Nat) (v1 v2 : Value) (w : World) (hs : x.size ≤ 1048576) (o1 : IsSys w l1 u1 x v1) (o2 : IsSys w l2 u2 x v2) :
  Calls Tryz.prog 10 #[v1, v2] w fun e w' => e = .returned (.bool true) ∧ Below w.heap.size w w' := by
 obtain ⟨D1, D2, D3, D4, b1, vs, b3, b4, h1, h2, h3, o1⟩ := o1
 obtain ⟨E1, E2, E3, E4, c1, us, c3, c4, g1, g2, g3, o2⟩ := o2
 have HS : Hid (x.size ≤ 1048576) := hs
 obtain ⟨rfl, p1, s1, w1, i1, -, -, -, -⟩ := o1
 obtain ⟨rfl, p2, s2, w2, i2, -, -, -, -⟩ := o2
 have P1 : Hid (OutIns w D1 h1 x.pn x.pL b1 x.pH) := p1
 have P2 : Hid (OutIns w E1 g1 x.pn x.pL c1 x.pH) := p2
 have S1 : Hid (OutState w D2 h2 x.sn x.sS vs) := s1
 have S2 : Hid (OutState w E2 g2 x.sn x.sS us) := s2
 have W1 : Hid (OutItem w D3 h3 x.wn x.wL b3 x.wH) := w1
 have W2 : Hid (OutItem w E3 g3 x.wn x.wL c3 x.wH) := w2
 have I1 : Hid (OutEvent w D4 u1 x.hn x.hL b4 x.hH) := i1
 have I2 : Hid (OutEvent w E4 u2 x.hn x.hL c4 x.hH) := i2
 clear p1 p2 s1 s2 w1 w2 i1 i2 hs
 go_enter Tryz.func10, Tryz.ntmps10
 have X0 : Hid (BoxC ((w.alloc (oQ4 (some ⟨D1, 0, none⟩) x.pn x.pn (some ⟨D2, 0, none⟩) x.sn x.sn (some ⟨D3, 0, none⟩) x.wn x.wn (some ⟨D4, 0, none⟩) x.hn x.hn)).alloc (oQ4 (some ⟨E1, 0, none⟩) x.pn x.pn (some ⟨E2, 0, none⟩) x.sn x.sn (some ⟨E3, 0, none⟩) x.wn x.wn (some ⟨E4, 0, none⟩) x.hn x.hn)) w.heap.size (.slice (some ⟨D1, 0, none⟩) x.pn x.pn) (.slice (some ⟨D2, 0, none⟩) x.sn x.sn) (.slice (some ⟨D3, 0, none⟩) x.wn x.wn) (.slice (some ⟨D4, 0, none⟩) x.hn x.hn) ∧ BoxC ((w.alloc (oQ4 (some ⟨D1, 0, none⟩) x.pn x.pn (some ⟨D2, 0, none⟩) x.sn x.sn (some ⟨D3, 0, none⟩) x.wn x.wn (some ⟨D4, 0, none⟩) x.hn x.hn)).alloc (oQ4 (some ⟨E1, 0, none⟩) x.pn x.pn (some ⟨E2, 0, none⟩) x.sn x.sn (some ⟨E3, 0, none⟩) x.wn x.wn (some ⟨E4, 0, none⟩) x.hn x.hn)) (w.heap.size + 1) (.slice (some ⟨E1, 0, none⟩) x.pn x.pn) (.slice (some ⟨E2, 0, none⟩) x.sn x.sn) (.slice (some ⟨E3, 0, none⟩) x.wn x.wn) (.slice (some ⟨E4, 0, none⟩) x.hn x.hn) ∧ Below w.heap.size w ((w.alloc (oQ4 (some ⟨D1, 0, none⟩) x.pn x.pn (some ⟨D2, 0, none⟩) x.sn x.sn (some ⟨D3, 0, none⟩) x.wn x.wn (some ⟨D4, 0, none⟩) x.hn x.hn)).alloc (oQ4 (some ⟨E1, 0, none⟩) x.pn x.pn (some ⟨E2, 0, none⟩) x.sn x.sn (some ⟨E3, 0, none⟩) x.wn x.wn (some ⟨E4, 0, none⟩) x.hn x.hn)) ∧ w.heap.size + 2 ≤ ((w.alloc (oQ4 (some ⟨D1, 0, none⟩) x.pn x.pn (some ⟨D2, 0, none⟩) x.sn x.sn (some ⟨D3, 0, none⟩) x.wn x.wn (some ⟨D4, 0, none⟩) x.hn x.hn)).alloc (oQ4 (some ⟨E1, 0, none⟩) x.pn x.pn (some ⟨E2, 0, none⟩) x.sn x.sn (some ⟨E3, 0, none⟩) x.wn x.wn (some ⟨E4, 0, none⟩) x.hn x.hn)).heap.size) := by
  have n1 := BoxC.new w (.slice (some ⟨D1, 0, none⟩) x.pn x.pn) (.slice (some ⟨D2, 0, none⟩) x.sn x.sn) (.slice (some ⟨D3, 0, none⟩) x.wn x.wn) (.slice (some ⟨D4, 0, none⟩) x.hn x.hn) 29
  have n2 := BoxC.new (w.alloc (oQ4 (some ⟨D1, 0, none⟩) x.pn x.pn (some ⟨D2, 0, none⟩) x.sn x.sn (some ⟨D3, 0, none⟩) x.wn x.wn (some ⟨D4, 0, none⟩) x.hn x.hn)) (.slice (some ⟨E1, 0, none⟩) x.pn x.pn) (.slice (some ⟨E2, 0, none⟩) x.sn x.sn) (.slice (some ⟨E3, 0, none⟩) x.wn x.wn) (.slice (some ⟨E4, 0, none⟩) x.hn x.hn) 29
  simp only [World.size_alloc] at n2
  exact ⟨n1.below (below_allocS _ _), n2, ((Below.refl _ _).alloc (Nat.le_refl _) _).alloc (by simp) _, by simp⟩
 go_wp2_with fail
 generalize (w.alloc (oQ4 (some ⟨D1, 0, none⟩) x.pn x.pn (some ⟨D2, 0, none⟩) x.sn x.sn (some ⟨D3, 0, none⟩) x.wn x.wn (some ⟨D4, 0, none⟩) x.hn x.hn)).alloc (oQ4 (some ⟨E1, 0, none⟩) x.pn x.pn (some ⟨E2, 0, none⟩) x.sn x.sn (some ⟨E3, 0, none⟩) x.wn x.wn (some ⟨E4, 0, none⟩) x.hn x.hn) = wA at *
 refine (eqInsSS_same D1 h1 E1 g1 x.pn _ _ x.pL b1 c1 x.pH _ (SysIn.lens HS.out).1.1 (sum_le (SysIn.lens HS.out).1.2) (P1.out.below X0.out.2.2.1 P1.out.le) (P2.out.below X0.out.2.2.1 P2.out.le)).mono ?_
 rintro e w1 ⟨rfl, b1'⟩
 have X1 : Hid (BoxC w1 w.heap.size (.slice (some ⟨D1, 0, none⟩) x.pn x.pn) (.slice (some ⟨D2, 0, none⟩) x.sn x.sn) (.slice (some ⟨D3, 0, none⟩) x.wn x.wn) (.slice (some ⟨D4, 0, none⟩) x.hn x.hn) ∧ BoxC w1 (w.heap.size + 1) (.slice (some ⟨E1, 0, none⟩) x.pn x.pn) (.slice (some ⟨E2, 0, none⟩) x.sn x.sn) (.slice (some ⟨E3, 0, none⟩) x.wn x.wn) (.slice (some ⟨E4, 0, none⟩) x.hn x.hn) ∧ Below w.heap.size w w1 ∧ w.heap.size + 2 ≤ w1.heap.size) := ⟨X0.out.1.below b1', X0.out.2.1.below b1', X0.out.2.2.1.trans (b1'.mono X0.out.2.2.1.size), Nat.le_trans X0.out.2.2.2 b1'.size⟩
 have BE1 : Hid (Below w.heap.size w w1) := X1.out.2.2.1
 clear X0 b1'
 obtain ⟨⟨p0, p1, p2, p3⟩, ⟨q0, q1, q2, q3⟩, -, le⟩ := X1.out
 go_wp2_with fail
 clear p0 p1 p2 p3 q0 q1 q2 q3 le
 refine (eqStateS_same D2 h2 E2 g2 x.sn _ _ x.sS vs us _ (SysIn.lens HS.out).2.1.1 (SysIn.lensS HS.out) (S1.out.below BE1.out S1.out.le) (S2.out.below BE1.out S2.out.le)).mono ?_
 rintro e w2 ⟨rfl, b2'⟩
 have X2 : Hid (BoxC w2 w.heap.size (.slice (some ⟨D1, 0, none⟩) x.pn x.pn) (.slice (some ⟨D2, 0, none⟩) x.sn x.sn) (.slice (some ⟨D3, 0, none⟩) x.wn x.wn) (.slice (some ⟨D4, 0, none⟩) x.hn x.hn) ∧ BoxC w2 (w.heap.size + 1) (.slice (some ⟨E1, 0, none⟩) x.pn x.pn) (.slice (some ⟨E2, 0, none⟩) x.sn x.sn) (.slice (some ⟨E3, 0, none⟩) x.wn x.wn) (.slice (some ⟨E4, 0, none⟩) x.hn x.hn) ∧ Below w.heap.size w w2 ∧ w.heap.size + 2 ≤ w2.heap.size) := ⟨X1.out.1.below b2', X1.out.2.1.below b2', X1.out.2.2.1.trans (b2'.mono X1.out.2.2.1.size), Nat.le_trans X1.out.2.2.2 b2'.size⟩
 have BE2 : Hid (Below w.heap.size w w2) := X2.out.2.2.1
 clear X1 b2' BE1
 obtain ⟨⟨p0, p1, p2, p3⟩, ⟨q0, q1, q2, q3⟩, -, le⟩ := X2.out
 go_wp2_with fail
 clear p0 p1 p2 p3 q0 q1 q2 q3 le
 refine (eqItemSS_same D3 h3 E3 g3 x.wn _ _ x.wL b3 c3 x.wH _ (SysIn.lens HS.out).2.2.1.1 (sum_le (SysIn.lens HS.out).2.2.1.2) (W1.out.below BE2.out W1.out.le) (W2.out.below BE2.out W2.out.le)).mono ?_
 rintro e w3 ⟨rfl, b3'⟩
 have X3 : Hid (BoxC w3 w.heap.size (.slice (some ⟨D1, 0, none⟩) x.pn x.pn) (.slice (some ⟨D2, 0, none⟩) x.sn x.sn) (.slice (some ⟨D3, 0, none⟩) x.wn x.wn) (.slice (some ⟨D4, 0, none⟩) x.hn x.hn) ∧ BoxC w3 (w.heap.size + 1) (.slice (some ⟨E1, 0, none⟩) x.pn x.pn) (.slice (some ⟨E2, 0, none⟩) x.sn x.sn) (.slice (some ⟨E3, 0, none⟩) x.wn x.wn) (.slice (some ⟨E4, 0, none⟩) x.hn x.hn) ∧ Below w.heap.size w w3 ∧ w.heap.size + 2 ≤ w3.heap.size) := ⟨X2.out.1.below b3', X2.out.2.1.below b3', X2.out.2.2.1.trans (b3'.mono X2.out.2.2.1.size), Nat.le_trans X2.out.2.2.2 b3'.size⟩
 have BE3 : Hid (Below w.heap.size w w3) := X3.out.2.2.1
 clear X2 b3' BE2
 obtain ⟨⟨p0, p1, p2, p3⟩, ⟨q0, q1, q2, q3⟩, -, le⟩ := X3.out
 go_wp2_with fail
 clear p0 p1 p2 p3 q0 q1 q2 q3 le
 refine (eqEventSS_same D4 u1 E4 u2 x.hn _ _ x.hL b4 c4 x.hH _ (SysIn.lens HS.out).2.2.2.1 (sum_le (SysIn.lens HS.out).2.2.2.2) (I1.out.below BE3.out I1.out.le) (I2.out.below BE3.out I2.out.le)).mono ?_
 rintro e w4 ⟨rfl, b4'⟩
 have X4 : Hid (BoxC w4 w.heap.size (.slice (some ⟨D1, 0, none⟩) x.pn x.pn) (.slice (some ⟨D2, 0, none⟩) x.sn x.sn) (.slice (some ⟨D3, 0, none⟩) x.wn x.wn) (.slice (some ⟨D4, 0, none⟩) x.hn x.hn) ∧ BoxC w4 (w.heap.size + 1) (.slice (some ⟨E1, 0, none⟩) x.pn x.pn) (.slice (some ⟨E2, 0, none⟩) x.sn x.sn) (.slice (some ⟨E3, 0, none⟩) x.wn x.wn) (.slice (some ⟨E4, 0, none⟩) x.hn x.hn) ∧ Below w.heap.size w w4 ∧ w.heap.size + 2 ≤ w4.heap.size) := ⟨X3.out.1.below b4', X3.out.2.1.below b4', X3.out.2.2.1.trans (b4'.mono X3.out.2.2.1.size), Nat.le_trans X3.out.2.2.2 b4'.size⟩
 have BE4 : Hid (Below w.heap.size w w4) := X4.out.2.2.1
 clear X3 b4' BE3
 go_wp2
 go_ret
 exact ⟨rfl, BE4.out⟩
structure MkY (w wx : World) (lo hi D1 D2 D3 D4 : Nat) (x : SysIn) : Prop where
 tch : Touch (fun b => lo ≤ b ∧ b < hi) w wx
 bx : BoxC wx w.heap.size (.slice (some ⟨D1, 0, none⟩) x.pn x.pn) (.slice (some ⟨D2, 0, none⟩) x.sn x.sn) (.slice (some ⟨D3, 0, none⟩) x.wn x.wn) (.slice (some ⟨D4, 0, none⟩) x.hn x.hn)
 lt : w.heap.size < wx.heap.size
theorem MkY.step {w wx w' : World} {lo hi D1 D2 D3 D4 : Nat} {x : SysIn} (h : MkY w wx lo hi D1 D2 D3 D4 x) (hh : hi ≤ w.heap.size) {P : Nat → Prop} (ht : Touch P wx w') (hp : ∀ b, P b → lo ≤ b ∧ b < hi) : MkY w w' lo hi D1 D2 D3 D4 x := by
 refine ⟨h.tch.trans (ht.mono hp), ?_, Nat.lt_of_lt_of_le h.lt ht.size⟩
 obtain ⟨h0, h1, h2, h3⟩ := h.bx
 have hc : ∀ i, w'.cell? ⟨w.heap.size, i, none⟩ = wx.cell? ⟨w.heap.size, i, none⟩ := fun i => ht.cell h.lt (fun e => by have := hp _ e; omega) i
 exact ⟨(hc _).trans h0, (hc _).trans h1, (hc _).trans h2, (hc _).trans h3⟩
theorem markSys_any (x : SysIn) (lo hi : Nat) (v : Value) (w : World) (hs : x.size ≤ 1048576) (o : IsSys w lo hi x v) :
  Calls Tryz.prog 13 #[v, .int .i64 1] w fun e w' => (∃ z : Int, e = .returned (.int .i64 z) ∧ ¬ z < 0) ∧ Touch (fun b => lo ≤ b ∧ b < hi) w w' := by
 obtain ⟨D1, D2, D3, D4, b1, vs, b3, b4, h1, h2, h3, o⟩ := o
 have HS : Hid (x.size ≤ 1048576) := hs
 obtain ⟨q1, q2, q3, q4, -⟩ := o.hi
 have OO : Hid (OutSys w lo hi x v D1 D2 D3 D4 b1 vs b3 b4 h1 h2 h3) := o
 have QQ : Hid (h1 ≤ hi ∧ h2 ≤ hi ∧ h3 ≤ hi ∧ hi ≤ w.heap.size) := ⟨q1, q2, q3, q4⟩
 obtain ⟨rfl, p1, s1, w1, i1, y1, y2, y3, y4⟩ := o
 have Y : Hid (lo ≤ D1 ∧ h1 ≤ D2 ∧ h2 ≤ D3 ∧ h3 ≤ D4 ∧ D1 < h1 ∧ D2 < h2 ∧ D3 < h3 ∧ D4 < hi) := ⟨y1, y2, y3, y4, p1.lt, s1.lt, w1.lt, i1.lt⟩
 have P1 : Hid (OutIns w D1 h1 x.pn x.pL b1 x.pH) := p1
 have S1 : Hid (OutState w D2 h2 x.sn x.sS vs) := s1
 have W1 : Hid (OutItem w D3 h3 x.wn x.wL b3 x.wH) := w1
 have I1 : Hid (OutEvent w D4 hi x.hn x.hL b4 x.hH) := i1
 clear p1 s1 w1 i1 y1 y2 y3 y4 q1 q2 q3 q4 hs OO
 have X0 : Hid (MkY w (w.alloc (oQ4 (some ⟨D1, 0, none⟩) x.pn x.pn (some ⟨D2, 0, none⟩) x.sn x.sn (some ⟨D3, 0, none⟩) x.wn x.wn (some ⟨D4, 0, none⟩) x.hn x.hn)) lo hi D1 D2 D3 D4 x) := ⟨Touch.of_below (below_allocS _ _), BoxC.new w (.slice (some ⟨D1, 0, none⟩) x.pn x.pn) (.slice (some ⟨D2, 0, none⟩) x.sn x.sn) (.slice (some ⟨D3, 0, none⟩) x.wn x.wn) (.slice (some ⟨D4, 0, none⟩) x.hn x.hn) 29, by simp⟩
 have BA : Hid (Below w.heap.size w (w.alloc (oQ4 (some ⟨D1, 0, none⟩) x.pn x.pn (some ⟨D2, 0, none⟩) x.sn x.sn (some ⟨D3, 0, none⟩) x.wn x.wn (some ⟨D4, 0, none⟩) x.hn x.hn))) := below_allocS _ _
 go_enter Tryz.func13, Tryz.ntmps13
 go_wp2_with fail
 generalize w.alloc (oQ4 (some ⟨D1, 0, none⟩) x.pn x.pn (some ⟨D2, 0, none⟩) x.sn x.sn (some ⟨D3, 0, none⟩) x.wn x.wn (some ⟨D4, 0, none⟩) x.hn x.hn) = wA at *
 refine (markInsSS_any D1 h1 x.pn x.pn x.pL b1 x.pH 1 wA (SysIn.lens HS.out).1.1 (SysIn.lens HS.out).1.2 (by omega) (by omega) (P1.out.below BA.out (by have := QQ.out; omega))).mono ?_
 rintro e w1 ⟨rfl, t1⟩
 have X1 : Hid (MkY w w1 lo hi D1 D2 D3 D4 x) := X0.out.step (by have := QQ.out; omega) t1 fun b hb => by have := QQ.out; have := Y.out; omega
 have KS : Hid (OutState w1 D2 h2 x.sn x.sS vs) := (S1.out.below BA.out (by have := QQ.out; omega)).keep t1.size fun k hk1 hk2 => t1.block k (by have := BA.out.size; have := QQ.out; omega) (fun e => by have := Y.out; omega)
 have KW : Hid (OutItem w1 D3 h3 x.wn x.wL b3 x.wH) := (W1.out.below BA.out (by have := QQ.out; omega)).keep t1.size fun k hk1 hk2 => t1.block k (by have := BA.out.size; have := QQ.out; omega) (fun e => by have := Y.out; omega)
 have KI : Hid (OutEvent w1 D4 hi x.hn x.hL b4 x.hH) := (I1.out.below BA.out (by have := QQ.out; omega)).keep t1.size fun k hk1 hk2 => t1.block k (by have := BA.out.size; have := QQ.out; omega) (fun e => by have := Y.out; omega)
 have z1 : 0 ≤ (1 : Int) + 5 * (sumL x.pL x.pn : Nat) ∧ (1 : Int) + 5 * (sumL x.pL x.pn : Nat) ≤ 6000000 := by have := (SysIn.lens HS.out).1.2; omega
 generalize (1 : Int) + 5 * (sumL x.pL x.pn : Nat) = Z1 at *
 have HZ1 : Hid (0 ≤ Z1 ∧ Z1 ≤ 6000000) := z1
 clear t1 X0 P1 S1 W1 I1 BA z1
 obtain ⟨-, ⟨p0, p1, p2, p3⟩, lt⟩ := X1.out
 go_wp2_with fail
 clear p0 p1 p2 p3 lt
 refine (markStateS_any D2 h2 x.sn x.sn x.sS vs Z1 w1 (SysIn.lens HS.out).2.1.1 (SysIn.lens HS.out).2.1.2 HZ1.out.1 (by have := HZ1.out; omega) KS.out).mono ?_
 rintro e w2 ⟨rfl, t2⟩
 have X2 : Hid (MkY w w2 lo hi D1 D2 D3 D4 x) := X1.out.step (by have := QQ.out; omega) t2 fun b hb => by have := QQ.out; have := Y.out; omega
 have KW2 : Hid (OutItem w2 D3 h3 x.wn x.wL b3 x.wH) := KW.out.keep t2.size fun k hk1 hk2 => t2.block k (Nat.lt_of_lt_of_le hk2 KW.out.le) (fun e => by have := Y.out; omega)
 have KI2 : Hid (OutEvent w2 D4 hi x.hn x.hL b4 x.hH) := KI.out.keep t2.size fun k hk1 hk2 => t2.block k (Nat.lt_of_lt_of_le hk2 KI.out.le) (fun e => by have := Y.out; omega)
 have z2 : 0 ≤ Z1 + (2 * x.sn + sumL (lenS x.sS) x.sn : Nat) ∧ Z1 + (2 * x.sn + sumL (lenS x.sS) x.sn : Nat) ≤ 12000000 := by have := (SysIn.lens HS.out).2.1; have := HZ1.out; omega
 generalize Z1 + (2 * x.sn + sumL (lenS x.sS) x.sn : Nat) = Z2 at *
 have HZ2 : Hid (0 ≤ Z2 ∧ Z2 ≤ 12000000) := z2
 clear t2 X1 KS KW KI z2 HZ1
 obtain ⟨-, ⟨p0, p1, p2, p3⟩, lt⟩ := X2.out
 go_wp2_with fail
 clear p0 p1 p2 p3 lt
 refine (markItemSS_any D3 h3 x.wn x.wn x.wL b3 x.wH Z2 w2 (SysIn.lens HS.out).2.2.1.1 (SysIn.lens HS.out).2.2.1.2 HZ2.out.1 (by have := HZ2.out; omega) KW2.out).mono ?_
 rintro e w3 ⟨rfl, t3⟩
 have X3 : Hid (MkY w w3 lo hi D1 D2 D3 D4 x) := X2.out.step (by have := QQ.out; omega) t3 fun b hb => by have := QQ.out; have := Y.out; omega
 have KI3 : Hid (OutEvent w3 D4 hi x.hn x.hL b4 x.hH) := KI2.out.keep t3.size fun k hk1 hk2 => t3.block k (Nat.lt_of_lt_of_le hk2 KI2.out.le) (fun e => by have := Y.out; omega)
 have z3 : 0 ≤ Z2 + 2 * (sumL x.wL x.wn : Nat) ∧ Z2 + 2 * (sumL x.wL x.wn : Nat) ≤ 18000000 := by have := (SysIn.lens HS.out).2.2.1; have := HZ2.out; omega
 generalize Z2 + 2 * (sumL x.wL x.wn : Nat) = Z3 at *
 have HZ3 : Hid (0 ≤ Z3 ∧ Z3 ≤ 18000000) := z3
 clear t3 X2 KW2 KI2 z3 HZ2
 obtain ⟨-, ⟨p0, p1, p2, p3⟩, lt⟩ := X3.out
 go_wp2_with fail
 clear p0 p1 p2 p3 lt
 refine (markEventSS_any D4 hi x.hn x.hn x.hL b4 x.hH Z3 w3 (SysIn.lens HS.out).2.2.2.1 (SysIn.lens HS.out).2.2.2.2 HZ3.out.1 (by have := HZ3.out; omega) KI3.out).mono ?_
 rintro e w4 ⟨rfl, t4⟩
 have X4 : Hid (MkY w w4 lo hi D1 D2 D3 D4 x) := X3.out.step (by have := QQ.out; omega) t4 fun b hb => by have := QQ.out; have := Y.out; omega
 have HZ4 : Hid (¬ Z3 + 3 * (sumL x.hL x.hn : Nat) < 0) := by
  show ¬ Z3 + 3 * (sumL x.hL x.hn : Nat) < 0
  have := HZ3.out
  omega
 generalize Z3 + 3 * (sumL x.hL x.hn : Nat) = Z4 at *
 clear t4 X3 KI3 HZ3
 go_wp2
 go_ret
 exact ⟨⟨_, rfl, HZ4.out⟩, X4.out.tch⟩
theorem open_sys {H : Type} {enc : TypeId × Value → H} {w : World} {base b0 : Nat} {held : Bool} {rc : Reach} {v : Value} {d : DataW H} {p : List MemPlace}
  (hv : Value.okWide Tryz.prog w rc b0 42 v) (h : DataW.Trod enc Tryz.prog w base (fun _ => true) held 42 v d p) :
  ∃ x : SysIn, v = sysV x.pa x.pn x.pc x.sa x.sn x.sc x.wa x.wn x.wc x.ha x.hn x.hc ∧ x.Row w ∧ x.Max ∧ (x.size ≤ 1048576 → ∃ y : SysIn, v = sysV y.pa y.pn y.pc y.sa y.sn y.sc y.wa y.wn y.wc y.ha y.hn y.hc ∧ y.Ok w ∧ y.size ≤ 1048576) := by
 obtain ⟨cs, rfl, hsz⟩ := okWide_struct Tryz.underlying42 hv
 have h4 : Tryz.prog.cellsOf 42 = 4 := by kernel_rfl
 obtain ⟨c0, c1, c2, c3, rfl⟩ := array4 (hsz.trans h4)
 obtain ⟨fuel, hf⟩ := h
 have hf' : DataW.trod enc Tryz.prog w base (fun _ => true) held fuel 42 [c0, c1, c2, c3] = some (d, p) := by simpa [Value.cells] using hf
 obtain ⟨xs, m, -, -, -, hl, hx⟩ := DataW.trod_struct Tryz.underlying42 hf'
 have hl : xs.length = 4 := hl
 have k0 : Tryz.prog.cellsOf 22 = 1 := by kernel_rfl
 have k1 : Tryz.prog.cellsOf 38 = 1 := by kernel_rfl
 have k2 : Tryz.prog.cellsOf 39 = 1 := by kernel_rfl
 have k3 : Tryz.prog.cellsOf 40 = 1 := by kernel_rfl
 have q0 : DataW.trod enc Tryz.prog w base (fun _ => true) held m 22 [c0] = xs[0]? := by simpa [k0] using hx 0 _ rfl
 have q1 : DataW.trod enc Tryz.prog w base (fun _ => true) held m 38 [c1] = xs[1]? := by simpa [k1] using hx 1 _ rfl
 have q2 : DataW.trod enc Tryz.prog w base (fun _ => true) held m 39 [c2] = xs[2]? := by simpa [k2] using hx 2 _ rfl
 have q3 : DataW.trod enc Tryz.prog w base (fun _ => true) held m 40 [c3] = xs[3]? := by simpa [k3] using hx 3 _ rfl
 rw [List.getElem?_eq_getElem (by omega)] at q0 q1 q2 q3
 have sl : ∀ {t el : TypeId} {c : Value} {y : DataW H × List MemPlace}, Tryz.prog.underlying t = some (.slice el) → DataW.trod enc Tryz.prog w base (fun _ => true) held m t [c] = some y → ∃ a l k, c = .slice a l k := by
  intro t el c y hu hy
  rcases Go.Deep.open_slice hu hy with ⟨hcs, _⟩ | ⟨a, len', cap', m, n, D, Pl, hcs, _⟩
  ·simp at hcs
   exact ⟨_, _, _, hcs⟩
  ·simp at hcs
   exact ⟨_, _, _, hcs⟩
 obtain ⟨pa, pn, pc, rfl⟩ := sl Tryz.underlying22 q0
 obtain ⟨sa, sn, sc, rfl⟩ := sl Tryz.underlying38 q1
 obtain ⟨wa, wn, wc, rfl⟩ := sl Tryz.underlying39 q2
 obtain ⟨ha, hn, hc, rfl⟩ := sl Tryz.underlying40 q3
 obtain ⟨m0, pA, pL, pC, r0, x0, g0⟩ := open_InsSS (d := (xs[0]'(by omega)).1) (p := (xs[0]'(by omega)).2) ⟨m, by simpa [Value.cells] using q0⟩
 obtain ⟨m1, sQ, r1, x1⟩ := open_StateS (d := (xs[1]'(by omega)).1) (p := (xs[1]'(by omega)).2) ⟨m, by simpa [Value.cells] using q1⟩
 obtain ⟨m2, wA, wL, wC, r2, x2, g2⟩ := open_ItemSS (d := (xs[2]'(by omega)).1) (p := (xs[2]'(by omega)).2) ⟨m, by simpa [Value.cells] using q2⟩
 obtain ⟨m3, hA, hL, hC, r3, x3, g3⟩ := open_EventSS (d := (xs[3]'(by omega)).1) (p := (xs[3]'(by omega)).2) ⟨m, by simpa [Value.cells] using q3⟩
 refine ⟨⟨pa, pn, pc, pA, pL, pC, fun _ _ => ⟨0, 0, 0, 0, 0⟩, sa, sn, sc, sQ, wa, wn, wc, wA, wL, wC, fun _ _ => ⟨false, 0⟩, ha, hn, hc, hA, hL, hC, fun _ _ => ⟨0, 0, 0⟩⟩, rfl, ⟨r0, r1, r2, r3⟩, ⟨⟨m0, x0⟩, ⟨m1, x1⟩, ⟨m2, x2⟩, ⟨m3, x3⟩⟩, fun hs => ?_⟩
 have hl := SysIn.lens hs
 obtain ⟨pH, a0⟩ := g0 (sum_le hl.1.2)
 obtain ⟨wH, a2⟩ := g2 (sum_le hl.2.2.1.2)
 obtain ⟨hH, a3⟩ := g3 (sum_le hl.2.2.2.2)
 exact ⟨⟨pa, pn, pc, pA, pL, pC, pH, sa, sn, sc, sQ, wa, wn, wc, wA, wL, wC, wH, ha, hn, hc, hA, hL, hC, hH⟩, rfl, ⟨a0, r1, a2, a3⟩, hs⟩
theorem run_make_kind {t e : TypeId} {bytes : Nat} (K : Kind t e 1 bytes) (n : Nat) (hn : n ≤ 1048576) : ∃ cs : Array Value, cs.size = n ∧ ∀ w : World, (Instr.makeSlice t (.int .i64 0) (.int .i64 (n : Int))).run Tryz.prog w = .ok (.slice (some ⟨w.heap.size, 0, none⟩) 0 n) (w.alloc (.cells cs e)) := by
 obtain ⟨i, z, hi, hz, hs, hb, hzs⟩ := K.inf
 refine ⟨madeCells z.cells n, size_madeCells _ _, fun w => ?_⟩
 have hby : i.bytes * n ≤ 281474976710656 := by
  rw [hb]
  exact Nat.le_trans (Nat.mul_le_mul K.sml hn) (by omega)
 have hby' : (i.bytes : Int) * (n : Int) ≤ 281474976710656 := by rw [← Int.natCast_mul]; exact Int.ofNat_le.2 hby
 have h := run_make (P := Tryz.prog) w t e i z K.und hi hz .i64 .i64 0 (n : Int) (by omega) (by omega) hby' (by omega)
 rw [hs, Nat.mul_one, Int.toNat_natCast] at h
 exact h
theorem LL.made (e : TypeId) (sz : Nat) (E : TypeId) (w : World) (cs : Array Value) (n : Nat) (hn : n ≤ 1048576) (hc : cs.size = n) (P : Nat → Prop) (hP : P w.heap.size) (u : Nat → Value) (L : Nat → Nat) (c : Nat → List Value) : LL e sz E (w.alloc (.cells cs E)) P (.slice (some ⟨w.heap.size, 0, none⟩) 0 n) 0 u L c :=
 ⟨World.ownsRow_made (base := 0) (e := E) (size := 1) w cs n (Nat.zero_le _) (by unfold maxLen; omega) (by rw [hc, Nat.mul_one]), fun i hi => (by omega), fun k hk => (by cases hk; exact hP), fun i hi => (by omega), fun i hi => (by omega), fun i j hi => (by omega), fun i hi => (by omega)⟩
theorem cloneIns_own (b off n cap : Nat) (H : Nat → I5) (w : World) (hn : n ≤ 1048576) (hI : Src w (some ⟨b, off, none⟩) (fI H n)) :
  Calls Tryz.prog 70 #[.slice (some ⟨b, off, none⟩) n cap] w fun e w' => ∃ a c, e = .returned (.slice a n c) ∧ w'.ownsRow w.heap.size 60 5 (.slice a n c) n (fI H n) ∧ Value.slice a n c ≠ .slice none 0 0 ∧ Below w.heap.size w w' := by
 have HI : Hid (Src w (some ⟨b, off, none⟩) (fI H n)) := hI
 have he : ∀ wx : World, (binOp .eql 57 (.slice (some ⟨b, off, none⟩) n cap) (.slice none 0 0)).run Tryz.prog wx = .ok (.bool false) wx := fun wx => by kernel_rfl
 clear hI
 go_enter Tryz.func70, Tryz.ntmps70
 go_wp2_with (at_builtin; refine step_append_srcN kndI w rfl rfl _ _ rfl (some ⟨b, off, none⟩) n cap (fI H n) rfl rfl (fI_len _ _) HI.out (fI_one _ _) (by omega) ?_; intro v4 w4 o4 b4 n4; obtain ⟨a4, c4, rfl⟩ := ownsRow_slice o4; have F4 : Hid (w4.ownsRow w.heap.size 60 5 (.slice a4 n c4) n (fI H n) ∧ Value.slice a4 n c4 ≠ .slice none 0 0 ∧ Below w.heap.size w w4) := ⟨o4, n4, b4⟩; clear o4 b4 n4)
 go_ret
 exact ⟨_, _, rfl, F4.out⟩
theorem copyListsIns_own (a0 : Option Addr) (n cap : Nat) (A : Nat → Option Addr) (L C : Nat → Nat) (H : Nat → Nat → I5) (w : World) (hn : n ≤ 1048576) (hL : ∀ i, i < n → L i ≤ 1048576) (hr : RowS w a0 n fun i => .slice (A i) (L i) (C i)) (hI : ∀ i, i < n → ∃ b off, A i = some ⟨b, off, none⟩ ∧ Src w (A i) (fI (H i) (L i))) :
  Calls Tryz.prog 28 #[.slice a0 n cap] w fun e w' => ∃ v u, e = .returned v ∧ LI w' (fun k => w.heap.size ≤ k ∧ k < w'.heap.size) v n u L H ∧ Below w.heap.size w w' := by
 have hn' : (n : Int) ≤ 1048576 := by omega
 obtain ⟨cs, hcs, hmk⟩ := run_make_kind kndII n hn
 have HCS : Hid (cs.size = n) := hcs
 have HR : Hid (RowS w a0 n fun i => .slice (A i) (L i) (C i)) := hr
 have HI : Hid (∀ i, i < n → ∃ b off, A i = some ⟨b, off, none⟩ ∧ Src w (A i) (fI (H i) (L i))) := hI
 have HL : Hid (∀ i, i < n → L i ≤ 1048576) := hL
 clear hr hI hL hcs
 go_enter Tryz.func28, Tryz.ntmps28
 go_wp2_with fail
 clear hmk
 go_loopw [3, 11] (fun v i wr => ∃ k : Nat, k ≤ n ∧ i = .int .i64 k ∧ Hid ((∃ u, LI wr (fun b => w.heap.size ≤ b ∧ b < wr.heap.size) v k u L H) ∧ Below w.heap.size w wr)) (fun _ i _ => n - (intOf i).toNat)
 case atStart => exact ⟨0, Nat.zero_le _, rfl, ⟨fun _ => .slice none 0 0, LL.made _ _ _ w _ n hn HCS.out _ (by simp) _ _ _⟩, below_allocL _ _⟩
 case round =>
  obtain ⟨k, hk, rfl, HZ⟩ := hrel
  by_cases hlt : k < n
  ·have hlt' : (k : Int) < (n : Int) := by omega
   obtain ⟨b, off, rfl, ck⟩ := (HR.out.below HZ.out.2).at hlt
   have hbl : b < wr.heap.size := World.block_lt_of_cell? wr _ ck
   obtain ⟨b2, o2, ea, hsr⟩ := HI.out k hlt
   rw [ea] at hsr ck
   have HS : Hid (Src wr (some ⟨b2, o2, none⟩) (fI (H k) (L k))) := hsr.below HZ.out.2
   have HLk : Hid (L k ≤ 1048576) := HL.out k hlt
   have hk2 : Hid (k ≤ 2000000) := by show k ≤ 2000000; omega
   obtain ⟨⟨u, oz⟩, bz⟩ := HZ.out
   have OZ : Hid (LI wr (fun b => w.heap.size ≤ b ∧ b < wr.heap.size) u3 k u L H) := oz
   have BZ : Hid (Below w.heap.size w wr) := bz
   clear oz bz HZ hsr ea
   go_wp2_with fail
   refine (cloneIns_own b2 o2 (L k) (C k) (H k) wr HLk.out HS.out).mono ?_
   rintro e w4 ⟨a4, c4, rfl, o4, n4, b4⟩
   have F4 : Hid (w4.ownsRow wr.heap.size 60 5 (.slice a4 (L k) c4) (L k) (fI (H k) (L k)) ∧ Below wr.heap.size wr w4 ∧ Value.slice a4 (L k) c4 ≠ .slice none 0 0) := ⟨o4, b4, n4⟩
   clear o4 b4 n4 ck hbl
   go_wp2_with (at_builtin; refine step_append_val kndII w4 rfl rfl _ _ rfl 0 u3 k _ rfl (OZ.out.below F4.out.2.1).row #[.slice a4 (L k) c4] rfl rfl (by intro u hu; simp at hu; subst hu; rfl) hk2.out (Nat.zero_le _) ?_; intro v5 w5 o5 g5 q5 n5; have F5 : Hid (LI w5 (fun b => w.heap.size ≤ b ∧ b < w5.heap.size) v5 (k + 1) (fun j => if j = k then .slice a4 (L k) c4 else u j) L H ∧ Below w.heap.size w w5) := ⟨OZ.out.push F4.out.2.1 F4.out.1 F4.out.2.2 o5 g5 q5 (fun j hj _ => ⟨hj.1, Nat.lt_of_lt_of_le hj.2 (Nat.le_trans F4.out.2.1.size g5.size)⟩) (fun j hj hj' => ⟨Nat.le_trans BZ.out.size hj, hj'⟩), Below.grown (BZ.out.trans (F4.out.2.1.mono BZ.out.size)) g5 (Nat.le_trans BZ.out.size F4.out.2.1.size) (fun j hj => (OZ.out.rb j hj).1)⟩; clear o5 g5 q5 n5)
   go_roundw
   case rel => exact ⟨k + 1, by omega, by go_num, ⟨_, F5.out.1⟩, F5.out.2⟩
   case measure => simp [intOf]; omega
  ·have hkn : k = n := by omega
   subst hkn
   go_wp2
   go_ret
   obtain ⟨⟨u, oz⟩, bz⟩ := HZ.out
   exact ⟨_, u, rfl, oz, bz⟩
theorem cloneItem_own (b off n cap : Nat) (H : Nat → I2) (w : World) (hn : n ≤ 1048576) (hI : Src w (some ⟨b, off, none⟩) (fT H n)) :
  Calls Tryz.prog 138 #[.slice (some ⟨b, off, none⟩) n cap] w fun e w' => ∃ a c, e = .returned (.slice a n c) ∧ w'.ownsRow w.heap.size 122 2 (.slice a n c) n (fT H n) ∧ Value.slice a n c ≠ .slice none 0 0 ∧ Below w.heap.size w w' := by
 have HI : Hid (Src w (some ⟨b, off, none⟩) (fT H n)) := hI
 have he : ∀ wx : World, (binOp .eql 95 (.slice (some ⟨b, off, none⟩) n cap) (.slice none 0 0)).run Tryz.prog wx = .ok (.bool false) wx := fun wx => by kernel_rfl
 clear hI
 go_enter Tryz.func138, Tryz.ntmps138
 go_wp2_with (at_builtin; refine step_append_srcN kndT w rfl rfl _ _ rfl (some ⟨b, off, none⟩) n cap (fT H n) rfl rfl (fT_len _ _) HI.out (fT_one _ _) (by omega) ?_; intro v4 w4 o4 b4 n4; obtain ⟨a4, c4, rfl⟩ := ownsRow_slice o4; have F4 : Hid (w4.ownsRow w.heap.size 122 2 (.slice a4 n c4) n (fT H n) ∧ Value.slice a4 n c4 ≠ .slice none 0 0 ∧ Below w.heap.size w w4) := ⟨o4, n4, b4⟩; clear o4 b4 n4)
 go_ret
 exact ⟨_, _, rfl, F4.out⟩
theorem copyListsItem_own (a0 : Option Addr) (n cap : Nat) (A : Nat → Option Addr) (L C : Nat → Nat) (H : Nat → Nat → I2) (w : World) (hn : n ≤ 1048576) (hL : ∀ i, i < n → L i ≤ 1048576) (hr : RowS w a0 n fun i => .slice (A i) (L i) (C i)) (hI : ∀ i, i < n → ∃ b off, A i = some ⟨b, off, none⟩ ∧ Src w (A i) (fT (H i) (L i))) :
  Calls Tryz.prog 93 #[.slice a0 n cap] w fun e w' => ∃ v u, e = .returned v ∧ LT w' (fun k => w.heap.size ≤ k ∧ k < w'.heap.size) v n u L H ∧ Below w.heap.size w w' := by
 have hn' : (n : Int) ≤ 1048576 := by omega
 obtain ⟨cs, hcs, hmk⟩ := run_make_kind kndTT n hn
 have HCS : Hid (cs.size = n) := hcs
 have HR : Hid (RowS w a0 n fun i => .slice (A i) (L i) (C i)) := hr
 have HI : Hid (∀ i, i < n → ∃ b off, A i = some ⟨b, off, none⟩ ∧ Src w (A i) (fT (H i) (L i))) := hI
 have HL : Hid (∀ i, i < n → L i ≤ 1048576) := hL
 clear hr hI hL hcs
 go_enter Tryz.func93, Tryz.ntmps93
 go_wp2_with fail
 clear hmk
 go_loopw [3, 11] (fun v i wr => ∃ k : Nat, k ≤ n ∧ i = .int .i64 k ∧ Hid ((∃ u, LT wr (fun b => w.heap.size ≤ b ∧ b < wr.heap.size) v k u L H) ∧ Below w.heap.size w wr)) (fun _ i _ => n - (intOf i).toNat)
 case atStart => exact ⟨0, Nat.zero_le _, rfl, ⟨fun _ => .slice none 0 0, LL.made _ _ _ w _ n hn HCS.out _ (by simp) _ _ _⟩, below_allocL _ _⟩
 case round =>
  obtain ⟨k, hk, rfl, HZ⟩ := hrel
  by_cases hlt : k < n
  ·have hlt' : (k : Int) < (n : Int) := by omega
   obtain ⟨b, off, rfl, ck⟩ := (HR.out.below HZ.out.2).at hlt
   have hbl : b < wr.heap.size := World.block_lt_of_cell? wr _ ck
   obtain ⟨b2, o2, ea, hsr⟩ := HI.out k hlt
   rw [ea] at hsr ck
   have HS : Hid (Src wr (some ⟨b2, o2, none⟩) (fT (H k) (L k))) := hsr.below HZ.out.2
   have HLk : Hid (L k ≤ 1048576) := HL.out k hlt
   have hk2 : Hid (k ≤ 2000000) := by show k ≤ 2000000; omega
   obtain ⟨⟨u, oz⟩, bz⟩ := HZ.out
   have OZ : Hid (LT wr (fun b => w.heap.size ≤ b ∧ b < wr.heap.size) u3 k u L H) := oz
   have BZ : Hid (Below w.heap.size w wr) := bz
   clear oz bz HZ hsr ea
   go_wp2_with fail
   refine (cloneItem_own b2 o2 (L k) (C k) (H k) wr HLk.out HS.out).mono ?_
   rintro e w4 ⟨a4, c4, rfl, o4, n4, b4⟩
   have F4 : Hid (w4.ownsRow wr.heap.size 122 2 (.slice a4 (L k) c4) (L k) (fT (H k) (L k)) ∧ Below wr.heap.size wr w4 ∧ Value.slice a4 (L k) c4 ≠ .slice none 0 0) := ⟨o4, b4, n4⟩
   clear o4 b4 n4 ck hbl
   go_wp2_with (at_builtin; refine step_append_val kndTT w4 rfl rfl _ _ rfl 0 u3 k _ rfl (OZ.out.below F4.out.2.1).row #[.slice a4 (L k) c4] rfl rfl (by intro u hu; simp at hu; subst hu; rfl) hk2.out (Nat.zero_le _) ?_; intro v5 w5 o5 g5 q5 n5; have F5 : Hid (LT w5 (fun b => w.heap.size ≤ b ∧ b < w5.heap.size) v5 (k + 1) (fun j => if j = k then .slice a4 (L k) c4 else u j) L H ∧ Below w.heap.size w w5) := ⟨OZ.out.push F4.out.2.1 F4.out.1 F4.out.2.2 o5 g5 q5 (fun j hj _ => ⟨hj.1, Nat.lt_of_lt_of_le hj.2 (Nat.le_trans F4.out.2.1.size g5.size)⟩) (fun j hj hj' => ⟨Nat.le_trans BZ.out.size hj, hj'⟩), Below.grown (BZ.out.trans (F4.out.2.1.mono BZ.out.size)) g5 (Nat.le_trans BZ.out.size F4.out.2.1.size) (fun j hj => (OZ.out.rb j hj).1)⟩; clear o5 g5 q5 n5)
   go_roundw
   case rel => exact ⟨k + 1, by omega, by go_num, ⟨_, F5.out.1⟩, F5.out.2⟩
   case measure => simp [intOf]; omega
  ·have hkn : k = n := by omega
   subst hkn
   go_wp2
   go_ret
   obtain ⟨⟨u, oz⟩, bz⟩ := HZ.out
   exact ⟨_, u, rfl, oz, bz⟩
theorem cloneEvent_own (b off n cap : Nat) (H : Nat → E3) (w : World) (hn : n ≤ 1048576) (hI : Src w (some ⟨b, off, none⟩) (fE H n)) :
  Calls Tryz.prog 139 #[.slice (some ⟨b, off, none⟩) n cap] w fun e w' => ∃ a c, e = .returned (.slice a n c) ∧ w'.ownsRow w.heap.size 77 3 (.slice a n c) n (fE H n) ∧ Value.slice a n c ≠ .slice none 0 0 ∧ Below w.heap.size w w' := by
 have HI : Hid (Src w (some ⟨b, off, none⟩) (fE H n)) := hI
 have he : ∀ wx : World, (binOp .eql 91 (.slice (some ⟨b, off, none⟩) n cap) (.slice none 0 0)).run Tryz.prog wx = .ok (.bool false) wx := fun wx => by kernel_rfl
 clear hI
 go_enter Tryz.func139, Tryz.ntmps139
 go_wp2_with (at_builtin; refine step_append_srcN kndE w rfl rfl _ _ rfl (some ⟨b, off, none⟩) n cap (fE H n) rfl rfl (fE_len _ _) HI.out (fE_one _ _) (by omega) ?_; intro v4 w4 o4 b4 n4; obtain ⟨a4, c4, rfl⟩ := ownsRow_slice o4; have F4 : Hid (w4.ownsRow w.heap.size 77 3 (.slice a4 n c4) n (fE H n) ∧ Value.slice a4 n c4 ≠ .slice none 0 0 ∧ Below w.heap.size w w4) := ⟨o4, n4, b4⟩; clear o4 b4 n4)
 go_ret
 exact ⟨_, _, rfl, F4.out⟩
theorem copyListsEvent_own (a0 : Option Addr) (n cap : Nat) (A : Nat → Option Addr) (L C : Nat → Nat) (H : Nat → Nat → E3) (w : World) (hn : n ≤ 1048576) (hL : ∀ i, i < n → L i ≤ 1048576) (hr : RowS w a0 n fun i => .slice (A i) (L i) (C i)) (hI : ∀ i, i < n → ∃ b off, A i = some ⟨b, off, none⟩ ∧ Src w (A i) (fE (H i) (L i))) :
  Calls Tryz.prog 94 #[.slice a0 n cap] w fun e w' => ∃ v u, e = .returned v ∧ LE w' (fun k => w.heap.size ≤ k ∧ k < w'.heap.size) v n u L H ∧ Below w.heap.size w w' := by
 have hn' : (n : Int) ≤ 1048576 := by omega
 obtain ⟨cs, hcs, hmk⟩ := run_make_kind kndEE n hn
 have HCS : Hid (cs.size = n) := hcs
 have HR : Hid (RowS w a0 n fun i => .slice (A i) (L i) (C i)) := hr
 have HI : Hid (∀ i, i < n → ∃ b off, A i = some ⟨b, off, none⟩ ∧ Src w (A i) (fE (H i) (L i))) := hI
 have HL : Hid (∀ i, i < n → L i ≤ 1048576) := hL
 clear hr hI hL hcs
 go_enter Tryz.func94, Tryz.ntmps94
 go_wp2_with fail
 clear hmk
 go_loopw [3, 11] (fun v i wr => ∃ k : Nat, k ≤ n ∧ i = .int .i64 k ∧ Hid ((∃ u, LE wr (fun b => w.heap.size ≤ b ∧ b < wr.heap.size) v k u L H) ∧ Below w.heap.size w wr)) (fun _ i _ => n - (intOf i).toNat)
 case atStart => exact ⟨0, Nat.zero_le _, rfl, ⟨fun _ => .slice none 0 0, LL.made _ _ _ w _ n hn HCS.out _ (by simp) _ _ _⟩, below_allocL _ _⟩
 case round =>
  obtain ⟨k, hk, rfl, HZ⟩ := hrel
  by_cases hlt : k < n
  ·have hlt' : (k : Int) < (n : Int) := by omega
   obtain ⟨b, off, rfl, ck⟩ := (HR.out.below HZ.out.2).at hlt
   have hbl : b < wr.heap.size := World.block_lt_of_cell? wr _ ck
   obtain ⟨b2, o2, ea, hsr⟩ := HI.out k hlt
   rw [ea] at hsr ck
   have HS : Hid (Src wr (some ⟨b2, o2, none⟩) (fE (H k) (L k))) := hsr.below HZ.out.2
   have HLk : Hid (L k ≤ 1048576) := HL.out k hlt
   have hk2 : Hid (k ≤ 2000000) := by show k ≤ 2000000; omega
   obtain ⟨⟨u, oz⟩, bz⟩ := HZ.out
   have OZ : Hid (LE wr (fun b => w.heap.size ≤ b ∧ b < wr.heap.size) u3 k u L H) := oz
   have BZ : Hid (Below w.heap.size w wr) := bz
   clear oz bz HZ hsr ea
   go_wp2_with fail
   refine (cloneEvent_own b2 o2 (L k) (C k) (H k) wr HLk.out HS.out).mono ?_
   rintro e w4 ⟨a4, c4, rfl, o4, n4, b4⟩
   have F4 : Hid (w4.ownsRow wr.heap.size 77 3 (.slice a4 (L k) c4) (L k) (fE (H k) (L k)) ∧ Below wr.heap.size wr w4 ∧ Value.slice a4 (L k) c4 ≠ .slice none 0 0) := ⟨o4, b4, n4⟩
   clear o4 b4 n4 ck hbl
   go_wp2_with (at_builtin; refine step_append_val kndEE w4 rfl rfl _ _ rfl 0 u3 k _ rfl (OZ.out.below F4.out.2.1).row #[.slice a4 (L k) c4] rfl rfl (by intro u hu; simp at hu; subst hu; rfl) hk2.out (Nat.zero_le _) ?_; intro v5 w5 o5 g5 q5 n5; have F5 : Hid (LE w5 (fun b => w.heap.size ≤ b ∧ b < w5.heap.size) v5 (k + 1) (fun j => if j = k then .slice a4 (L k) c4 else u j) L H ∧ Below w.heap.size w w5) := ⟨OZ.out.push F4.out.2.1 F4.out.1 F4.out.2.2 o5 g5 q5 (fun j hj _ => ⟨hj.1, Nat.lt_of_lt_of_le hj.2 (Nat.le_trans F4.out.2.1.size g5.size)⟩) (fun j hj hj' => ⟨Nat.le_trans BZ.out.size hj, hj'⟩), Below.grown (BZ.out.trans (F4.out.2.1.mono BZ.out.size)) g5 (Nat.le_trans BZ.out.size F4.out.2.1.size) (fun j hj => (OZ.out.rb j hj).1)⟩; clear o5 g5 q5 n5)
   go_roundw
   case rel => exact ⟨k + 1, by omega, by go_num, ⟨_, F5.out.1⟩, F5.out.2⟩
   case measure => simp [intOf]; omega
  ·have hkn : k = n := by omega
   subst hkn
   go_wp2
   go_ret
   obtain ⟨⟨u, oz⟩, bz⟩ := HZ.out
   exact ⟨_, u, rfl, oz, bz⟩
theorem growItem_own (n : Nat) (w : World) (h0 : 0 < n) (hn : n ≤ 2000000) :
  Calls Tryz.prog 177 #[.slice none 0 0, .int .i64 (n : Int)] w fun e w' => ∃ c, e = .returned (.slice (some ⟨w.heap.size, 0, none⟩) 0 c) ∧ w'.ownsRow w.heap.size 122 2 (.slice (some ⟨w.heap.size, 0, none⟩) 0 c) 0 [] ∧ Below w.heap.size w w' := by
 obtain ⟨i, z, hi, hz, hs, hb, hzs⟩ := kndT.inf
 have hby : n * i.bytes ≤ 140737488355328 := by
  rw [hb]
  omega
 have hrz : ∀ ty, (Builtin.append_ #[95, 3] ty #[.slice none 0 0, .int .i64 (n : Int)]).run Tryz.prog w = .ok (.slice (some ⟨w.heap.size, 0, none⟩) n (grownCap w n 0 122)) (w.drew.alloc (.cells (Builtin.zeroCells z.cells n ++ Builtin.zeroCells z.cells (grownCap w n 0 122 - n)) 122)) := fun ty => by
  have h := Lib.run_append_grow_zeros w 95 3 ty 122 i z .i64 .i64 kndT.und Tryz.underlying3 hi hz none 0 0 [] (run_firstCells_none w.drew i.size 0 0 0) n h0 (by omega) (by omega) (by omega) (by omega) (by rw [Nat.zero_add]; exact growslice_fits (by omega) hby)
  simpa using h
 have hG : n ≤ grownCap w n 0 122 := grownCap_ge w _ _ _
 have hGm : grownCap w n 0 122 ≤ maxLen := grownCap_le_maxLen w _ _ _ (by unfold maxLen; omega)
 have OW : Hid ((w.drew.alloc (.cells (Builtin.zeroCells z.cells n ++ Builtin.zeroCells z.cells (grownCap w n 0 122 - n)) 122)).ownsRow w.heap.size 122 2 (.slice (some ⟨w.heap.size, 0, none⟩) 0 (grownCap w n 0 122)) 0 []) := World.ownsRow_made (base := w.heap.size) (e := 122) (size := 2) w.drew _ _ (Nat.le_refl _) hGm (by rw [Array.size_append, size_zeroCells, size_zeroCells, hzs]; omega)
 have BW : Hid (Below w.heap.size w (w.drew.alloc (.cells (Builtin.zeroCells z.cells n ++ Builtin.zeroCells z.cells (grownCap w n 0 122 - n)) 122))) := (Below.refl w.heap.size w).drew.trans (below_allocL w.drew _)
 generalize grownCap w n 0 122 = G at *
 generalize Builtin.zeroCells z.cells n ++ Builtin.zeroCells z.cells (G - n) = cs at *
 have hG' : (n : Int) ≤ (G : Int) := by omega
 have hG0 : (0 : Int) ≤ (G : Int) := by omega
 have hn0 : ¬ ((n : Int) < 0) := by omega
 have hn1 : (0 : Int) < (n : Int) := by omega
 clear hi hz hs hb hzs hby hGm hG
 go_enter Tryz.func177, Tryz.ntmps177
 go_wp2_with (at_builtin; refine Lib.wpList_append_run _ rfl _ _ _ _ rfl _ _ rfl rfl _ _ (hrz _) ?_)
 all_goals
  go_ret
  exact ⟨_, rfl, OW.out, BW.out⟩
theorem concatItem_own (b n1 c1 n2 c2 : Nat) (a1 a2 : Option Addr) (s1 s2 : List Value) (w : World) (h1 : n1 ≤ 1000000) (h2 : n2 ≤ 1000000) (h0 : 0 < n1 + n2) (k1 : w.cell? ⟨b, 0, none⟩ = some (.slice a1 n1 c1)) (k2 : w.cell? ⟨b, 1, none⟩ = some (.slice a2 n2 c2)) (l1 : s1.length = n1 * 2) (l2 : s2.length = n2 * 2) (r1 : Src w a1 s1) (r2 : Src w a2 s2) (o1 : ∀ u ∈ s1, u.oneCell' = true) (o2 : ∀ u ∈ s2, u.oneCell' = true) :
  Calls Tryz.prog 153 #[.slice (some ⟨b, 0, none⟩) 2 2] w fun e w' => ∃ v, e = .returned v ∧ w'.ownsRow w.heap.size 122 2 v (n1 + n2) (s1 ++ s2) ∧ v ≠ .slice none 0 0 ∧ Below w.heap.size w w' := by
 have H1 : (n1 : Int) ≤ 1000000 := by omega
 have H2 : (n2 : Int) ≤ 1000000 := by omega
 have KC : Hid (w.cell? ⟨b, 0, none⟩ = some (.slice a1 n1 c1) ∧ w.cell? ⟨b, 1, none⟩ = some (.slice a2 n2 c2) ∧ b < w.heap.size) := ⟨k1, k2, World.block_lt_of_cell? w _ k1⟩
 have RC : Hid ((s1.length = n1 * 2 ∧ Src w a1 s1 ∧ ∀ u ∈ s1, u.oneCell' = true) ∧ (s2.length = n2 * 2 ∧ Src w a2 s2 ∧ ∀ u ∈ s2, u.oneCell' = true)) := ⟨⟨l1, r1, o1⟩, ⟨l2, r2, o2⟩⟩
 clear l1 l2 r1 r2 o1 o2 k1 k2
 go_enter Tryz.func153, Tryz.ntmps153
 go_wp2_with fail
 go_loopw [3, 11] (fun q i wr => ∃ j : Nat, j ≤ 2 ∧ i = .int .i64 j ∧ q = .int .i64 ((if j = 0 then 0 else if j = 1 then n1 else n1 + n2 : Nat) : Int) ∧ wr = w) (fun _ i _ => 2 - (intOf i).toNat)
 case atStart => exact ⟨0, Nat.zero_le _, rfl, rfl, rfl⟩
 case round =>
  obtain ⟨j, hj, rfl, rfl, hwr⟩ := hrel
  obtain rfl := hwr.symm
  obtain ⟨k1, k2, -⟩ := KC.out
  by_cases hj0 : j = 0
  ·subst hj0
   simp only [if_true]
   go_wp2
   go_roundw
   case rel => exact ⟨1, by omega, by go_num, by simp, by first | rfl | trivial⟩
   case measure => simp [intOf]
  ·by_cases hj1 : j = 1
   ·subst hj1
    simp only [if_true, if_neg (show ¬ (1 : Nat) = 0 by decide)]
    have hs : ¬ ((n1 : Int) + (n2 : Int) < 0) := by omega
    go_wp2
    go_roundw
    case rel => exact ⟨2, by omega, by go_num, by simp, by first | rfl | trivial⟩
    case measure => simp [intOf]
   ·obtain rfl : j = 2 := by omega
    simp only [if_neg (show ¬ (2 : Nat) = 0 by decide), if_neg (show ¬ (2 : Nat) = 1 by decide)]
    clear k1 k2
    go_wp2_with fail
    refine (growItem_own (n1 + n2) w h0 (by omega)).mono ?_
    rintro e w1 ⟨cg, rfl, og, bg⟩
    have OG : Hid (w1.ownsRow w.heap.size 122 2 (.slice (some ⟨w.heap.size, 0, none⟩) 0 cg) 0 [] ∧ Below w.heap.size w w1) := ⟨og, bg⟩
    clear og bg
    go_wp2_with fail
    go_loopw [6, 27] (fun v i wx => ∃ j : Nat, j ≤ 2 ∧ i = .int .i64 j ∧ Hid (wx.ownsRow w.heap.size 122 2 v (if j = 0 then 0 else if j = 1 then n1 else n1 + n2) (if j = 0 then [] else if j = 1 then s1 else s1 ++ s2) ∧ v ≠ .slice none 0 0 ∧ Below w.heap.size w wx)) (fun _ i _ => 2 - (intOf i).toNat)
    case atStart => exact ⟨0, Nat.zero_le _, rfl, OG.out.1, by simp, OG.out.2⟩
    case round =>
     clear OG
     obtain ⟨j, hj, rfl, HZ⟩ := hrel
     obtain ⟨k1, k2, kb⟩ := KC.out
     have HB : Hid (Below w.heap.size w wr) := HZ.out.2.2
     have hne : Hid (u6 ≠ .slice none 0 0) := HZ.out.2.1
     by_cases hj0 : j = 0
     ·subst hj0
      have m1 := (HB.out.cell (p := ⟨b, 0, none⟩) kb).trans k1
      have OV : Hid (wr.ownsRow w.heap.size 122 2 u6 0 []) := HZ.out.1
      clear k1 k2 kb HZ
      go_wp2_with (at_builtin; refine step_append_src kndT wr rfl _ _ rfl w.heap.size u6 0 [] rfl OV.out a1 n1 c1 s1 rfl RC.out.1.1 (RC.out.1.2.1.below HB.out) RC.out.1.2.2 (by omega) HB.out.size ?_; intro v5 w5 o5 g5 q5 n5; have F5 : Hid (w5.ownsRow w.heap.size 122 2 v5 n1 s1 ∧ v5 ≠ .slice none 0 0 ∧ Below w.heap.size w w5) := ⟨by rw [Nat.zero_add, List.nil_append] at o5; exact o5, n5 (.inl hne.out), Below.grown HB.out g5 HB.out.size (fun j hj => (OV.out.lt j hj).1)⟩; clear o5 g5 q5 n5)
      go_roundw
      case rel => exact ⟨1, by omega, by go_num, F5.out⟩
      case measure => simp [intOf]
     ·by_cases hj1 : j = 1
      ·subst hj1
       have m2 := (HB.out.cell (p := ⟨b, 1, none⟩) kb).trans k2
       have OV : Hid (wr.ownsRow w.heap.size 122 2 u6 n1 s1) := HZ.out.1
       clear k1 k2 kb HZ
       go_wp2_with (at_builtin; refine step_append_src kndT wr rfl _ _ rfl w.heap.size u6 n1 s1 rfl OV.out a2 n2 c2 s2 rfl RC.out.2.1 (RC.out.2.2.1.below HB.out) RC.out.2.2.2 (by omega) HB.out.size ?_; intro v5 w5 o5 g5 q5 n5; have F5 : Hid (w5.ownsRow w.heap.size 122 2 v5 (n1 + n2) (s1 ++ s2) ∧ v5 ≠ .slice none 0 0 ∧ Below w.heap.size w w5) := ⟨o5, n5 (.inl hne.out), Below.grown HB.out g5 HB.out.size (fun j hj => (OV.out.lt j hj).1)⟩; clear o5 g5 q5 n5)
       go_roundw
       case rel => exact ⟨2, by omega, by go_num, F5.out⟩
       case measure => simp [intOf]
      ·obtain rfl : j = 2 := by omega
       have F5 : Hid (wr.ownsRow w.heap.size 122 2 u6 (n1 + n2) (s1 ++ s2) ∧ u6 ≠ .slice none 0 0 ∧ Below w.heap.size w wr) := HZ.out
       clear HZ k1 k2
       go_wp2
       go_ret
       exact ⟨_, rfl, F5.out⟩
theorem withItem_own (a : Option Addr) (n c : Nat) (lim : Int) (H : Nat → I2) (x : I2) (w : World) (hn : n ≤ 1000) (hI : Src w a (fT H n)) :
  Calls Tryz.prog 104 #[.agg #[.slice a n c, .int .i64 lim], .agg #[.bool x.m, .int .i64 x.v]] w fun e w' => ∃ v, e = .returned v ∧ w'.ownsRow w.heap.size 122 2 v (n + 1) (fT (fun i => if i = n then x else H i) (n + 1)) ∧ v ≠ .slice none 0 0 ∧ Below w.heap.size w w' := by
 have HI : Hid (Src w a (fT H n)) := hI
 have HF : Hid (fT (fun i => if i = n then x else H i) (n + 1) = fT H n ++ cT x) := by
  show flat (fun i => cT (if i = n then x else H i)) n ++ cT (if n = n then x else H n) = flat (fun i => cT (H i)) n ++ cT x
  rw [if_pos rfl]
  congr 1
  exact flat_congr fun i hi => by rw [if_neg (by omega)]
 clear hI
 go_enter Tryz.func104, Tryz.ntmps104
 go_wp2_with fail
 have B3 : Hid (Below w.heap.size w ((((w.alloc (.cells #[.slice a n c, .int .i64 lim] 138)).alloc (.cells #[.bool x.m, .int .i64 x.v] 122)).alloc (.cells #[.bool x.m, .int .i64 x.v] 122)).alloc (.cells #[.slice a n c, .slice (some ⟨w.heap.size + 2, 0, none⟩) 1 1] 95))) := by
  show Below w.heap.size w ((((w.alloc (.cells #[.slice a n c, .int .i64 lim] 138)).alloc (.cells #[.bool x.m, .int .i64 x.v] 122)).alloc (.cells #[.bool x.m, .int .i64 x.v] 122)).alloc (.cells #[.slice a n c, .slice (some ⟨w.heap.size + 2, 0, none⟩) 1 1] 95))
  go_grown
 have k1 : ((((w.alloc (.cells #[.slice a n c, .int .i64 lim] 138)).alloc (.cells #[.bool x.m, .int .i64 x.v] 122)).alloc (.cells #[.bool x.m, .int .i64 x.v] 122)).alloc (.cells #[.slice a n c, .slice (some ⟨w.heap.size + 2, 0, none⟩) 1 1] 95)).cell? ⟨w.heap.size + 3, 0, none⟩ = some (.slice a n c) := new_cell _ _ _ 0 (by simp)
 have k2 : ((((w.alloc (.cells #[.slice a n c, .int .i64 lim] 138)).alloc (.cells #[.bool x.m, .int .i64 x.v] 122)).alloc (.cells #[.bool x.m, .int .i64 x.v] 122)).alloc (.cells #[.slice a n c, .slice (some ⟨w.heap.size + 2, 0, none⟩) 1 1] 95)).cell? ⟨w.heap.size + 3, 1, none⟩ = some (.slice (some ⟨w.heap.size + 2, 0, none⟩) 1 1) := new_cell _ _ _ 1 (by simp)
 have r2 : Src ((((w.alloc (.cells #[.slice a n c, .int .i64 lim] 138)).alloc (.cells #[.bool x.m, .int .i64 x.v] 122)).alloc (.cells #[.bool x.m, .int .i64 x.v] 122)).alloc (.cells #[.slice a n c, .slice (some ⟨w.heap.size + 2, 0, none⟩) 1 1] 95)) (some ⟨w.heap.size + 2, 0, none⟩) (cT x) :=   .inr ⟨w.heap.size + 2, 0, rfl, (by simp), fun j u hj => by
  have ba := below_allocL (((w.alloc (.cells #[.slice a n c, .int .i64 lim] 138)).alloc (.cells #[.bool x.m, .int .i64 x.v] 122)).alloc (.cells #[.bool x.m, .int .i64 x.v] 122)) (.cells #[.slice a n c, .slice (some ⟨w.heap.size + 2, 0, none⟩) 1 1] 95)
  rw [Nat.zero_add, (bcell ba).1 _ _ (by simp), new_cell _ _ _ j (by simp)]
  simpa [cT] using hj⟩
 refine (concatItem_own (w.heap.size + 3) n c 1 1 a (some ⟨w.heap.size + 2, 0, none⟩) (fT H n) (cT x) ((((w.alloc (.cells #[.slice a n c, .int .i64 lim] 138)).alloc (.cells #[.bool x.m, .int .i64 x.v] 122)).alloc (.cells #[.bool x.m, .int .i64 x.v] 122)).alloc (.cells #[.slice a n c, .slice (some ⟨w.heap.size + 2, 0, none⟩) 1 1] 95)) (by omega) (by omega) (by omega) k1 k2 (fT_len _ _) rfl (HI.out.below B3.out) r2 (fT_one _ _) (by intro u hu; simp [cT] at hu; rcases hu with rfl | rfl <;> rfl)).mono ?_
 rintro e w5 ⟨v5, rfl, o5, n5, b5⟩
 have F5 : Hid (w5.ownsRow w.heap.size 122 2 v5 (n + 1) (fT H n ++ cT x) ∧ v5 ≠ .slice none 0 0 ∧ Below w.heap.size w w5) := ⟨o5.mono (by simp; omega), n5, B3.out.trans (b5.mono B3.out.size)⟩
 clear o5 n5 b5 k1 k2 r2 B3
 go_wp2
 go_ret
 rw [HF.out]
 exact ⟨_, rfl, F5.out⟩
theorem growEvent_own (n : Nat) (w : World) (h0 : 0 < n) (hn : n ≤ 2000000) :
  Calls Tryz.prog 176 #[.slice none 0 0, .int .i64 (n : Int)] w fun e w' => ∃ c, e = .returned (.slice (some ⟨w.heap.size, 0, none⟩) 0 c) ∧ w'.ownsRow w.heap.size 77 3 (.slice (some ⟨w.heap.size, 0, none⟩) 0 c) 0 [] ∧ Below w.heap.size w w' := by
 obtain ⟨i, z, hi, hz, hs, hb, hzs⟩ := kndE.inf
 have hby : n * i.bytes ≤ 140737488355328 := by
  rw [hb]
  omega
 have hrz : ∀ ty, (Builtin.append_ #[91, 3] ty #[.slice none 0 0, .int .i64 (n : Int)]).run Tryz.prog w = .ok (.slice (some ⟨w.heap.size, 0, none⟩) n (grownCap w n 0 77)) (w.drew.alloc (.cells (Builtin.zeroCells z.cells n ++ Builtin.zeroCells z.cells (grownCap w n 0 77 - n)) 77)) := fun ty => by
  have h := Lib.run_append_grow_zeros w 91 3 ty 77 i z .i64 .i64 kndE.und Tryz.underlying3 hi hz none 0 0 [] (run_firstCells_none w.drew i.size 0 0 0) n h0 (by omega) (by omega) (by omega) (by omega) (by rw [Nat.zero_add]; exact growslice_fits (by omega) hby)
  simpa using h
 have hG : n ≤ grownCap w n 0 77 := grownCap_ge w _ _ _
 have hGm : grownCap w n 0 77 ≤ maxLen := grownCap_le_maxLen w _ _ _ (by unfold maxLen; omega)
 have OW : Hid ((w.drew.alloc (.cells (Builtin.zeroCells z.cells n ++ Builtin.zeroCells z.cells (grownCap w n 0 77 - n)) 77)).ownsRow w.heap.size 77 3 (.slice (some ⟨w.heap.size, 0, none⟩) 0 (grownCap w n 0 77)) 0 []) := World.ownsRow_made (base := w.heap.size) (e := 77) (size := 3) w.drew _ _ (Nat.le_refl _) hGm (by rw [Array.size_append, size_zeroCells, size_zeroCells, hzs]; omega)
 have BW : Hid (Below w.heap.size w (w.drew.alloc (.cells (Builtin.zeroCells z.cells n ++ Builtin.zeroCells z.cells (grownCap w n 0 77 - n)) 77))) := (Below.refl w.heap.size w).drew.trans (below_allocL w.drew _)
 generalize grownCap w n 0 77 = G at *
 generalize Builtin.zeroCells z.cells n ++ Builtin.zeroCells z.cells (G - n) = cs at *
 have hG' : (n : Int) ≤ (G : Int) := by omega
 have hG0 : (0 : Int) ≤ (G : Int) := by omega
 have hn0 : ¬ ((n : Int) < 0) := by omega
 have hn1 : (0 : Int) < (n : Int) := by omega
 clear hi hz hs hb hzs hby hGm hG
 go_enter Tryz.func176, Tryz.ntmps176
 go_wp2_with (at_builtin; refine Lib.wpList_append_run _ rfl _ _ _ _ rfl _ _ rfl rfl _ _ (hrz _) ?_)
 all_goals
  go_ret
  exact ⟨_, rfl, OW.out, BW.out⟩
theorem concatEvent_own (b n1 c1 n2 c2 : Nat) (a1 a2 : Option Addr) (s1 s2 : List Value) (w : World) (h1 : n1 ≤ 1000000) (h2 : n2 ≤ 1000000) (h0 : 0 < n1 + n2) (k1 : w.cell? ⟨b, 0, none⟩ = some (.slice a1 n1 c1)) (k2 : w.cell? ⟨b, 1, none⟩ = some (.slice a2 n2 c2)) (l1 : s1.length = n1 * 3) (l2 : s2.length = n2 * 3) (r1 : Src w a1 s1) (r2 : Src w a2 s2) (o1 : ∀ u ∈ s1, u.oneCell' = true) (o2 : ∀ u ∈ s2, u.oneCell' = true) :
  Calls Tryz.prog 152 #[.slice (some ⟨b, 0, none⟩) 2 2] w fun e w' => ∃ v, e = .returned v ∧ w'.ownsRow w.heap.size 77 3 v (n1 + n2) (s1 ++ s2) ∧ v ≠ .slice none 0 0 ∧ Below w.heap.size w w' := by
 have H1 : (n1 : Int) ≤ 1000000 := by omega
 have H2 : (n2 : Int) ≤ 1000000 := by omega
 have KC : Hid (w.cell? ⟨b, 0, none⟩ = some (.slice a1 n1 c1) ∧ w.cell? ⟨b, 1, none⟩ = some (.slice a2 n2 c2) ∧ b < w.heap.size) := ⟨k1, k2, World.block_lt_of_cell? w _ k1⟩
 have RC : Hid ((s1.length = n1 * 3 ∧ Src w a1 s1 ∧ ∀ u ∈ s1, u.oneCell' = true) ∧ (s2.length = n2 * 3 ∧ Src w a2 s2 ∧ ∀ u ∈ s2, u.oneCell' = true)) := ⟨⟨l1, r1, o1⟩, ⟨l2, r2, o2⟩⟩
 clear l1 l2 r1 r2 o1 o2 k1 k2
 go_enter Tryz.func152, Tryz.ntmps152
 go_wp2_with fail
 go_loopw [3, 11] (fun q i wr => ∃ j : Nat, j ≤ 2 ∧ i = .int .i64 j ∧ q = .int .i64 ((if j = 0 then 0 else if j = 1 then n1 else n1 + n2 : Nat) : Int) ∧ wr = w) (fun _ i _ => 2 - (intOf i).toNat)
 case atStart => exact ⟨0, Nat.zero_le _, rfl, rfl, rfl⟩
 case round =>
  obtain ⟨j, hj, rfl, rfl, hwr⟩ := hrel
  obtain rfl := hwr.symm
  obtain ⟨k1, k2, -⟩ := KC.out
  by_cases hj0 : j = 0
  ·subst hj0
   simp only [if_true]
   go_wp2
   go_roundw
   case rel => exact ⟨1, by omega, by go_num, by simp, by first | rfl | trivial⟩
   case measure => simp [intOf]
  ·by_cases hj1 : j = 1
   ·subst hj1
    simp only [if_true, if_neg (show ¬ (1 : Nat) = 0 by decide)]
    have hs : ¬ ((n1 : Int) + (n2 : Int) < 0) := by omega
    go_wp2
    go_roundw
    case rel => exact ⟨2, by omega, by go_num, by simp, by first | rfl | trivial⟩
    case measure => simp [intOf]
   ·obtain rfl : j = 2 := by omega
    simp only [if_neg (show ¬ (2 : Nat) = 0 by decide), if_neg (show ¬ (2 : Nat) = 1 by decide)]
    clear k1 k2
    go_wp2_with fail
    refine (growEvent_own (n1 + n2) w h0 (by omega)).mono ?_
    rintro e w1 ⟨cg, rfl, og, bg⟩
    have OG : Hid (w1.ownsRow w.heap.size 77 3 (.slice (some ⟨w.heap.size, 0, none⟩) 0 cg) 0 [] ∧ Below w.heap.size w w1) := ⟨og, bg⟩
    clear og bg
    go_wp2_with fail
    go_loopw [6, 27] (fun v i wx => ∃ j : Nat, j ≤ 2 ∧ i = .int .i64 j ∧ Hid (wx.ownsRow w.heap.size 77 3 v (if j = 0 then 0 else if j = 1 then n1 else n1 + n2) (if j = 0 then [] else if j = 1 then s1 else s1 ++ s2) ∧ v ≠ .slice none 0 0 ∧ Below w.heap.size w wx)) (fun _ i _ => 2 - (intOf i).toNat)
    case atStart => exact ⟨0, Nat.zero_le _, rfl, OG.out.1, by simp, OG.out.2⟩
    case round =>
     clear OG
     obtain ⟨j, hj, rfl, HZ⟩ := hrel
     obtain ⟨k1, k2, kb⟩ := KC.out
     have HB : Hid (Below w.heap.size w wr) := HZ.out.2.2
     have hne : Hid (u6 ≠ .slice none 0 0) := HZ.out.2.1
     by_cases hj0 : j = 0
     ·subst hj0
      have m1 := (HB.out.cell (p := ⟨b, 0, none⟩) kb).trans k1
      have OV : Hid (wr.ownsRow w.heap.size 77 3 u6 0 []) := HZ.out.1
      clear k1 k2 kb HZ
      go_wp2_with (at_builtin; refine step_append_src kndE wr rfl _ _ rfl w.heap.size u6 0 [] rfl OV.out a1 n1 c1 s1 rfl RC.out.1.1 (RC.out.1.2.1.below HB.out) RC.out.1.2.2 (by omega) HB.out.size ?_; intro v5 w5 o5 g5 q5 n5; have F5 : Hid (w5.ownsRow w.heap.size 77 3 v5 n1 s1 ∧ v5 ≠ .slice none 0 0 ∧ Below w.heap.size w w5) := ⟨by rw [Nat.zero_add, List.nil_append] at o5; exact o5, n5 (.inl hne.out), Below.grown HB.out g5 HB.out.size (fun j hj => (OV.out.lt j hj).1)⟩; clear o5 g5 q5 n5)
      go_roundw
      case rel => exact ⟨1, by omega, by go_num, F5.out⟩
      case measure => simp [intOf]
     ·by_cases hj1 : j = 1
      ·subst hj1
       have m2 := (HB.out.cell (p := ⟨b, 1, none⟩) kb).trans k2
       have OV : Hid (wr.ownsRow w.heap.size 77 3 u6 n1 s1) := HZ.out.1
       clear k1 k2 kb HZ
       go_wp2_with (at_builtin; refine step_append_src kndE wr rfl _ _ rfl w.heap.size u6 n1 s1 rfl OV.out a2 n2 c2 s2 rfl RC.out.2.1 (RC.out.2.2.1.below HB.out) RC.out.2.2.2 (by omega) HB.out.size ?_; intro v5 w5 o5 g5 q5 n5; have F5 : Hid (w5.ownsRow w.heap.size 77 3 v5 (n1 + n2) (s1 ++ s2) ∧ v5 ≠ .slice none 0 0 ∧ Below w.heap.size w w5) := ⟨o5, n5 (.inl hne.out), Below.grown HB.out g5 HB.out.size (fun j hj => (OV.out.lt j hj).1)⟩; clear o5 g5 q5 n5)
       go_roundw
       case rel => exact ⟨2, by omega, by go_num, F5.out⟩
       case measure => simp [intOf]
      ·obtain rfl : j = 2 := by omega
       have F5 : Hid (wr.ownsRow w.heap.size 77 3 u6 (n1 + n2) (s1 ++ s2) ∧ u6 ≠ .slice none 0 0 ∧ Below w.heap.size w wr) := HZ.out
       clear HZ k1 k2
       go_wp2
       go_ret
       exact ⟨_, rfl, F5.out⟩
theorem withEvent_own (a : Option Addr) (n c : Nat) (lim : Int) (H : Nat → E3) (x : E3) (w : World) (hn : n ≤ 1000) (hI : Src w a (fE H n)) :
  Calls Tryz.prog 102 #[.agg #[.slice a n c, .int .i64 lim], .agg #[.int .i64 x.k, .int .i64 x.q, .int .i64 x.v]] w fun e w' => ∃ v, e = .returned v ∧ w'.ownsRow w.heap.size 77 3 v (n + 1) (fE (fun i => if i = n then x else H i) (n + 1)) ∧ v ≠ .slice none 0 0 ∧ Below w.heap.size w w' := by
 have HI : Hid (Src w a (fE H n)) := hI
 have HF : Hid (fE (fun i => if i = n then x else H i) (n + 1) = fE H n ++ cE x) := by
  show flat (fun i => cE (if i = n then x else H i)) n ++ cE (if n = n then x else H n) = flat (fun i => cE (H i)) n ++ cE x
  rw [if_pos rfl]
  congr 1
  exact flat_congr fun i hi => by rw [if_neg (by omega)]
 clear hI
 go_enter Tryz.func102, Tryz.ntmps102
 go_wp2_with fail
 have B3 : Hid (Below w.heap.size w ((((w.alloc (.cells #[.slice a n c, .int .i64 lim] 134)).alloc (oQ1 x.k x.q x.v)).alloc (oQ1 x.k x.q x.v)).alloc (.cells #[.slice a n c, .slice (some ⟨w.heap.size + 2, 0, none⟩) 1 1] 91))) := by
  show Below w.heap.size w ((((w.alloc (.cells #[.slice a n c, .int .i64 lim] 134)).alloc (oQ1 x.k x.q x.v)).alloc (oQ1 x.k x.q x.v)).alloc (.cells #[.slice a n c, .slice (some ⟨w.heap.size + 2, 0, none⟩) 1 1] 91))
  go_grown
 have k1 : ((((w.alloc (.cells #[.slice a n c, .int .i64 lim] 134)).alloc (oQ1 x.k x.q x.v)).alloc (oQ1 x.k x.q x.v)).alloc (.cells #[.slice a n c, .slice (some ⟨w.heap.size + 2, 0, none⟩) 1 1] 91)).cell? ⟨w.heap.size + 3, 0, none⟩ = some (.slice a n c) := new_cell _ _ _ 0 (by simp)
 have k2 : ((((w.alloc (.cells #[.slice a n c, .int .i64 lim] 134)).alloc (oQ1 x.k x.q x.v)).alloc (oQ1 x.k x.q x.v)).alloc (.cells #[.slice a n c, .slice (some ⟨w.heap.size + 2, 0, none⟩) 1 1] 91)).cell? ⟨w.heap.size + 3, 1, none⟩ = some (.slice (some ⟨w.heap.size + 2, 0, none⟩) 1 1) := new_cell _ _ _ 1 (by simp)
 have r2 : Src ((((w.alloc (.cells #[.slice a n c, .int .i64 lim] 134)).alloc (oQ1 x.k x.q x.v)).alloc (oQ1 x.k x.q x.v)).alloc (.cells #[.slice a n c, .slice (some ⟨w.heap.size + 2, 0, none⟩) 1 1] 91)) (some ⟨w.heap.size + 2, 0, none⟩) (cE x) :=   .inr ⟨w.heap.size + 2, 0, rfl, (by simp), fun j u hj => by
  have ba := below_allocL (((w.alloc (.cells #[.slice a n c, .int .i64 lim] 134)).alloc (oQ1 x.k x.q x.v)).alloc (oQ1 x.k x.q x.v)) (.cells #[.slice a n c, .slice (some ⟨w.heap.size + 2, 0, none⟩) 1 1] 91)
  rw [Nat.zero_add, (bcell ba).1 _ _ (by simp), new_cell _ _ _ j (by simp)]
  simpa [cE] using hj⟩
 refine (concatEvent_own (w.heap.size + 3) n c 1 1 a (some ⟨w.heap.size + 2, 0, none⟩) (fE H n) (cE x) ((((w.alloc (.cells #[.slice a n c, .int .i64 lim] 134)).alloc (oQ1 x.k x.q x.v)).alloc (oQ1 x.k x.q x.v)).alloc (.cells #[.slice a n c, .slice (some ⟨w.heap.size + 2, 0, none⟩) 1 1] 91)) (by omega) (by omega) (by omega) k1 k2 (fE_len _ _) rfl (HI.out.below B3.out) r2 (fE_one _ _) (by intro u hu; simp [cE] at hu; rcases hu with rfl | rfl | rfl <;> rfl)).mono ?_
 rintro e w5 ⟨v5, rfl, o5, n5, b5⟩
 have F5 : Hid (w5.ownsRow w.heap.size 77 3 v5 (n + 1) (fE H n ++ cE x) ∧ v5 ≠ .slice none 0 0 ∧ Below w.heap.size w w5) := ⟨o5.mono (by simp; omega), n5, B3.out.trans (b5.mono B3.out.size)⟩
 clear o5 n5 b5 k1 k2 r2 B3
 go_wp2
 go_ret
 rw [HF.out]
 exact ⟨_, rfl, F5.out⟩
end Go.Proofs.YtdigofhceahpdaaGreatDoor
