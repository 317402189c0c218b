/- A step that is done leaves a system that is right. -/
import Derived.Test.YtfdanemmefckpaaGreatDoorOc0
import Derived.Test.YtfdanemmefckpaaGreatDoorOc16
import Derived.Test.YtfdanemmefckpaaGreatDoorOc18
import Derived.Test.YtfdanemmefckpaaGreatDoorOc2
import Derived.Test.YtfdanemmefckpaaGreatDoorOc11
import Derived.Lib.QuietBelow
import Derived.Test.YtfdanemmefckpaaGreatDoorOc17
import Derived.LaidEql
import Derived.Stop.Asserts
import Derived.RowKitTokens
import Derived.Test.YtfdanemmefckpaaGreatDoorOc10
namespace Go.Proofs.YtfdanemmefckpaaGreatDoor
set_option maxRecDepth 100000
set_option maxHeartbeats 4000000
open Go.ChangeShapes Go.WideShapes Go.ChangeAt Go.RowKit Go.Deep
theorem eqSys_same (x : SysIn) (l1 u1 l2 u2 : Nat) (v1 v2 : Value) (w : World) (hs : x.size ≤ 1048576) (o1 : IsSys w l1 u1 x v1) (o2 : IsSys w l2 u2 x v2) :
  Calls Tryz.prog 12 #[v1, v2] w fun e w' => e = .returned (.bool true) ∧ Below w.heap.size w w' := by
 obtain ⟨D1, D2, D3, D4, b1, vs, b3, b4, h1, h2, h3, o1⟩ := o1
 obtain ⟨E1, E2, E3, E4, c1, us, c3, c4, g1, g2, g3, o2⟩ := o2
 have HS : Hid (x.size ≤ 1048576) := hs
 obtain ⟨rfl, p1, s1, w1, i1, -, -, -, -⟩ := o1
 obtain ⟨rfl, p2, s2, w2, i2, -, -, -, -⟩ := o2
 have P1 : Hid (OutIns w D1 h1 x.pn x.pL b1 x.pH) := p1
 have P2 : Hid (OutIns w E1 g1 x.pn x.pL c1 x.pH) := p2
 have S1 : Hid (OutState w D2 h2 x.sn x.sS vs) := s1
 have S2 : Hid (OutState w E2 g2 x.sn x.sS us) := s2
 have W1 : Hid (OutItem w D3 h3 x.wn x.wL b3 x.wH) := w1
 have W2 : Hid (OutItem w E3 g3 x.wn x.wL c3 x.wH) := w2
 have I1 : Hid (OutEvent w D4 u1 x.hn x.hL b4 x.hH) := i1
 have I2 : Hid (OutEvent w E4 u2 x.hn x.hL c4 x.hH) := i2
 clear p1 p2 s1 s2 w1 w2 i1 i2 hs
 go_enter Tryz.func12, Tryz.ntmps12
 have X0 : Hid (BoxC ((w.alloc (oQ4 (some ⟨D1, 0, none⟩) x.pn x.pn (some ⟨D2, 0, none⟩) x.sn x.sn (some ⟨D3, 0, none⟩) x.wn x.wn (some ⟨D4, 0, none⟩) x.hn x.hn)).alloc (oQ4 (some ⟨E1, 0, none⟩) x.pn x.pn (some ⟨E2, 0, none⟩) x.sn x.sn (some ⟨E3, 0, none⟩) x.wn x.wn (some ⟨E4, 0, none⟩) x.hn x.hn)) w.heap.size (.slice (some ⟨D1, 0, none⟩) x.pn x.pn) (.slice (some ⟨D2, 0, none⟩) x.sn x.sn) (.slice (some ⟨D3, 0, none⟩) x.wn x.wn) (.slice (some ⟨D4, 0, none⟩) x.hn x.hn) ∧ BoxC ((w.alloc (oQ4 (some ⟨D1, 0, none⟩) x.pn x.pn (some ⟨D2, 0, none⟩) x.sn x.sn (some ⟨D3, 0, none⟩) x.wn x.wn (some ⟨D4, 0, none⟩) x.hn x.hn)).alloc (oQ4 (some ⟨E1, 0, none⟩) x.pn x.pn (some ⟨E2, 0, none⟩) x.sn x.sn (some ⟨E3, 0, none⟩) x.wn x.wn (some ⟨E4, 0, none⟩) x.hn x.hn)) (w.heap.size + 1) (.slice (some ⟨E1, 0, none⟩) x.pn x.pn) (.slice (some ⟨E2, 0, none⟩) x.sn x.sn) (.slice (some ⟨E3, 0, none⟩) x.wn x.wn) (.slice (some ⟨E4, 0, none⟩) x.hn x.hn) ∧ Below w.heap.size w ((w.alloc (oQ4 (some ⟨D1, 0, none⟩) x.pn x.pn (some ⟨D2, 0, none⟩) x.sn x.sn (some ⟨D3, 0, none⟩) x.wn x.wn (some ⟨D4, 0, none⟩) x.hn x.hn)).alloc (oQ4 (some ⟨E1, 0, none⟩) x.pn x.pn (some ⟨E2, 0, none⟩) x.sn x.sn (some ⟨E3, 0, none⟩) x.wn x.wn (some ⟨E4, 0, none⟩) x.hn x.hn)) ∧ w.heap.size + 2 ≤ ((w.alloc (oQ4 (some ⟨D1, 0, none⟩) x.pn x.pn (some ⟨D2, 0, none⟩) x.sn x.sn (some ⟨D3, 0, none⟩) x.wn x.wn (some ⟨D4, 0, none⟩) x.hn x.hn)).alloc (oQ4 (some ⟨E1, 0, none⟩) x.pn x.pn (some ⟨E2, 0, none⟩) x.sn x.sn (some ⟨E3, 0, none⟩) x.wn x.wn (some ⟨E4, 0, none⟩) x.hn x.hn)).heap.size) := by
  have n1 := BoxC.new w (.slice (some ⟨D1, 0, none⟩) x.pn x.pn) (.slice (some ⟨D2, 0, none⟩) x.sn x.sn) (.slice (some ⟨D3, 0, none⟩) x.wn x.wn) (.slice (some ⟨D4, 0, none⟩) x.hn x.hn) 34
  have n2 := BoxC.new (w.alloc (oQ4 (some ⟨D1, 0, none⟩) x.pn x.pn (some ⟨D2, 0, none⟩) x.sn x.sn (some ⟨D3, 0, none⟩) x.wn x.wn (some ⟨D4, 0, none⟩) x.hn x.hn)) (.slice (some ⟨E1, 0, none⟩) x.pn x.pn) (.slice (some ⟨E2, 0, none⟩) x.sn x.sn) (.slice (some ⟨E3, 0, none⟩) x.wn x.wn) (.slice (some ⟨E4, 0, none⟩) x.hn x.hn) 34
  simp only [World.size_alloc] at n2
  exact ⟨n1.below (below_allocS _ _), n2, ((Below.refl _ _).alloc (Nat.le_refl _) _).alloc (by simp) _, by simp⟩
 go_wp2_with fail
 generalize (w.alloc (oQ4 (some ⟨D1, 0, none⟩) x.pn x.pn (some ⟨D2, 0, none⟩) x.sn x.sn (some ⟨D3, 0, none⟩) x.wn x.wn (some ⟨D4, 0, none⟩) x.hn x.hn)).alloc (oQ4 (some ⟨E1, 0, none⟩) x.pn x.pn (some ⟨E2, 0, none⟩) x.sn x.sn (some ⟨E3, 0, none⟩) x.wn x.wn (some ⟨E4, 0, none⟩) x.hn x.hn) = wA at *
 refine (eqInsSS_same D1 h1 E1 g1 x.pn _ _ x.pL b1 c1 x.pH _ (SysIn.lens HS.out).1.1 (sum_le (SysIn.lens HS.out).1.2) (P1.out.below X0.out.2.2.1 P1.out.le) (P2.out.below X0.out.2.2.1 P2.out.le)).mono ?_
 rintro e w1 ⟨rfl, b1'⟩
 have X1 : Hid (BoxC w1 w.heap.size (.slice (some ⟨D1, 0, none⟩) x.pn x.pn) (.slice (some ⟨D2, 0, none⟩) x.sn x.sn) (.slice (some ⟨D3, 0, none⟩) x.wn x.wn) (.slice (some ⟨D4, 0, none⟩) x.hn x.hn) ∧ BoxC w1 (w.heap.size + 1) (.slice (some ⟨E1, 0, none⟩) x.pn x.pn) (.slice (some ⟨E2, 0, none⟩) x.sn x.sn) (.slice (some ⟨E3, 0, none⟩) x.wn x.wn) (.slice (some ⟨E4, 0, none⟩) x.hn x.hn) ∧ Below w.heap.size w w1 ∧ w.heap.size + 2 ≤ w1.heap.size) := ⟨X0.out.1.below b1', X0.out.2.1.below b1', X0.out.2.2.1.trans (b1'.mono X0.out.2.2.1.size), Nat.le_trans X0.out.2.2.2 b1'.size⟩
 have BE1 : Hid (Below w.heap.size w w1) := X1.out.2.2.1
 clear X0 b1'
 obtain ⟨⟨p0, p1, p2, p3⟩, ⟨q0, q1, q2, q3⟩, -, le⟩ := X1.out
 go_wp2_with fail
 clear p0 p1 p2 p3 q0 q1 q2 q3 le
 refine (eqStateS_same D2 h2 E2 g2 x.sn _ _ x.sS vs us _ (SysIn.lens HS.out).2.1.1 (SysIn.lensS HS.out) (S1.out.below BE1.out S1.out.le) (S2.out.below BE1.out S2.out.le)).mono ?_
 rintro e w2 ⟨rfl, b2'⟩
 have X2 : Hid (BoxC w2 w.heap.size (.slice (some ⟨D1, 0, none⟩) x.pn x.pn) (.slice (some ⟨D2, 0, none⟩) x.sn x.sn) (.slice (some ⟨D3, 0, none⟩) x.wn x.wn) (.slice (some ⟨D4, 0, none⟩) x.hn x.hn) ∧ BoxC w2 (w.heap.size + 1) (.slice (some ⟨E1, 0, none⟩) x.pn x.pn) (.slice (some ⟨E2, 0, none⟩) x.sn x.sn) (.slice (some ⟨E3, 0, none⟩) x.wn x.wn) (.slice (some ⟨E4, 0, none⟩) x.hn x.hn) ∧ Below w.heap.size w w2 ∧ w.heap.size + 2 ≤ w2.heap.size) := ⟨X1.out.1.below b2', X1.out.2.1.below b2', X1.out.2.2.1.trans (b2'.mono X1.out.2.2.1.size), Nat.le_trans X1.out.2.2.2 b2'.size⟩
 have BE2 : Hid (Below w.heap.size w w2) := X2.out.2.2.1
 clear X1 b2' BE1
 obtain ⟨⟨p0, p1, p2, p3⟩, ⟨q0, q1, q2, q3⟩, -, le⟩ := X2.out
 go_wp2_with fail
 clear p0 p1 p2 p3 q0 q1 q2 q3 le
 refine (eqItemSS_same D3 h3 E3 g3 x.wn _ _ x.wL b3 c3 x.wH _ (SysIn.lens HS.out).2.2.1.1 (sum_le (SysIn.lens HS.out).2.2.1.2) (W1.out.below BE2.out W1.out.le) (W2.out.below BE2.out W2.out.le)).mono ?_
 rintro e w3 ⟨rfl, b3'⟩
 have X3 : Hid (BoxC w3 w.heap.size (.slice (some ⟨D1, 0, none⟩) x.pn x.pn) (.slice (some ⟨D2, 0, none⟩) x.sn x.sn) (.slice (some ⟨D3, 0, none⟩) x.wn x.wn) (.slice (some ⟨D4, 0, none⟩) x.hn x.hn) ∧ BoxC w3 (w.heap.size + 1) (.slice (some ⟨E1, 0, none⟩) x.pn x.pn) (.slice (some ⟨E2, 0, none⟩) x.sn x.sn) (.slice (some ⟨E3, 0, none⟩) x.wn x.wn) (.slice (some ⟨E4, 0, none⟩) x.hn x.hn) ∧ Below w.heap.size w w3 ∧ w.heap.size + 2 ≤ w3.heap.size) := ⟨X2.out.1.below b3', X2.out.2.1.below b3', X2.out.2.2.1.trans (b3'.mono X2.out.2.2.1.size), Nat.le_trans X2.out.2.2.2 b3'.size⟩
 have BE3 : Hid (Below w.heap.size w w3) := X3.out.2.2.1
 clear X2 b3' BE2
 obtain ⟨⟨p0, p1, p2, p3⟩, ⟨q0, q1, q2, q3⟩, -, le⟩ := X3.out
 go_wp2_with fail
 clear p0 p1 p2 p3 q0 q1 q2 q3 le
 refine (eqEventSS_same D4 u1 E4 u2 x.hn _ _ x.hL b4 c4 x.hH _ (SysIn.lens HS.out).2.2.2.1 (sum_le (SysIn.lens HS.out).2.2.2.2) (I1.out.below BE3.out I1.out.le) (I2.out.below BE3.out I2.out.le)).mono ?_
 rintro e w4 ⟨rfl, b4'⟩
 have X4 : Hid (BoxC w4 w.heap.size (.slice (some ⟨D1, 0, none⟩) x.pn x.pn) (.slice (some ⟨D2, 0, none⟩) x.sn x.sn) (.slice (some ⟨D3, 0, none⟩) x.wn x.wn) (.slice (some ⟨D4, 0, none⟩) x.hn x.hn) ∧ BoxC w4 (w.heap.size + 1) (.slice (some ⟨E1, 0, none⟩) x.pn x.pn) (.slice (some ⟨E2, 0, none⟩) x.sn x.sn) (.slice (some ⟨E3, 0, none⟩) x.wn x.wn) (.slice (some ⟨E4, 0, none⟩) x.hn x.hn) ∧ Below w.heap.size w w4 ∧ w.heap.size + 2 ≤ w4.heap.size) := ⟨X3.out.1.below b4', X3.out.2.1.below b4', X3.out.2.2.1.trans (b4'.mono X3.out.2.2.1.size), Nat.le_trans X3.out.2.2.2 b4'.size⟩
 have BE4 : Hid (Below w.heap.size w w4) := X4.out.2.2.1
 clear X3 b4' BE3
 go_wp2
 go_ret
 exact ⟨rfl, BE4.out⟩
structure MkY (w wx : World) (lo hi D1 D2 D3 D4 : Nat) (x : SysIn) : Prop where
 tch : Touch (fun b => lo ≤ b ∧ b < hi) w wx
 bx : BoxC wx w.heap.size (.slice (some ⟨D1, 0, none⟩) x.pn x.pn) (.slice (some ⟨D2, 0, none⟩) x.sn x.sn) (.slice (some ⟨D3, 0, none⟩) x.wn x.wn) (.slice (some ⟨D4, 0, none⟩) x.hn x.hn)
 lt : w.heap.size < wx.heap.size
theorem MkY.step {w wx w' : World} {lo hi D1 D2 D3 D4 : Nat} {x : SysIn} (h : MkY w wx lo hi D1 D2 D3 D4 x) (hh : hi ≤ w.heap.size) {P : Nat → Prop} (ht : Touch P wx w') (hp : ∀ b, P b → lo ≤ b ∧ b < hi) : MkY w w' lo hi D1 D2 D3 D4 x := by
 refine ⟨h.tch.trans (ht.mono hp), ?_, Nat.lt_of_lt_of_le h.lt ht.size⟩
 obtain ⟨h0, h1, h2, h3⟩ := h.bx
 have hc : ∀ i, w'.cell? ⟨w.heap.size, i, none⟩ = wx.cell? ⟨w.heap.size, i, none⟩ := fun i => ht.cell h.lt (fun e => by have := hp _ e; omega) i
 exact ⟨(hc _).trans h0, (hc _).trans h1, (hc _).trans h2, (hc _).trans h3⟩
theorem markSys_any (x : SysIn) (lo hi : Nat) (v : Value) (w : World) (hs : x.size ≤ 1048576) (o : IsSys w lo hi x v) :
  Calls Tryz.prog 13 #[v, .int .i64 1] w fun e w' => (∃ z : Int, e = .returned (.int .i64 z) ∧ ¬ z < 0) ∧ Touch (fun b => lo ≤ b ∧ b < hi) w w' := by
 obtain ⟨D1, D2, D3, D4, b1, vs, b3, b4, h1, h2, h3, o⟩ := o
 have HS : Hid (x.size ≤ 1048576) := hs
 obtain ⟨q1, q2, q3, q4, -⟩ := o.hi
 have OO : Hid (OutSys w lo hi x v D1 D2 D3 D4 b1 vs b3 b4 h1 h2 h3) := o
 have QQ : Hid (h1 ≤ hi ∧ h2 ≤ hi ∧ h3 ≤ hi ∧ hi ≤ w.heap.size) := ⟨q1, q2, q3, q4⟩
 obtain ⟨rfl, p1, s1, w1, i1, y1, y2, y3, y4⟩ := o
 have Y : Hid (lo ≤ D1 ∧ h1 ≤ D2 ∧ h2 ≤ D3 ∧ h3 ≤ D4 ∧ D1 < h1 ∧ D2 < h2 ∧ D3 < h3 ∧ D4 < hi) := ⟨y1, y2, y3, y4, p1.lt, s1.lt, w1.lt, i1.lt⟩
 have P1 : Hid (OutIns w D1 h1 x.pn x.pL b1 x.pH) := p1
 have S1 : Hid (OutState w D2 h2 x.sn x.sS vs) := s1
 have W1 : Hid (OutItem w D3 h3 x.wn x.wL b3 x.wH) := w1
 have I1 : Hid (OutEvent w D4 hi x.hn x.hL b4 x.hH) := i1
 clear p1 s1 w1 i1 y1 y2 y3 y4 q1 q2 q3 q4 hs OO
 have X0 : Hid (MkY w (w.alloc (oQ4 (some ⟨D1, 0, none⟩) x.pn x.pn (some ⟨D2, 0, none⟩) x.sn x.sn (some ⟨D3, 0, none⟩) x.wn x.wn (some ⟨D4, 0, none⟩) x.hn x.hn)) lo hi D1 D2 D3 D4 x) := ⟨Touch.of_below (below_allocS _ _), BoxC.new w (.slice (some ⟨D1, 0, none⟩) x.pn x.pn) (.slice (some ⟨D2, 0, none⟩) x.sn x.sn) (.slice (some ⟨D3, 0, none⟩) x.wn x.wn) (.slice (some ⟨D4, 0, none⟩) x.hn x.hn) 34, by simp⟩
 have BA : Hid (Below w.heap.size w (w.alloc (oQ4 (some ⟨D1, 0, none⟩) x.pn x.pn (some ⟨D2, 0, none⟩) x.sn x.sn (some ⟨D3, 0, none⟩) x.wn x.wn (some ⟨D4, 0, none⟩) x.hn x.hn))) := below_allocS _ _
 go_enter Tryz.func13, Tryz.ntmps13
 go_wp2_with fail
 generalize w.alloc (oQ4 (some ⟨D1, 0, none⟩) x.pn x.pn (some ⟨D2, 0, none⟩) x.sn x.sn (some ⟨D3, 0, none⟩) x.wn x.wn (some ⟨D4, 0, none⟩) x.hn x.hn) = wA at *
 refine (markInsSS_any D1 h1 x.pn x.pn x.pL b1 x.pH 1 wA (SysIn.lens HS.out).1.1 (SysIn.lens HS.out).1.2 (by omega) (by omega) (P1.out.below BA.out (by have := QQ.out; omega))).mono ?_
 rintro e w1 ⟨rfl, t1⟩
 have X1 : Hid (MkY w w1 lo hi D1 D2 D3 D4 x) := X0.out.step (by have := QQ.out; omega) t1 fun b hb => by have := QQ.out; have := Y.out; omega
 have KS : Hid (OutState w1 D2 h2 x.sn x.sS vs) := (S1.out.below BA.out (by have := QQ.out; omega)).keep t1.size fun k hk1 hk2 => t1.block k (by have := BA.out.size; have := QQ.out; omega) (fun e => by have := Y.out; omega)
 have KW : Hid (OutItem w1 D3 h3 x.wn x.wL b3 x.wH) := (W1.out.below BA.out (by have := QQ.out; omega)).keep t1.size fun k hk1 hk2 => t1.block k (by have := BA.out.size; have := QQ.out; omega) (fun e => by have := Y.out; omega)
 have KI : Hid (OutEvent w1 D4 hi x.hn x.hL b4 x.hH) := (I1.out.below BA.out (by have := QQ.out; omega)).keep t1.size fun k hk1 hk2 => t1.block k (by have := BA.out.size; have := QQ.out; omega) (fun e => by have := Y.out; omega)
 have z1 : 0 ≤ (1 : Int) + 5 * (sumL x.pL x.pn : Nat) ∧ (1 : Int) + 5 * (sumL x.pL x.pn : Nat) ≤ 6000000 := by have := (SysIn.lens HS.out).1.2; omega
 generalize (1 : Int) + 5 * (sumL x.pL x.pn : Nat) = Z1 at *
 have HZ1 : Hid (0 ≤ Z1 ∧ Z1 ≤ 6000000) := z1
 clear t1 X0 P1 S1 W1 I1 BA z1
 obtain ⟨-, ⟨p0, p1, p2, p3⟩, lt⟩ := X1.out
 go_wp2_with fail
 clear p0 p1 p2 p3 lt
 refine (markStateS_any D2 h2 x.sn x.sn x.sS vs Z1 w1 (SysIn.lens HS.out).2.1.1 (SysIn.lens HS.out).2.1.2 HZ1.out.1 (by have := HZ1.out; omega) KS.out).mono ?_
 rintro e w2 ⟨rfl, t2⟩
 have X2 : Hid (MkY w w2 lo hi D1 D2 D3 D4 x) := X1.out.step (by have := QQ.out; omega) t2 fun b hb => by have := QQ.out; have := Y.out; omega
 have KW2 : Hid (OutItem w2 D3 h3 x.wn x.wL b3 x.wH) := KW.out.keep t2.size fun k hk1 hk2 => t2.block k (Nat.lt_of_lt_of_le hk2 KW.out.le) (fun e => by have := Y.out; omega)
 have KI2 : Hid (OutEvent w2 D4 hi x.hn x.hL b4 x.hH) := KI.out.keep t2.size fun k hk1 hk2 => t2.block k (Nat.lt_of_lt_of_le hk2 KI.out.le) (fun e => by have := Y.out; omega)
 have z2 : 0 ≤ Z1 + (2 * x.sn + sumL (lenS x.sS) x.sn : Nat) ∧ Z1 + (2 * x.sn + sumL (lenS x.sS) x.sn : Nat) ≤ 12000000 := by have := (SysIn.lens HS.out).2.1; have := HZ1.out; omega
 generalize Z1 + (2 * x.sn + sumL (lenS x.sS) x.sn : Nat) = Z2 at *
 have HZ2 : Hid (0 ≤ Z2 ∧ Z2 ≤ 12000000) := z2
 clear t2 X1 KS KW KI z2 HZ1
 obtain ⟨-, ⟨p0, p1, p2, p3⟩, lt⟩ := X2.out
 go_wp2_with fail
 clear p0 p1 p2 p3 lt
 refine (markItemSS_any D3 h3 x.wn x.wn x.wL b3 x.wH Z2 w2 (SysIn.lens HS.out).2.2.1.1 (SysIn.lens HS.out).2.2.1.2 HZ2.out.1 (by have := HZ2.out; omega) KW2.out).mono ?_
 rintro e w3 ⟨rfl, t3⟩
 have X3 : Hid (MkY w w3 lo hi D1 D2 D3 D4 x) := X2.out.step (by have := QQ.out; omega) t3 fun b hb => by have := QQ.out; have := Y.out; omega
 have KI3 : Hid (OutEvent w3 D4 hi x.hn x.hL b4 x.hH) := KI2.out.keep t3.size fun k hk1 hk2 => t3.block k (Nat.lt_of_lt_of_le hk2 KI2.out.le) (fun e => by have := Y.out; omega)
 have z3 : 0 ≤ Z2 + 2 * (sumL x.wL x.wn : Nat) ∧ Z2 + 2 * (sumL x.wL x.wn : Nat) ≤ 18000000 := by have := (SysIn.lens HS.out).2.2.1; have := HZ2.out; omega
 generalize Z2 + 2 * (sumL x.wL x.wn : Nat) = Z3 at *
 have HZ3 : Hid (0 ≤ Z3 ∧ Z3 ≤ 18000000) := z3
 clear t3 X2 KW2 KI2 z3 HZ2
 obtain ⟨-, ⟨p0, p1, p2, p3⟩, lt⟩ := X3.out
 go_wp2_with fail
 clear p0 p1 p2 p3 lt
 refine (markEventSS_any D4 hi x.hn x.hn x.hL b4 x.hH Z3 w3 (SysIn.lens HS.out).2.2.2.1 (SysIn.lens HS.out).2.2.2.2 HZ3.out.1 (by have := HZ3.out; omega) KI3.out).mono ?_
 rintro e w4 ⟨rfl, t4⟩
 have X4 : Hid (MkY w w4 lo hi D1 D2 D3 D4 x) := X3.out.step (by have := QQ.out; omega) t4 fun b hb => by have := QQ.out; have := Y.out; omega
 have HZ4 : Hid (¬ Z3 + 3 * (sumL x.hL x.hn : Nat) < 0) := by
  show ¬ Z3 + 3 * (sumL x.hL x.hn : Nat) < 0
  have := HZ3.out
  omega
 generalize Z3 + 3 * (sumL x.hL x.hn : Nat) = Z4 at *
 clear t4 X3 KI3 HZ3
 go_wp2
 go_ret
 exact ⟨⟨_, rfl, HZ4.out⟩, X4.out.tch⟩
theorem open_sysE {H : Type} {enc : TypeId × Value → H} {w : World} {base b0 : Nat} {held : Bool} {rc : Reach} {v : Value} {d : DataW H} {p : List MemPlace}
  (hv : Value.okWide Tryz.prog w rc b0 27 v) (h : DataW.Trod enc Tryz.prog w base (fun _ => true) held 27 v d p) :
  ∃ x : SysIn, v = sysV x.pa x.pn x.pc x.sa x.sn x.sc x.wa x.wn x.wc x.ha x.hn x.hc ∧ x.Row w ∧ x.Max ∧ (x.size ≤ 1048576 → ∃ y : SysIn, v = sysV y.pa y.pn y.pc y.sa y.sn y.sc y.wa y.wn y.wc y.ha y.hn y.hc ∧ y.Ok w ∧ y.size = x.size) := by
 obtain ⟨cs, rfl, hsz⟩ := okWide_struct Tryz.underlying27 hv
 have h4 : Tryz.prog.cellsOf 27 = 4 := by kernel_rfl
 obtain ⟨c0, c1, c2, c3, rfl⟩ := array4 (hsz.trans h4)
 obtain ⟨fuel, hf⟩ := h
 have hf' : DataW.trod enc Tryz.prog w base (fun _ => true) held fuel 27 [c0, c1, c2, c3] = some (d, p) := by simpa [Value.cells] using hf
 obtain ⟨xs, m, -, -, -, hl, hx⟩ := DataW.trod_struct Tryz.underlying27 hf'
 have hl : xs.length = 4 := hl
 have k0 : Tryz.prog.cellsOf 22 = 1 := by kernel_rfl
 have k1 : Tryz.prog.cellsOf 23 = 1 := by kernel_rfl
 have k2 : Tryz.prog.cellsOf 24 = 1 := by kernel_rfl
 have k3 : Tryz.prog.cellsOf 25 = 1 := by kernel_rfl
 have q0 : DataW.trod enc Tryz.prog w base (fun _ => true) held m 22 [c0] = xs[0]? := by simpa [k0] using hx 0 _ rfl
 have q1 : DataW.trod enc Tryz.prog w base (fun _ => true) held m 23 [c1] = xs[1]? := by simpa [k1] using hx 1 _ rfl
 have q2 : DataW.trod enc Tryz.prog w base (fun _ => true) held m 24 [c2] = xs[2]? := by simpa [k2] using hx 2 _ rfl
 have q3 : DataW.trod enc Tryz.prog w base (fun _ => true) held m 25 [c3] = xs[3]? := by simpa [k3] using hx 3 _ rfl
 rw [List.getElem?_eq_getElem (by omega)] at q0 q1 q2 q3
 have sl : ∀ {t el : TypeId} {c : Value} {y : DataW H × List MemPlace}, Tryz.prog.underlying t = some (.slice el) → DataW.trod enc Tryz.prog w base (fun _ => true) held m t [c] = some y → ∃ a l k, c = .slice a l k := by
  intro t el c y hu hy
  rcases Go.Deep.open_slice hu hy with ⟨hcs, _⟩ | ⟨a, len', cap', m, n, D, Pl, hcs, _⟩
  ·simp at hcs
   exact ⟨_, _, _, hcs⟩
  ·simp at hcs
   exact ⟨_, _, _, hcs⟩
 obtain ⟨pa, pn, pc, rfl⟩ := sl Tryz.underlying22 q0
 obtain ⟨sa, sn, sc, rfl⟩ := sl Tryz.underlying23 q1
 obtain ⟨wa, wn, wc, rfl⟩ := sl Tryz.underlying24 q2
 obtain ⟨ha, hn, hc, rfl⟩ := sl Tryz.underlying25 q3
 obtain ⟨m0, pA, pL, pC, r0, x0, g0⟩ := open_InsSS (d := (xs[0]'(by omega)).1) (p := (xs[0]'(by omega)).2) ⟨m, by simpa [Value.cells] using q0⟩
 obtain ⟨m1, sQ, r1, x1⟩ := open_StateS (d := (xs[1]'(by omega)).1) (p := (xs[1]'(by omega)).2) ⟨m, by simpa [Value.cells] using q1⟩
 obtain ⟨m2, wA, wL, wC, r2, x2, g2⟩ := open_ItemSS (d := (xs[2]'(by omega)).1) (p := (xs[2]'(by omega)).2) ⟨m, by simpa [Value.cells] using q2⟩
 obtain ⟨m3, hA, hL, hC, r3, x3, g3⟩ := open_EventSS (d := (xs[3]'(by omega)).1) (p := (xs[3]'(by omega)).2) ⟨m, by simpa [Value.cells] using q3⟩
 refine ⟨⟨pa, pn, pc, pA, pL, pC, fun _ _ => ⟨0, 0, 0, 0, 0⟩, sa, sn, sc, sQ, wa, wn, wc, wA, wL, wC, fun _ _ => ⟨false, 0⟩, ha, hn, hc, hA, hL, hC, fun _ _ => ⟨0, 0, 0⟩⟩, rfl, ⟨r0, r1, r2, r3⟩, ⟨⟨m0, x0⟩, ⟨m1, x1⟩, ⟨m2, x2⟩, ⟨m3, x3⟩⟩, fun hs => ?_⟩
 have hl := SysIn.lens hs
 obtain ⟨pH, a0⟩ := g0 (sum_le hl.1.2)
 obtain ⟨wH, a2⟩ := g2 (sum_le hl.2.2.1.2)
 obtain ⟨hH, a3⟩ := g3 (sum_le hl.2.2.2.2)
 exact ⟨⟨pa, pn, pc, pA, pL, pC, pH, sa, sn, sc, sQ, wa, wn, wc, wA, wL, wC, wH, ha, hn, hc, hA, hL, hC, hH⟩, rfl, ⟨a0, r1, a2, a3⟩, rfl⟩
theorem open_sys {H : Type} {enc : TypeId × Value → H} {w : World} {base b0 : Nat} {held : Bool} {rc : Reach} {v : Value} {d : DataW H} {p : List MemPlace}
  (hv : Value.okWide Tryz.prog w rc b0 27 v) (h : DataW.Trod enc Tryz.prog w base (fun _ => true) held 27 v d p) :
  ∃ x : SysIn, v = sysV x.pa x.pn x.pc x.sa x.sn x.sc x.wa x.wn x.wc x.ha x.hn x.hc ∧ x.Row w ∧ x.Max ∧ (x.size ≤ 1048576 → ∃ y : SysIn, v = sysV y.pa y.pn y.pc y.sa y.sn y.sc y.wa y.wn y.wc y.ha y.hn y.hc ∧ y.Ok w ∧ y.size ≤ 1048576) := by
 obtain ⟨x, e, hr, hm, hy⟩ := open_sysE hv h
 refine ⟨x, e, hr, hm, fun hs => ?_⟩
 obtain ⟨y, ey, ho, hz⟩ := hy hs
 exact ⟨y, ey, ho, hz ▸ hs⟩
section
variable {P : Program} {ops : Array Oper} {Q : Exit → Act → World → Prop} {md : Region.Mode} {S : World → Prop} {G : Nat → Bool}
def outI (b : Bool) (i : Nat) : List Nat := bif b then [] else [i]
theorem outI_mem {b : Bool} {i j : Nat} (h : j ∈ outI b i) : b = false ∧ j = i := by
 cases b with
 | true => cases h
 | false => exact ⟨rfl, List.mem_singleton.1 h⟩
end
structure ZL (E : TypeId) (w : World) (P : Nat → Prop) (v : Value) (n : Nat) : Prop where
 row : w.ownsRow 0 E 1 v n (List.replicate n (.slice none 0 0))
 rb : ∀ k, v.ownBlock = some k → P k
section
variable {E : TypeId} {w w' : World} {P : Nat → Prop} {v : Value} {n : Nat}
theorem ZL.keep (o : ZL E w P v n) (hb : ∀ k, P k → k < w.heap.size → w'.heap[k]? = w.heap[k]?) : ZL E w' P v n := ⟨ownsRow_blkL o.row fun k hk => hb k (o.rb k hk) (o.row.lt k hk).2, o.rb⟩
theorem ZL.below (o : ZL E w P v n) (hb : Below w.heap.size w w') : ZL E w' P v n := o.keep fun k _ hk => hb.block k hk
theorem ZL.mono (o : ZL E w P v n) {P' : Nat → Prop} (h : ∀ k, P k → k < w.heap.size → P' k) : ZL E w P' v n := ⟨o.row, fun k hk => h k (o.rb k hk) (o.row.lt k hk).2⟩
theorem ZL.nil (E : TypeId) (w : World) (P : Nat → Prop) : ZL E w P (.slice none 0 0) 0 := ⟨World.ownsRow_nil _ _ _ _, fun k hk => by cases hk⟩
theorem ZL.cell (o : ZL E w P v n) {i : Nat} (hi : i < n) : ∃ g cap, v = .slice (some ⟨g, 0, none⟩) n cap ∧ g < w.heap.size ∧ w.cell? ⟨g, i, none⟩ = some (.slice none 0 0) := by
 rcases o.row.2 with ⟨_, h0⟩ | ⟨g, cap, cur, rfl, hb, hg, hr⟩
 ·omega
 ·refine ⟨g, cap, rfl, (o.row.lt g rfl).2, ?_⟩
  rw [o.row.cellAt i (by omega)]
  simp [hi]
end
theorem run_make_nils {t e : TypeId} {bytes : Nat} (K : Kind t e 1 bytes) (hz0 : (Tryz.prog.info? e).bind (·.zero) = some (.slice none 0 0)) (n : Nat) (hn : n ≤ 1048576) (w : World) : (Instr.makeSlice t (.int .i64 (n : Int)) (.int .i64 (n : Int))).run Tryz.prog w = .ok (.slice (some ⟨w.heap.size, 0, none⟩) n n) (w.alloc (.cells (madeCells #[.slice none 0 0] n) e)) := by
 obtain ⟨i, z, hi, hz, hs, hb, hzs⟩ := K.inf
 have hz' : z = .slice none 0 0 := by
  rw [hi] at hz0
  simp only [Option.bind_some, hz, Option.some.injEq] at hz0
  exact hz0
 subst hz'
 have hby : i.bytes * n ≤ 281474976710656 := by
  rw [hb]
  exact Nat.le_trans (Nat.mul_le_mul K.sml hn) (by omega)
 have hby' : (i.bytes : Int) * (n : Int) ≤ 281474976710656 := by rw [← Int.natCast_mul]; exact Int.ofNat_le.2 hby
 have h := run_make (P := Tryz.prog) w t e i (.slice none 0 0) K.und hi hz .i64 .i64 (n : Int) (n : Int) (by omega) (by omega) hby' (by omega)
 rw [hs, Nat.mul_one, Int.toNat_natCast] at h
 exact h
theorem ZL.made (E : TypeId) (w : World) (P : Nat → Prop) (hP : P w.heap.size) (n : Nat) (hn : n ≤ 1048576) : ZL E (w.alloc (.cells (madeCells #[.slice none 0 0] n) E)) P (.slice (some ⟨w.heap.size, 0, none⟩) n n) n := by
 have hc : (madeCells #[Value.slice none 0 0] n).toList = List.replicate n (.slice none 0 0) := by
  apply List.ext_getElem?
  intro i
  by_cases h : i < n
  ·simp [madeCells, h, Nat.mod_one]
  ·simp [madeCells, h]
 refine ⟨⟨by simp, .inr ⟨w.heap.size, n, madeCells #[.slice none 0 0] n, rfl, Nat.zero_le _, Array.getElem?_push_size, Nat.le_refl _, by unfold maxLen; omega, by simp [size_madeCells], ?_⟩⟩, fun k hk => by cases hk; exact hP⟩
 rw [hc, Nat.mul_one]
 simp
open Go.Sort
theorem list_of_zi {xs ys : List Int} (hl : xs.length = ys.length) (h : ∀ j, j < xs.length → zi xs j = zi ys j) : xs = ys := by
 refine List.ext_getElem hl fun i h1 h2 => ?_
 have := h i h1
 simpa [zi, List.getD_eq_getElem?_getD, List.getElem?_eq_getElem h1, List.getElem?_eq_getElem h2] using this
theorem equal_any (a0 a1 : Option Addr) (c0 c1 : Nat) (xs ys : List Int) (w : World) (hx : xs.length ≤ 1048576) (hy : ys.length ≤ 1048576) (h0 : Sl w a0 xs) (h1 : Sl w a1 ys) :
  Calls Tryz.prog 164 #[.slice a0 xs.length c0, .slice a1 ys.length c1] w fun e w' => e = .returned (.bool (xs == ys)) ∧ Below w.heap.size w w' := by
 have hl' : (xs.length : Int) ≤ 1048576 := by omega
 have hl2 : (ys.length : Int) ≤ 1048576 := by omega
 by_cases hl : xs.length = ys.length
 ·have H0 : Hid (Sl w a0 xs) := h0
  have H1 : Hid (Sl w a1 ys) := h1
  have HL : Hid (xs.length = ys.length) := hl
  rw [← hl]
  clear h0 h1 hl hy hl2
  go_enter Tryz.func164, Tryz.ntmps164
  go_wp2_with fail
  go_loopw [13] (fun i wr => ∃ k : Nat, k ≤ xs.length ∧ i = .int .i64 k ∧ Below w.heap.size w wr ∧ Hid (∀ j, j < k → zi xs j = zi ys j)) (fun i _ => xs.length - (intOf i).toNat)
  case atStart => exact ⟨0, Nat.zero_le _, rfl, Below.refl _ _, fun j hj => by omega⟩
  case round =>
   obtain ⟨k, hk, rfl, hbw, HZ⟩ := hrel
   by_cases hlt : k < xs.length
   ·have hlt2 : k < ys.length := by have := HL.out; omega
    obtain ⟨b, off, rfl, hbl, ck⟩ := (H0.out.below hbw).at hlt
    obtain ⟨b', off', rfl, hbl', ck'⟩ := (H1.out.below hbw).at hlt2
    have hlt' : (k : Int) < (xs.length : Int) := by omega
    clear hlt2
    rcases Bool.eq_false_or_eq_true (zi xs k != zi ys k) with t | t
    ·have HN : Hid ((xs == ys) = false) := by
      show (xs == ys) = false
      rw [beq_eq_false_iff_ne]
      intro e
      rw [e] at t
      simp at t
     go_wp2_with fail
     go_quiet (fail)
     go_wp2
     go_ret
     rw [HN.out]
     exact ⟨rfl, below_drewN hbw _⟩
    ·have HZ' : Hid (∀ j, j < k + 1 → zi xs j = zi ys j) := fun j hj => by
      by_cases e : j = k
      ·subst e
       simpa using t
      ·exact HZ.out j (by omega)
     clear HZ
     go_wp2_with fail
     go_quiet (fail)
     go_wp2
     go_roundw
     case rel => exact ⟨k + 1, by omega, by go_num, below_drewN hbw _, HZ'.out⟩
     case measure => simp [intOf]; omega
   ·have HE : Hid ((xs == ys) = true) := by
     show (xs == ys) = true
     rw [beq_iff_eq]
     exact list_of_zi HL.out fun j hj => HZ.out j (by omega)
    clear HZ
    go_wp2
    go_ret
    rw [HE.out]
    exact ⟨rfl, hbw⟩
 ·have hne : ((xs.length : Int) != (ys.length : Int)) = true := by simp; omega
  have HN : Hid ((xs == ys) = false) := by
   show (xs == ys) = false
   rw [beq_eq_false_iff_ne]
   intro e
   exact hl (by rw [e])
  clear h0 h1 hl
  go_enter Tryz.func164, Tryz.ntmps164
  go_wp2
  go_ret
  rw [HN.out]
  exact ⟨rfl, Below.refl _ _⟩
def eqS (S T : S4) : Bool := (S.p == T.p) && (S.c == T.c) && (S.rs == T.rs) && (S.os == T.os)
theorem eqS_iff {S T : S4} : eqS S T = true ↔ S = T := by
 obtain ⟨a, b, c, d⟩ := S
 obtain ⟨a', b', c', d'⟩ := T
 simp only [eqS, Bool.and_eq_true, beq_iff_eq, S4.mk.injEq]
 exact ⟨fun ⟨⟨⟨h1, h2⟩, h3⟩, h4⟩ => ⟨h1, h3, h4, h2⟩, fun ⟨h1, h3, h4, h2⟩ => ⟨⟨⟨h1, h2⟩, h3⟩, h4⟩⟩
theorem implSameState_any (S T : S4) (ra oa ra' oa' : Option Addr) (rc oc rc' oc' : Nat) (w : World) (l1 : S.rs.length ≤ 1048576) (l2 : S.os.length ≤ 1048576) (l3 : T.rs.length ≤ 1048576) (l4 : T.os.length ≤ 1048576) (h1 : Sl w ra S.rs) (h2 : Sl w oa S.os) (h3 : Sl w ra' T.rs) (h4 : Sl w oa' T.os) :
  Calls Tryz.prog 162 #[stV S.p ra S.rs.length rc oa S.os.length oc S.c, stV T.p ra' T.rs.length rc' oa' T.os.length oc' T.c] w fun e w' => e = .returned (.bool (eqS S T)) ∧ Below w.heap.size w w' := by
 have H1 : Hid (Sl w ra S.rs ∧ Sl w ra' T.rs) := ⟨h1, h3⟩
 have H2 : Hid (Sl w oa S.os ∧ Sl w oa' T.os) := ⟨h2, h4⟩
 clear h1 h2 h3 h4
 rcases Bool.eq_false_or_eq_true (S.p == T.p) with t1 | t1
 case inr =>
  have HE : Hid (eqS S T = false) := by
   show eqS S T = false
   simp [eqS, t1]
  go_enter Tryz.func162, Tryz.ntmps162
  go_wp2
  go_ret
  rw [HE.out]
  exact ⟨rfl, by go_grown⟩
 rcases Bool.eq_false_or_eq_true (S.c == T.c) with t2 | t2
 case inr =>
  have HE : Hid (eqS S T = false) := by
   show eqS S T = false
   simp [eqS, t2]
  go_enter Tryz.func162, Tryz.ntmps162
  go_wp2
  go_ret
  rw [HE.out]
  exact ⟨rfl, by go_grown⟩
 rcases Bool.eq_false_or_eq_true (S.rs == T.rs) with t3 | t3
 case inr =>
  have HE : Hid (eqS S T = false) := by
   show eqS S T = false
   simp [eqS, t3]
  have T3 : Hid ((S.rs == T.rs) = false) := t3
  clear t3
  go_enter Tryz.func162, Tryz.ntmps162
  go_wp2_with fail
  refine (equal_any _ _ _ _ _ _ _ l1 l3 (H1.out.1.below (by go_grown)) (H1.out.2.below (by go_grown))).mono ?_
  rintro e w1 ⟨rfl, b1⟩
  rw [T3.out]
  have B1 : Hid (Below w.heap.size w w1) := below_up (by go_grown) b1 (by simp; omega)
  clear b1
  go_wp2
  go_ret
  rw [HE.out]
  exact ⟨rfl, B1.out⟩
 have HE : Hid (eqS S T = (S.os == T.os)) := by
  show eqS S T = (S.os == T.os)
  simp [eqS, t1, t2, t3]
 have T3 : Hid ((S.rs == T.rs) = true) := t3
 clear t3
 go_enter Tryz.func162, Tryz.ntmps162
 go_wp2_with fail
 refine (equal_any _ _ _ _ _ _ _ l1 l3 (H1.out.1.below (by go_grown)) (H1.out.2.below (by go_grown))).mono ?_
 rintro e w1 ⟨rfl, b1⟩
 rw [T3.out]
 have B1 : Hid (Below w.heap.size w w1) := below_up (by go_grown) b1 (by simp; omega)
 obtain ⟨hc1, hf1⟩ := bcell b1
 clear b1
 go_wp2_with fail
 refine (equal_any _ _ _ _ _ _ _ l2 l4 (H2.out.1.below B1.out) (H2.out.2.below B1.out)).mono ?_
 rintro e w2 ⟨rfl, b2⟩
 have B2 : Hid (Below w.heap.size w w2) := B1.out.trans (b2.mono B1.out.size)
 clear b2 hc1 hf1
 go_wp2
 go_ret
 rw [HE.out]
 exact ⟨rfl, B2.out⟩
theorem itemOk_any (m : Bool) (v : Int) (w : World) :
  Calls Tryz.prog 208 #[itV m v] w fun e w' => e = .returned (.bool (itemB ⟨m, v⟩)) ∧ Below w.heap.size w w' := by
 rcases Bool.eq_false_or_eq_true m with rfl | rfl
 ·have HE : Hid (itemB ⟨true, v⟩ = (v == 0)) := by
   show itemB ⟨true, v⟩ = (v == 0)
   simp only [itemB, Bool.not_true, Bool.false_or]
   by_cases e : v = 0
   ·subst e
    rfl
   ·have : (v == 0) = false := by simpa using e
    rw [this, Bool.and_false]
  go_enter Tryz.func208, Tryz.ntmps208
  go_wp2
  go_ret
  rw [HE.out]
  exact ⟨rfl, by go_grown⟩
 ·have HE : Hid (itemB ⟨false, v⟩ = inB v (-1000000000) 1000000000) := by
   show itemB ⟨false, v⟩ = inB v (-1000000000) 1000000000
   simp [itemB, numB]
  go_enter Tryz.func208, Tryz.ntmps208
  go_wp2_with fail
  refine (isNum_any _ _).mono ?_
  rintro e w1 ⟨rfl, rfl⟩
  go_wp2
  go_ret
  rw [HE.out]
  exact ⟨rfl, by go_grown⟩
def itemsB (h : Nat → I2) (n : Nat) : Bool := (List.range n).all fun i => itemB (h i)
theorem itemsB_iff {h : Nat → I2} {n : Nat} : itemsB h n = true ↔ ∀ i, i < n → itemB (h i) = true := by
 simp [itemsB]
theorem itemsB_no {h : Nat → I2} {n k : Nat} (hk : k < n) (hf : itemB (h k) = false) : itemsB h n = false := by
 rcases Bool.eq_false_or_eq_true (itemsB h n) with t | t
 ·have := itemsB_iff.1 t k hk
  rw [hf] at this
  cases this
 ·exact t
theorem wayOk_any (a : Option Addr) (len cap : Nat) (h : Nat → I2) (w : World) (hlen : len ≤ 1048576) (hc : ItL w a len h) :
  Calls Tryz.prog 163 #[.slice a len cap] w fun e w' => e = .returned (.bool (decide (len ≤ 12) && itemsB h len)) ∧ Below w.heap.size w w' := by
 have hl' : (len : Int) ≤ 1048576 := by omega
 have HC : Hid (ItL w a len h) := hc
 clear hc
 by_cases h12 : len ≤ 12
 case neg =>
  have h12' : (12 : Int) < (len : Int) := by omega
  have HE : Hid ((decide (len ≤ 12) && itemsB h len) = false) := by
   show (decide (len ≤ 12) && itemsB h len) = false
   simp [h12]
  go_enter Tryz.func163, Tryz.ntmps163
  go_wp2
  go_ret
  rw [HE.out]
  exact ⟨rfl, Below.refl _ _⟩
 have h12' : ¬ (12 : Int) < (len : Int) := by omega
 have HE : Hid ((decide (len ≤ 12) && itemsB h len) = itemsB h len) := by
  show (decide (len ≤ 12) && itemsB h len) = itemsB h len
  simp [h12]
 clear h12
 go_enter Tryz.func163, Tryz.ntmps163
 go_wp2_with fail
 go_loopw [10] (fun i wr => ∃ k : Nat, k ≤ len ∧ i = .int .i64 k ∧ Below w.heap.size w wr ∧ Hid (∀ j, j < k → itemB (h j) = true)) (fun i _ => len - (intOf i).toNat)
 case atStart => exact ⟨0, Nat.zero_le _, rfl, Below.refl _ _, fun j hj => by omega⟩
 case round =>
  obtain ⟨k, hk, rfl, hbw, HZ⟩ := hrel
  by_cases hlt : k < len
  ·have hlt' : (k : Int) < (len : Int) := by omega
   obtain ⟨b, off, rfl, -, c0, c1⟩ := (HC.out.below hbw).at hlt
   go_wp2_with fail
   refine (itemOk_any _ _ _).mono ?_
   rintro e w1 ⟨rfl, b1⟩
   have B1 : Hid (Below w.heap.size w w1) := hbw.trans (((below_alloc wr _).trans (b1.mono (by simp))).mono hbw.size)
   clear b1
   rcases Bool.eq_false_or_eq_true (itemB (h k)) with t | t
   ·have HZ' : Hid (∀ j, j < k + 1 → itemB (h j) = true) := fun j hj => by
     by_cases e : j = k
     ·subst e
      exact t
     ·exact HZ.out j (by omega)
    rw [show itemB { m := (h k).m, v := (h k).v } = true from t]
    clear HZ t
    go_wp2
    go_roundw
    case rel => exact ⟨k + 1, by omega, by go_num, B1.out, HZ'.out⟩
    case measure => simp [intOf]; omega
   ·have HN : Hid (itemsB h len = false) := itemsB_no hlt t
    rw [show itemB { m := (h k).m, v := (h k).v } = false from t]
    clear HZ t
    go_wp2
    go_ret
    rw [HE.out, HN.out]
    exact ⟨rfl, B1.out⟩
  ·have HN : Hid (itemsB h len = true) := itemsB_iff.2 fun j hj => HZ.out j (by omega)
   clear HZ
   go_wp2
   go_ret
   rw [HE.out, HN.out]
   exact ⟨rfl, hbw⟩
open Go.RowKit Go.Extern.Stop Go.Stop Go.Extern
theorem as_nil (t : Value) (w : World) :
  Calls Tryz.prog 207 #[.nilIface, t] w fun e w' => e = .returned (.bool false) ∧ w' = w := by
 go_enter Tryz.func207, Tryz.ntmps207
 go_wp2
 go_ret
 exact ⟨rfl, rfl⟩
theorem valueOfT (t : Addr) (w : World) : (ReflectliteValue.unpack (.iface 256 (.pointer (some t)))).run Tryz.prog w
  = .ok (.agg #[.pointer (some ⟨1, 256, none⟩), .pointer (some ⟨w.heap.size, 0, none⟩), .int .u64 150]) (w.alloc (.cells #[.pointer (some t)] 256)) := by kernel_rfl
theorem typeT (a : Addr) (w : World) : (ReflectliteValue.methodAny (ReflectliteValue.valueError "reflectlite.Value.Type" 0) (fun t _ _ _ => ReflectliteType.toType t) #[.agg #[.pointer (some ⟨1, 256, none⟩), .pointer (some a), .int .u64 150]]).run Tryz.prog w
  = .ok (.iface 310 (.agg #[.pointer (some ⟨1, 256, none⟩)])) w := by kernel_rfl
theorem kindT (w : World) : ((ReflectliteType.abiMethod fun t => (fun a : Nat => Value.int IntKind.u8 (a : Int)) <$> Rtype.kind t) #[.pointer (some ⟨1, 256, none⟩)]).run Tryz.prog w = .ok (.int .u8 22) w := by kernel_rfl
theorem kindE (w : World) : ((ReflectliteType.abiMethod fun t => (fun a : Nat => Value.int IntKind.u8 (a : Int)) <$> Rtype.kind t) #[.pointer (some ⟨1, 254, none⟩)]).run Tryz.prog w = .ok (.int .u8 25) w := by kernel_rfl
theorem rlm (z : Sem Value) (f : TypeId → Addr → Nat → Nat → Sem Value) (v : Value) :
  ReflectliteValue.method z f #[v] = (do match ← ReflectliteValue.parts v with | none => z | some (t, a, fl) => f t a fl (fl % 32)) := rfl
theorem partsT (a : Addr) (w : World) : (ReflectliteValue.parts (.agg #[.pointer (some ⟨1, 256, none⟩), .pointer (some a), .int .u64 150])).run Tryz.prog w = .ok (some (256, a, 150)) w := by kernel_rfl
theorem isNilT (a p : Addr) (W : World) (ha : W.cell? a = some (.pointer (some p))) :
  (ReflectliteValue.method (ReflectliteValue.valueError "reflectlite.Value.IsNil" 0) ReflectliteValue.isNil #[.agg #[.pointer (some ⟨1, 256, none⟩), .pointer (some a), .int .u64 150]]).run Tryz.prog W = .ok (.bool false) W := by
 rw [rlm]
 simp only [Sem.run_bind, partsT, Result.andThen]
 simp [ReflectliteValue.isNil, loadVar, isAgg, underlying, Tryz.underlying256, ha, Result.andThen]
theorem elemT (w : World) : (ReflectliteType.method ReflectliteType.elem #[.agg #[.pointer (some ⟨1, 256, none⟩)]]).run Tryz.prog w = .ok (.iface 310 (.agg #[.pointer (some ⟨1, 254, none⟩)])) w := by kernel_rfl
theorem implementsE (w : World) : (ReflectliteType.relation "Implements" ReflectliteType.implements_ #[.agg #[.pointer (some ⟨1, 254, none⟩)], .iface 310 (.agg #[.pointer (some ⟨1, 250, none⟩)])]).run Tryz.prog w = .ok (.bool true) w := by kernel_rfl
theorem typeOfE (v : Value) (w : World) : (ReflectliteType.typeOf #[.iface 254 v]).run Tryz.prog w = .ok (.iface 310 (.agg #[.pointer (some ⟨1, 254, none⟩)])) w := by kernel_rfl
theorem assignableE (w : World) : (ReflectliteType.relation "AssignableTo" ReflectliteType.assignableTo #[.agg #[.pointer (some ⟨1, 254, none⟩)], .iface 310 (.agg #[.pointer (some ⟨1, 254, none⟩)])]).run Tryz.prog w = .ok (.bool true) w := by kernel_rfl
theorem valueOfE (x : Int) (w : World) : (ReflectliteValue.unpack (.iface 254 (.agg #[.int .i64 x]))).run Tryz.prog w
  = .ok (.agg #[.pointer (some ⟨1, 254, none⟩), .pointer (some ⟨w.heap.size, 0, none⟩), .int .u64 153]) (w.alloc (.cells #[.int .i64 x] 254)) := by kernel_rfl
theorem elemOfT (w : World) : (Rtype.elem? 256).run Tryz.prog w = .ok (some 254) w := by kernel_rfl
theorem mkE (p : Addr) (w : World) : (ReflectliteValue.mk 254 p ReflectliteValue.flagAddr).run Tryz.prog w = .ok (.agg #[.pointer (some ⟨1, 254, none⟩), .pointer (some p), .int .u64 409]) w := by kernel_rfl
open Go.RowKit Go.Extern.Stop Go.Stop Go.Extern
theorem elemVT (a p : Addr) (W : World) (ha : W.cell? a = some (.pointer (some p))) :
  (ReflectliteValue.method (ReflectliteValue.valueError "reflectlite.Value.Elem" 0) ReflectliteValue.elem #[.agg #[.pointer (some ⟨1, 256, none⟩), .pointer (some a), .int .u64 150]]).run Tryz.prog W
   = .ok (.agg #[.pointer (some ⟨1, 254, none⟩), .pointer (some p), .int .u64 409]) W := by
 rw [rlm]
 simp only [Sem.run_bind, partsT, Result.andThen]
 simp [ReflectliteValue.elem, loadVar, isAgg, underlying, Tryz.underlying256, ha, Result.andThen, elemOfT, mkE]
theorem rls (v x : Value) : ReflectliteValue.set #[v, x] = (do
  let (some (dst, a, fl), some (src, b, _)) := (← ReflectliteValue.parts v, ← ReflectliteValue.parts x)
   | unsupported (.noEntry "extern/(internal/reflectlite.Value).Set.zeroValue")
  if fl / ReflectliteValue.flagAddr % 2 == 0 then unsupported (.noEntry "extern/(internal/reflectlite.Value).Set.unaddressable")
  let val ← loadVar src b
  if ← Rtype.directlyAssignable dst src then storeVar dst a val
  else if ← Rtype.implements dst src then
   if (← Rtype.kind src) == 20 then
    match val with
    | .nilIface => unsupported (.noEntry "extern/reflectlite: a nil value of one interface type handed on as a value of another")
    | _ => storeVar dst a val
   else storeVar dst a (.iface src val)
  else panicString ("reflectlite.Set: value of type " ++ (← Rtype.spelt src) ++ " is not assignable to type " ++ (← Rtype.spelt dst))
  pure (.tuple #[])) := rfl
theorem partsEa (a : Addr) (w : World) : (ReflectliteValue.parts (.agg #[.pointer (some ⟨1, 254, none⟩), .pointer (some a), .int .u64 409])).run Tryz.prog w = .ok (some (254, a, 409)) w := by kernel_rfl
theorem partsE (a : Addr) (w : World) : (ReflectliteValue.parts (.agg #[.pointer (some ⟨1, 254, none⟩), .pointer (some a), .int .u64 153])).run Tryz.prog w = .ok (some (254, a, 153)) w := by kernel_rfl
theorem directE (w : World) : (Rtype.directlyAssignable 254 254).run Tryz.prog w = .ok true w := by kernel_rfl
theorem setE (ta b : Addr) (x : Int) (old : Value) (W : World) (hb : W.cell? b = some (.int .i64 x)) (ht : W.cell? ta = some old) (hf : W.frozen? ta = false) :
  (ReflectliteValue.set #[.agg #[.pointer (some ⟨1, 254, none⟩), .pointer (some ta), .int .u64 409], .agg #[.pointer (some ⟨1, 254, none⟩), .pointer (some b), .int .u64 153]]).run Tryz.prog W
   = .ok (.tuple #[]) (W.setCell ta (.int .i64 x)) := by
 rw [rls]
 simp only [Sem.run_bind, partsEa, partsE, Result.andThen]
 simp [ReflectliteValue.flagAddr, loadVar, loadCells, loadCellsFrom, hb, Result.andThen, directE, storeVar, Value.cells, storeCells, Addr.add]
 rw [run_store Tryz.prog W ta _ _ (by rfl)]
 simp [ht, hf]
open Go.RowKit Go.Extern.Stop Go.Stop Go.Extern
theorem as_hit (x : Int) (t : Addr) (old : Value) (w : World) (hg : w.cell? ⟨0, 0, none⟩ = some (.iface 310 (.agg #[.pointer (some ⟨1, 250, none⟩)]))) (ht0 : w.cell? t = some old) (hf0 : w.frozen? t = false) :
  Calls Tryz.prog 207 #[.iface 254 (.agg #[.int .i64 x]), .iface 256 (.pointer (some t))] w fun ev w' => ev = .returned (.bool true) ∧ ∃ o1 o2 o3 o4, w' = ((((w.alloc o1).alloc o2).alloc o3).alloc o4).setCell t (.int .i64 x) := by
 have h6 := @run_callFunc_extern Tryz.prog 241 _ (fun args => ReflectliteValue.unpack (args.getD 0 (.tuple #[]))) Tryz.func241 (by kernel_rfl) (by kernel_rfl) (by kernel_rfl) (by kernel_rfl)
 have h7 := @run_callFunc_extern Tryz.prog 242 _ (ReflectliteValue.methodAny (ReflectliteValue.valueError "reflectlite.Value.Type" 0) (fun t _ _ _ => ReflectliteType.toType t)) Tryz.func242 (by kernel_rfl) (by kernel_rfl) (by kernel_rfl) (by kernel_rfl)
 have h8 := @run_callFunc_extern Tryz.prog 243 _ (ReflectliteValue.method (ReflectliteValue.valueError "reflectlite.Value.IsNil" 0) ReflectliteValue.isNil) Tryz.func243 (by kernel_rfl) (by kernel_rfl) (by kernel_rfl) (by kernel_rfl)
 have h27 := @run_callFunc_extern Tryz.prog 274 _ (ReflectliteType.abiMethod fun t => do pure (.int .u8 (← Rtype.kind t))) Tryz.func274 (by kernel_rfl) (by kernel_rfl) (by kernel_rfl) (by kernel_rfl)
 have h37 := @run_callFunc_extern Tryz.prog 295 _ (ReflectliteType.method ReflectliteType.elem) Tryz.func295 (by kernel_rfl) (by kernel_rfl) (by kernel_rfl) (by kernel_rfl)
 have h38 := @run_callFunc_extern Tryz.prog 296 _ (ReflectliteType.relation "Implements" ReflectliteType.implements_) Tryz.func296 (by kernel_rfl) (by kernel_rfl) (by kernel_rfl) (by kernel_rfl)
 have h10 := @run_callFunc_extern Tryz.prog 257 _ ReflectliteType.typeOf Tryz.func257 (by kernel_rfl) (by kernel_rfl) (by kernel_rfl) (by kernel_rfl)
 have h35 := @run_callFunc_extern Tryz.prog 293 _ (ReflectliteType.relation "AssignableTo" ReflectliteType.assignableTo) Tryz.func293 (by kernel_rfl) (by kernel_rfl) (by kernel_rfl) (by kernel_rfl)
 have h11 := @run_callFunc_extern Tryz.prog 258 _ (ReflectliteValue.method (ReflectliteValue.valueError "reflectlite.Value.Elem" 0) ReflectliteValue.elem) Tryz.func258 (by kernel_rfl) (by kernel_rfl) (by kernel_rfl) (by kernel_rfl)
 have h12 := @run_callFunc_extern Tryz.prog 259 _ ReflectliteValue.set Tryz.func259 (by kernel_rfl) (by kernel_rfl) (by kernel_rfl) (by kernel_rfl)
 have tO := typeOfE
 have a25 := assignableE
 have v25 := valueOfE
 have f6 := valueOfT
 have f7 := typeT
 have k27 := kindT
 have k25 := kindE
 have e27 := elemT
 have i25 := implementsE
 have n8 := isNilT ⟨w.heap.size, 0, none⟩ t ((w.alloc (.cells #[.pointer (some t)] 256)).alloc (.cells #[.pointer (some ⟨1, 256, none⟩), .pointer (some ⟨w.heap.size, 0, none⟩), .int .u64 150] 295)) (by simp)
 have hlt : 0 < w.heap.size := by
  rcases Nat.eq_zero_or_pos w.heap.size with h0 | h
  ·simp [World.cell?, h0] at hg
  ·exact h
 have hg2 : ((w.alloc (.cells #[.pointer (some t)] 256)).alloc (.cells #[.pointer (some ⟨1, 256, none⟩), .pointer (some ⟨w.heap.size, 0, none⟩), .int .u64 150] 295)).cell? ⟨0, 0, none⟩ = some (.iface 310 (.agg #[.pointer (some ⟨1, 250, none⟩)])) := by
  rw [World.cell?_alloc_lt _ _ ⟨0, 0, none⟩ (by simp), World.cell?_alloc_lt _ _ ⟨0, 0, none⟩ hlt]; exact hg
 have htl : t.block < w.heap.size := by
  rcases Nat.lt_or_ge t.block w.heap.size with h | h
  ·exact h
  ·simp [World.cell?, Array.getElem?_eq_none h] at ht0
 have el := elemVT ⟨w.heap.size, 0, none⟩ t (((w.alloc (.cells #[.pointer (some t)] 256)).alloc (.cells #[.pointer (some ⟨1, 256, none⟩), .pointer (some ⟨w.heap.size, 0, none⟩), .int .u64 150] 295)).alloc (.cells #[.pointer (some ⟨1, 256, none⟩), .pointer (some ⟨w.heap.size, 0, none⟩), .int .u64 150] 295)) (by
  rw [World.cell?_alloc_lt _ _ _ (by simp; omega), World.cell?_alloc_lt _ _ _ (by simp), World.cell?_alloc_at _ _ _ _ rfl]; rfl)
 have st := setE t ⟨w.heap.size + 1 + 1 + 1, 0, none⟩ x old ((((w.alloc (.cells #[.pointer (some t)] 256)).alloc (.cells #[.pointer (some ⟨1, 256, none⟩), .pointer (some ⟨w.heap.size, 0, none⟩), .int .u64 150] 295)).alloc (.cells #[.pointer (some ⟨1, 256, none⟩), .pointer (some ⟨w.heap.size, 0, none⟩), .int .u64 150] 295)).alloc (.cells #[.int .i64 x] 254))
  (by rw [World.cell?_alloc_at _ _ _ _ (by simp)]; rfl)
  (by rw [World.cell?_alloc_lt _ _ t (by simp; omega), World.cell?_alloc_lt _ _ t (by simp; omega), World.cell?_alloc_lt _ _ t (by simp; omega), World.cell?_alloc_lt _ _ t htl]; exact ht0)
  (by rw [World.frozen?_alloc_old _ _ t (by simp; omega), World.frozen?_alloc_old _ _ t (by simp; omega), World.frozen?_alloc_old _ _ t (by simp; omega), World.frozen?_alloc_old _ _ t (Nat.ne_of_lt htl)]; exact hf0)
 go_enter Tryz.func207, Tryz.ntmps207
 go_wp2
 refine wp_loop_rounds 1 ?_
 rw [rounds_succ]
 go_wp2
 go_ret
 exact ⟨rfl, _, _, _, _, rfl⟩
theorem sumL_all {d l : Nat → Nat} (h : ∀ i, d i ≤ l i) (n : Nat) (e : sumL d n = sumL l n) (p : Nat) (hp : p < n) : d p = l p := by
 induction n with
 | zero => omega
 | succ n ih =>
  have h1 := sumL_le h n
  have h2 := h n
  have e' : sumL d n + d n = sumL l n + l n := e
  by_cases hpn : p = n
  ·subst hpn
   omega
  ·exact ih (by omega) (by omega)
structure OrdB (w : World) (D n : Nat) (d : Nat → Nat) : Prop where
 c : ∀ i, i < n → w.cell? ⟨D, i, none⟩ = some (.int .i64 (d i))
 fr : ∀ j, w.frozen? ⟨D, j, none⟩ = false
theorem OrdB.blk {w w' : World} {D n : Nat} {d : Nat → Nat} (h : OrdB w D n d) (hb : w'.heap[D]? = w.heap[D]?) : OrdB w' D n d := ⟨fun i hi => (World.cell?_of_block hb).trans (h.c i hi), fun j => (World.frozen?_of_block hb).trans (h.fr j)⟩
theorem OrdB.put {w : World} {D n k : Nat} {d : Nat → Nat} (h : OrdB w D n d) (hk : k < n) : OrdB (w.setCell ⟨D, k, none⟩ (.int .i64 ((d k : Int) + 1))) D n (up d k) := by
 refine ⟨fun i hi => ?_, fun j => by rw [World.frozen?_setCell]; exact h.fr j⟩
 by_cases e : i = k
 ·subst e
  rw [World.cell?_setCell_same' _ _ _ (by rw [h.c i hi]; rfl), up_same]
  rfl
 ·rw [World.cell?_setCell_other _ _ _ _ (by intro e'; injection e' with _ e'; exact e e'.symm), up_other e]
  exact h.c i hi
structure Od (w wr : World) (B D : Nat) (ha : Option Addr) (hc : Nat) (y : Hs) (d : Nat → Nat) : Prop where
 pu : y.Put d
 od : OrdB wr D y.n d
 bx : wr.cell? ⟨B, 3, none⟩ = some (.slice ha y.n hc)
 be : Below w.heap.size w wr
theorem Od.below {w wr w' : World} {B D : Nat} {ha : Option Addr} {hc : Nat} {y : Hs} {d : Nat → Nat} (h : Od w wr B D ha hc y d) (hb : Below wr.heap.size wr w') (hD : D < wr.heap.size) : Od w w' B D ha hc y d :=
 ⟨h.pu, h.od.blk (hb.block D hD), (hb.cell (p := ⟨B, 3, none⟩) (World.block_lt_of_cell? wr _ h.bx)).trans h.bx, h.be.trans (hb.mono h.be.size)⟩
theorem Od.set {w wr : World} {B D k : Nat} {ha : Option Addr} {hc : Nat} {y : Hs} {d : Nat → Nat} (h : Od w wr B D ha hc y d) (hk : k < y.n) (hcan : y.Can d k) (hBD : B ≠ D) (hw : w.heap.size ≤ D) : Od w (wr.setCell ⟨D, k, none⟩ (.int .i64 ((d k : Int) + 1))) B D ha hc y (up d k) :=
 ⟨.next h.pu hk hcan, h.od.put hk, (World.cell?_setCell_other _ _ _ _ (by intro e; injection e with e; exact hBD e.symm)).trans h.bx, h.be.setCell hw _⟩
theorem madeInt_cell (w : World) (n i : Nat) (hi : i < n) : (w.alloc (.cells (madeCells #[.int .i64 0] n) 3)).cell? ⟨w.heap.size, i, none⟩ = some (.int .i64 0) := by
 rw [new_cell _ _ _ i rfl]
 simp [madeCells, hi, Nat.mod_one]
theorem slice_to (a : Option Addr) (len cap h : Nat) (hh : h ≤ cap) (w : World) : (Instr.slice 107 (.slice a len cap) none (some (.int .i64 (h : Int))) none).run Tryz.prog w = .ok (.slice a h cap) w := by
 have hh' : (h : Int) ≤ (cap : Int) := by omega
 cases a with
 | none => simp [go_sem, sliced, hh']
 | some a => simp [go_sem, sliced, hh']
theorem l4Order_any (pa : Option Addr) (pn pc : Nat) (sa : Option Addr) (sn sc : Nat) (wa : Option Addr) (wn wc : Nat) (ha : Option Addr) (hc : Nat) (hA : Nat → Option Addr) (hC : Nat → Nat) (y : Hs) (w : World) (hE : HisE w ha hA hC y) (hcap : ∀ i, i < y.n → y.l i ≤ hC i) (h1 : 1 ≤ y.n) (h4 : y.n ≤ 4) (hp : y.Peers) (hl : ∀ i, i < y.n → y.l i ≤ 200) :
  Calls Tryz.prog 80 #[sysV pa pn pc sa sn sc wa wn wc ha y.n hc] w fun e w' => e = .returned (.bool (qB y.Row)) ∧ Below w.heap.size w w' := by
 have HE : Hid (HisE w ha hA hC y) := hE
 have HH : Hid (y.Peers ∧ (∀ i, i < y.n → y.l i ≤ 200) ∧ (∀ i, i < y.n → y.l i ≤ hC i)) := ⟨hp, hl, hcap⟩
 have hn4 : (y.n : Int) ≤ 4 := by omega
 have hmk : ∀ wx : World, (Instr.makeSlice 35 (.int .i64 (y.n : Int)) (.int .i64 (y.n : Int))).run Tryz.prog wx = .ok (.slice (some ⟨wx.heap.size, 0, none⟩) y.n y.n) (wx.alloc (.cells (madeCells #[.int .i64 0] y.n) 3)) := fun wx => run_make_int y.n (by omega) wx
 have HOd : Hid (Od w ((w.alloc (oQ4 pa pn pc sa sn sc wa wn wc ha y.n hc)).alloc (.cells (madeCells #[.int .i64 0] y.n) 3)) w.heap.size (w.heap.size + 1) ha hc y (fun _ => 0)) := by
  refine ⟨.start, ⟨fun i hi => ?_, fun j => new_frozen _ _ _ _ (by simp)⟩, ?_, (below_alloc _ _).trans ((below_alloc _ _).mono (by simp))⟩
  ·have := madeInt_cell (w.alloc (oQ4 pa pn pc sa sn sc wa wn wc ha y.n hc)) y.n i hi
   rw [World.size_alloc] at this
   exact this
  ·exact ((BoxC.new w _ _ _ _ _).below (below_alloc _ _)).2.2.2
 have HD : Hid (w.heap.size + 1 < ((w.alloc (oQ4 pa pn pc sa sn sc wa wn wc ha y.n hc)).alloc (.cells (madeCells #[.int .i64 0] y.n) 3)).heap.size) := by
  show w.heap.size + 1 < _
  simp
 clear hE hp hl hcap
 go_enter Tryz.func80, Tryz.ntmps80
 go_wp2_with fail
 generalize (w.alloc (oQ4 pa pn pc sa sn sc wa wn wc ha y.n hc)).alloc (.cells (madeCells #[.int .i64 0] y.n) 3) = W1 at *
 generalize hD : w.heap.size + 1 = D at *
 have HDW : Hid (w.heap.size + 1 = D) := hD
 clear hmk hD
 go_loopw [6, 7] (fun s i wr => ∃ k : Nat, k ≤ y.n ∧ i = .int .i64 k ∧ s = .int .i64 (sumL y.l k : Nat) ∧ wr = W1) (fun _ i _ => y.n - (intOf i).toNat)
 case atStart => exact ⟨0, Nat.zero_le _, rfl, rfl, rfl⟩
 case round =>
  obtain ⟨k, hk, rfl, rfl, rfl⟩ := hrel
  have hsum : sumL y.l k ≤ 200 * k := by
   have : ∀ j, j ≤ y.n → sumL y.l j ≤ 200 * j := by
    intro j
    induction j with
    | zero => exact fun _ => Nat.le_refl _
    | succ j ih =>
     intro hj
     have h5 := ih (by omega)
     have h6 := HH.out.2.1 j (by omega)
     show sumL y.l j + y.l j ≤ 200 * (j + 1)
     omega
   exact this k hk
  have hsum' : ((sumL y.l k : Nat) : Int) ≤ 1000 := by omega
  have b3 := HOd.out.bx
  by_cases hlt : k < y.n
  ·have hlt' : (k : Int) < (y.n : Int) := by omega
   obtain ⟨bh, oh, eh, ch⟩ := (HE.out.below HOd.out.be).row.at hlt
   rw [eh] at b3
   have hl2 : (y.l k : Int) ≤ 200 := by have := HH.out.2.1 k hlt; omega
   clear hsum
   go_wp2
   go_roundw
   case rel => exact ⟨k + 1, by omega, by go_num, by simp only [sumL]; congr 1, by first | rfl | trivial⟩
   case measure => simp [intOf]; omega
  ·have hkn : k = y.n := by omega
   subst hkn
   clear hlt hk hsum b3
   have hlt' : ¬ ((y.n : Int) < (y.n : Int)) := by omega
   have hsumI : ∀ d : Nat → Nat, y.Put d → ((sumL y.l y.n : Nat) : Int) - ((sumL d y.n : Nat) : Int) = ((sumL y.l y.n - sumL d y.n : Nat) : Int) := fun d hd => by
    have := sumL_le hd.le y.n
    omega
   have HSI : Hid (∀ d : Nat → Nat, y.Put d → ((sumL y.l y.n : Nat) : Int) - ((sumL d y.n : Nat) : Int) = ((sumL y.l y.n - sumL d y.n : Nat) : Int)) := hsumI
   have HSM : Hid (((sumL y.l y.n : Nat) : Int) ≤ 1000) := hsum'
   clear hsumI hsum'
   go_wp2_with fail
   go_loopg [5, 6] (2 * (sumL y.l y.n) + 1) (fun gn m s wr => ∃ (t : Bool) (d : Nat → Nat), m = .bool t ∧ s = .int .i64 ((sumL y.l y.n - sumL d y.n : Nat) : Int) ∧ gn = 2 * (sumL y.l y.n - sumL d y.n) + (if t = true then 1 else 0) ∧ Hid (Od w wr w.heap.size D ha hc y d ∧ D < wr.heap.size ∧ (t = false → ∀ p, p < y.n → ¬ y.Can d p)))
   case atStart => exact ⟨true, fun _ => 0, rfl, by rw [sumL_zero]; rfl, by rw [sumL_zero]; rfl, HOd.out, HD.out, fun h => by cases h⟩
   case round =>
    clear HOd HD
    obtain ⟨t, d, rfl, rfl, hgn, HI⟩ := hrel
    rcases Bool.eq_false_or_eq_true t with rfl | rfl
    ·have HGN : Hid (gk = 2 * (sumL y.l y.n - sumL d y.n) + 1) := hgn
     clear hgn
     go_wp2_with fail
     go_loopw [5, 6, 8] (fun m s i wr => ∃ (k : Nat) (t' : Bool) (d' : Nat → Nat), k ≤ y.n ∧ i = .int .i64 k ∧ m = .bool t' ∧ s = .int .i64 ((sumL y.l y.n - sumL d' y.n : Nat) : Int) ∧ Hid (Od w wr w.heap.size D ha hc y d' ∧ D < wr.heap.size ∧ (t' = true → sumL d y.n < sumL d' y.n) ∧ (t' = false → d' = d ∧ ∀ p, p < k → ¬ y.Can d p))) (fun _ _ i _ => y.n - (intOf i).toNat)
     case atStart => exact ⟨0, false, d, Nat.zero_le _, rfl, rfl, rfl, HI.out.1, HI.out.2.1, (fun h => by cases h), fun _ => ⟨rfl, fun p hp => by omega⟩⟩
     case round =>
      clear HI
      obtain ⟨k, t', d', hk, rfl, rfl, rfl, HJ⟩ := hrel
      by_cases hlt : k < y.n
      ·have hlt' : (k : Int) < (y.n : Int) := by omega
       have hdk : d' k ≤ y.l k := HJ.out.1.pu.le k
       have hl2 : (y.l k : Int) ≤ 200 := by have := HH.out.2.1 k hlt; omega
       have dk := HJ.out.1.od.c k hlt
       have b3 := HJ.out.1.bx
       obtain ⟨bh, oh, eh, ch⟩ := (HE.out.below HJ.out.1.be).row.at hlt
       rw [eh] at b3
       by_cases he : d' k = y.l k
       ·have HNo : Hid (¬ y.Can d' k) := fun h => by have := h.1; omega
        have HJ' : ∀ nq, Hid (Od w (wr.drewN nq) w.heap.size D ha hc y d' ∧ D < (wr.drewN nq).heap.size ∧ (t' = true → sumL d y.n < sumL d' y.n) ∧ (t' = false → d' = d ∧ ∀ p, p < k + 1 → ¬ y.Can d p)) := fun nq => ⟨HJ.out.1.below (below_drewN (Below.refl _ _) _) HJ.out.2.1, HJ.out.2.1, HJ.out.2.2.1, fun h => ⟨(HJ.out.2.2.2 h).1, fun p hp => by
         have h5 := HJ.out.2.2.2 h
         by_cases e : p = k
         ·subst e
          rw [← h5.1]
          exact HNo.out
         ·exact h5.2 p (by omega)⟩⟩
        rw [he] at dk
        have HJQ : Hid (∀ nq, Hid (Od w (wr.drewN nq) w.heap.size D ha hc y d' ∧ D < (wr.drewN nq).heap.size ∧ (t' = true → sumL d y.n < sumL d' y.n) ∧ (t' = false → d' = d ∧ ∀ p, p < k + 1 → ¬ y.Can d p))) := HJ'
        clear HJ HJ' he hdk
        go_wp2_with fail
        go_quiet (fail)
        go_wp2
        go_roundw
        case rel => exact ⟨k + 1, t', d', by omega, by go_num, rfl, rfl, HJQ.out _⟩
        case measure => simp [intOf]; omega
       ·have hkl : d' k < y.l k := by omega
        have hkl' : (d' k : Int) < (y.l k : Int) := by omega
        have hne : ((d' k : Int) == (y.l k : Int)) = false := by
         have : ¬ (d' k : Int) = (y.l k : Int) := by omega
         simpa using this
        clear he hdk
        go_wp2_with fail
        go_quiet (fail)
        go_wp2_with fail
        have OD : Hid (Od w (wr.drewN nq) w.heap.size D ha hc y d' ∧ D < (wr.drewN nq).heap.size ∧ (t' = true → sumL d y.n < sumL d' y.n) ∧ (t' = false → d' = d ∧ ∀ p, p < k → ¬ y.Can d p)) := ⟨HJ.out.1.below (below_drewN (Below.refl _ _) _) HJ.out.2.1, HJ.out.2.1, HJ.out.2.2⟩
        clear HJ dk b3 ch
        generalize wr.drewN nq = wd at *
        have dk := OD.out.1.od.c k hlt
        have b3 := OD.out.1.bx
        obtain ⟨bh', oh', eh', ch⟩ := (HE.out.below OD.out.1.be).row.at hlt
        rw [eh'] at b3
        obtain ⟨b, off, ea, zb, e0, e1, e2⟩ := ((HE.out.below OD.out.1.be).ev k hlt).at hkl
        rw [ea] at ch
        have n1 : wd.heap.size ≠ D := by have := OD.out.2.1; omega
        have n2 : wd.heap.size ≠ b := by omega
        have n3 : wd.heap.size ≠ bh' := by have := World.block_lt_of_cell? wd _ ch; simp at this; omega
        have dk' := cell_allocs dk
        have b3' := cell_allocs b3
        have ch' := cell_allocs ch
        have e0' := cell_allocs e0
        have e1' := cell_allocs e1
        have e2' := cell_allocs e2
        clear zb
        go_region
        all_goals
         have OZ : Hid (Od w (wd.alloc (oQ0 (y.e k (d' k)).k (y.e k (d' k)).q (y.e k (d' k)).v)).drew w.heap.size D ha hc y d' ∧ D < (wd.alloc (oQ0 (y.e k (d' k)).k (y.e k (d' k)).q (y.e k (d' k)).v)).drew.heap.size ∧ (t' = true → sumL d y.n < sumL d' y.n) ∧ (t' = false → d' = d ∧ ∀ p, p < k → ¬ y.Can d p)) := ⟨OD.out.1.below (below_alloc _ _).drew OD.out.2.1, Nat.lt_of_lt_of_le OD.out.2.1 (below_alloc _ _).drew.size, OD.out.2.2⟩
         have z0 : (wd.alloc (oQ0 (y.e k (d' k)).k (y.e k (d' k)).q (y.e k (d' k)).v)).drew.cell? ⟨wd.heap.size, 0, none⟩ = some (.int .i64 (y.e k (d' k)).k) := new_cell wd _ _ 0 rfl
         have z1 : (wd.alloc (oQ0 (y.e k (d' k)).k (y.e k (d' k)).q (y.e k (d' k)).v)).drew.cell? ⟨wd.heap.size, 1, none⟩ = some (.int .i64 (y.e k (d' k)).q) := new_cell wd _ _ 1 rfl
         go_wp2_with fail
         clear dk b3 ch e0 e1 e2 dk' b3' ch' e0' e1' e2' n1 n2 n3 OD eh eh' ea
         generalize (wd.alloc (oQ0 (y.e k (d' k)).k (y.e k (d' k)).q (y.e k (d' k)).v)).drew = wz at *
         generalize wd.heap.size = M at *
         rcases Bool.eq_false_or_eq_true ((y.e k (d' k)).k == 3) with t3 | t3
         case inr =>
          have HK3 : Hid (¬ (y.e k (d' k)).k = 3) := by
           show ¬ (y.e k (d' k)).k = 3
           simpa using t3
          go_quiet (fail)
          have OQ : Hid (Od w (wz.drewN nq) w.heap.size D ha hc y d' ∧ D < (wz.drewN nq).heap.size ∧ (t' = true → sumL d y.n < sumL d' y.n) ∧ (t' = false → d' = d ∧ ∀ p, p < k → ¬ y.Can d p)) := ⟨OZ.out.1.below (below_drewN (Below.refl _ _) _) OZ.out.2.1, OZ.out.2.1, OZ.out.2.2⟩
          clear z0 z1 OZ
          generalize wz.drewN nq = wq at *
          have HCn : Hid (y.Can d' k) := ⟨hkl, fun h => absurd h HK3.out⟩
          have HPu : Hid (y.Put (up d' k)) := .next OQ.out.1.pu hlt HCn.out
          have hsu := sumL_up (d := d') hlt
          have hsl := sumL_le HPu.out.le y.n
          have HLE : Hid (((sumL y.l y.n - sumL d' y.n : Nat) : Int) - 1 = ((sumL y.l y.n - sumL (up d' k) y.n : Nat) : Int)) := by
           show ((sumL y.l y.n - sumL d' y.n : Nat) : Int) - 1 = ((sumL y.l y.n - sumL (up d' k) y.n : Nat) : Int)
           omega
          have hA1 : ((sumL y.l y.n - sumL d' y.n : Nat) : Int) ≤ 1000 := by have := HSM.out; omega
          have hA0 : (1 : Int) ≤ ((sumL y.l y.n - sumL d' y.n : Nat) : Int) := by omega
          have HNx : Hid (Od w (wq.setCell ⟨D, k, none⟩ (.int .i64 ((d' k : Int) + 1))) w.heap.size D ha hc y (up d' k) ∧ D < (wq.setCell ⟨D, k, none⟩ (.int .i64 ((d' k : Int) + 1))).heap.size ∧ (true = true → sumL d y.n < sumL (up d' k) y.n) ∧ (true = false → up d' k = d ∧ ∀ p, p < k + 1 → ¬ y.Can d p)) := ⟨OQ.out.1.set hlt HCn.out (by have := HDW.out; omega) (by have := HDW.out; omega), by simpa [World.setCell] using OQ.out.2.1, (fun _ => by
           rcases Bool.eq_false_or_eq_true t' with h5 | h5
           ·have := OQ.out.2.2.1 h5
            omega
           ·have := (OQ.out.2.2.2 h5).1
            rw [this] at hsu ⊢
            omega), (fun h => by cases h)⟩
          have dkq := OQ.out.1.od.c k hlt
          have frq := OQ.out.1.od.fr
          clear hsu hsl OQ
          generalize hAA : ((sumL y.l y.n - sumL d' y.n : Nat) : Int) = AA at *
          clear hAA
          go_wp2
          go_roundw
          case rel => exact ⟨k + 1, true, up d' k, by omega, by go_num, rfl, by rw [HLE.out], HNx.out⟩
          case measure => simp [intOf]; omega
         case inl =>
          have hk3 : (y.e k (d' k)).k = 3 := by simpa using t3
          have HK3 : Hid ((y.e k (d' k)).k = 3) := hk3
          have hq := HH.out.1 k hlt (d' k) hkl
          obtain ⟨q, hqe⟩ : ∃ q : Nat, (y.e k (d' k)).q = (q : Int) := ⟨(y.e k (d' k)).q.toNat, by omega⟩
          have HQE : Hid ((y.e k (d' k)).q = (q : Int)) := hqe
          have hqn : q < y.n := by omega
          have hqn' : (q : Int) < (y.n : Int) := by omega
          rw [hk3] at z0
          rw [hqe] at z1
          have dk := OZ.out.1.od.c k hlt
          have dq := OZ.out.1.od.c q hqn
          have b3 := OZ.out.1.bx
          obtain ⟨bz, oz, ez, ch⟩ := (HE.out.below OZ.out.1.be).row.at hlt
          obtain ⟨bz', oz', ez', cq⟩ := (HE.out.below OZ.out.1.be).row.at hqn
          rw [ez] at b3 ez'
          simp only [Option.some.injEq, Addr.mk.injEq] at ez'
          obtain ⟨rfl, rfl, -⟩ := ez'
          have ks := slice_to (hA k) (y.l k) (hC k) (d' k) (by have := HH.out.2.2 k hlt; omega)
          have qs := slice_to (hA q) (y.l q) (hC q) (d' q) (by have := HH.out.2.2 q hqn; have := OZ.out.1.pu.le q; omega)
          have HCk : Hid (∀ dd os, Calls Tryz.prog 156 #[.slice (hA k) (d' k) (hC k), .int .i64 3, .int .i64 q] (grow (redrawn wz dd) os) fun e w' => e = .returned (.int .i64 (cnt (y.e k) 3 q (d' k) : Nat)) ∧ Below (grow (redrawn wz dd) os).heap.size (grow (redrawn wz dd) os) w') := fun dd os => specCount_l (hA k) (d' k) (hC k) (y.e k) 3 q _ (by have := HH.out.2.1 k hlt; omega) (((HE.out.below OZ.out.1.be).below (below_regrown wz dd os)).ev k hlt |>.take (by omega))
          have HCq : Hid (∀ dd os, Calls Tryz.prog 156 #[.slice (hA q) (d' q) (hC q), .int .i64 2, .int .i64 k] (grow (redrawn wz dd) os) fun e w' => e = .returned (.int .i64 (cnt (y.e q) 2 k (d' q) : Nat)) ∧ Below (grow (redrawn wz dd) os).heap.size (grow (redrawn wz dd) os) w') := fun dd os => specCount_l (hA q) (d' q) (hC q) (y.e q) 2 k _ (by have := HH.out.2.1 q hqn; have := OZ.out.1.pu.le q; omega) (((HE.out.below OZ.out.1.be).below (below_regrown wz dd os)).ev q hqn |>.take (OZ.out.1.pu.le q))
          have z0' := cell_regrown z0
          have z1' := cell_regrown z1
          have dk' := cell_regrown dk
          have dq' := cell_regrown dq
          have b3' := cell_regrown b3
          have ch' := cell_regrown ch
          have cq' := cell_regrown cq
          clear ez hq hqe hk3 t3
          refine wp_region_quiet_below (by kernel_rfl) (by kernel_rfl) ?_
          repeat (quiet_step (first | (go_at_call_of 156 (hA k); exact Calls.regrown_of (HCk.out _ _)) | (go_at_call_of 156 (hA q); exact Calls.regrown_of (HCq.out _ _))))
          refine wpQuiet_nil ?_
          intro _ hw'
          obtain ⟨⟨dd, os⟩, hw''⟩ := hw'
          subst hw''
          have OQ : Hid (Od w (grow (redrawn wz dd) os) w.heap.size D ha hc y d' ∧ D < (grow (redrawn wz dd) os).heap.size ∧ (t' = true → sumL d y.n < sumL d' y.n) ∧ (t' = false → d' = d ∧ ∀ p, p < k → ¬ y.Can d p)) := ⟨OZ.out.1.below (below_regrown wz dd os) OZ.out.2.1, Nat.lt_of_lt_of_le OZ.out.2.1 (below_regrown wz dd os).size, OZ.out.2.2⟩
          clear z0' z1' dk' dq' b3' ch' cq' z0 z1 dk dq b3 ch cq ks qs HCk HCq OZ
          generalize grow (redrawn wz dd) os = wq at *
          have HCan : Hid (y.Can d' k ↔ cnt (y.e k) 3 q (d' k) < cnt (y.e q) 2 k (d' q)) := by
           show y.Can d' k ↔ _
           unfold Hs.Can
           rw [HQE.out]
           rw [show ((q : Int)).toNat = q by omega]
           exact ⟨fun h => h.2 HK3.out, fun h => ⟨hkl, fun _ => h⟩⟩
          generalize cnt (y.e k) 3 q (d' k) = c1 at *
          generalize cnt (y.e q) 2 k (d' q) = c2 at *
          by_cases hcc : (c2 : Int) ≤ (c1 : Int)
          ·have HNo : Hid (¬ y.Can d' k) := fun h => by have := HCan.out.1 h; omega
           have HJ2 : Hid (Od w wq w.heap.size D ha hc y d' ∧ D < wq.heap.size ∧ (t' = true → sumL d y.n < sumL d' y.n) ∧ (t' = false → d' = d ∧ ∀ p, p < k + 1 → ¬ y.Can d p)) := ⟨OQ.out.1, OQ.out.2.1, OQ.out.2.2.1, fun h => ⟨(OQ.out.2.2.2 h).1, fun p hp => by
            have h5 := OQ.out.2.2.2 h
            by_cases e : p = k
            ·subst e
             rw [← h5.1]
             exact HNo.out
            ·exact h5.2 p (by omega)⟩⟩
           clear OQ HCan
           go_wp2
           go_roundw
           case rel => exact ⟨k + 1, t', d', by omega, by go_num, rfl, rfl, HJ2.out⟩
           case measure => simp [intOf]; omega
          ·have HCx : Hid (y.Can d' k) := HCan.out.2 (by omega)
           clear HCan
           have HCn : Hid (y.Can d' k) := HCx.out
           have HPu : Hid (y.Put (up d' k)) := .next OQ.out.1.pu hlt HCn.out
           have hsu := sumL_up (d := d') hlt
           have hsl := sumL_le HPu.out.le y.n
           have HLE : Hid (((sumL y.l y.n - sumL d' y.n : Nat) : Int) - 1 = ((sumL y.l y.n - sumL (up d' k) y.n : Nat) : Int)) := by
            show ((sumL y.l y.n - sumL d' y.n : Nat) : Int) - 1 = ((sumL y.l y.n - sumL (up d' k) y.n : Nat) : Int)
            omega
           have hA1 : ((sumL y.l y.n - sumL d' y.n : Nat) : Int) ≤ 1000 := by have := HSM.out; omega
           have hA0 : (1 : Int) ≤ ((sumL y.l y.n - sumL d' y.n : Nat) : Int) := by omega
           have HNx : Hid (Od w (wq.setCell ⟨D, k, none⟩ (.int .i64 ((d' k : Int) + 1))) w.heap.size D ha hc y (up d' k) ∧ D < (wq.setCell ⟨D, k, none⟩ (.int .i64 ((d' k : Int) + 1))).heap.size ∧ (true = true → sumL d y.n < sumL (up d' k) y.n) ∧ (true = false → up d' k = d ∧ ∀ p, p < k + 1 → ¬ y.Can d p)) := ⟨OQ.out.1.set hlt HCn.out (by have := HDW.out; omega) (by have := HDW.out; omega), by simpa [World.setCell] using OQ.out.2.1, (fun _ => by
            rcases Bool.eq_false_or_eq_true t' with h5 | h5
            ·have := OQ.out.2.2.1 h5
             omega
            ·have := (OQ.out.2.2.2 h5).1
             rw [this] at hsu ⊢
             omega), (fun h => by cases h)⟩
           have dkq := OQ.out.1.od.c k hlt
           have frq := OQ.out.1.od.fr
           clear hsu hsl OQ
           generalize hAA : ((sumL y.l y.n - sumL d' y.n : Nat) : Int) = AA at *
           clear hAA
           go_wp2
           go_roundw
           case rel => exact ⟨k + 1, true, up d' k, by omega, by go_num, rfl, by rw [HLE.out], HNx.out⟩
           case measure => simp [intOf]; omega
      ·have hkn : k = y.n := by omega
       subst hkn
       have HF : Hid (2 * (sumL y.l y.n - sumL d' y.n) + (if t' = true then 1 else 0) < gk) := by
        have h2 := HGN.out
        have h3 := sumL_le HJ.out.1.pu.le y.n
        show _ < gk
        cases t' with
        | true =>
         have h4 := HJ.out.2.2.1 rfl
         simp only [if_true]
         omega
        | false =>
         have h4 := (HJ.out.2.2.2 rfl).1
         rw [h4]
         simp only [Bool.false_eq_true, if_false]
         omega
       have HG2 : Hid (Od w wr w.heap.size D ha hc y d' ∧ D < wr.heap.size ∧ (t' = false → ∀ p, p < y.n → ¬ y.Can d' p)) := ⟨HJ.out.1, HJ.out.2.1, fun h p hp => by
        have := HJ.out.2.2.2 h
        rw [this.1]
        exact this.2 p hp⟩
       clear HJ
       go_wp2
       go_roundg (2 * (sumL y.l y.n - sumL d' y.n) + (if t' = true then 1 else 0))
       case measure => exact HF.out
       case rel => exact ⟨t', d', rfl, rfl, rfl, HG2.out⟩
    ·have HR : Hid ((((sumL y.l y.n - sumL d y.n : Nat) : Int) == 0) = qB y.Row) := by
      show (((sumL y.l y.n - sumL d y.n : Nat) : Int) == 0) = qB y.Row
      have hi := Hs.row_iff HI.out.1.pu HH.out.1 (HI.out.2.2 rfl)
      have hle := HI.out.1.pu.le
      by_cases hr : y.Row
      ·have : sumL d y.n = sumL y.l y.n := sumL_same fun i hi' => hi.1 hr i hi'
       rw [qB_true hr, this]
       simp
      ·rw [qB_false hr]
       have : sumL y.l y.n - sumL d y.n ≠ 0 := fun e => hr (hi.2 (sumL_all hle _ (by have := sumL_le hle y.n; omega)))
       have h2 : ((sumL y.l y.n - sumL d y.n : Nat) : Int) ≠ 0 := by omega
       simpa using h2
     have HB : Hid (Below w.heap.size w wr) := HI.out.1.be
     clear HI hgn
     go_wp2
     go_ret
     rw [HR.out]
     exact ⟨rfl, HB.out⟩
def ZAt (w : World) (b off len : Nat) (h : Nat → Int) : Prop := ∀ i, i < len → w.cell? ⟨b, off + i, none⟩ = some (.int .i64 (h i))
theorem ZAt.below {w w' : World} {B b off len : Nat} {h : Nat → Int} (hh : ZAt w b off len h) (hb : Below B w w') (hB : b < B) : ZAt w' b off len h := fun i hi => (hb.cell hB).trans (hh i hi)
def CopiesZ (w : World) (a0 : Option Addr) (len cap : Nat) (h : Nat → Int) : Prop := ∀ wx, Below w.heap.size w wx →
 Calls Tryz.prog 123 #[.slice a0 len cap] wx fun e w' => e = .returned (.slice (some ⟨wx.heap.size, 0, none⟩) len len) ∧ ZAt w' wx.heap.size 0 len h ∧ wx.heap.size < w'.heap.size ∧ Below wx.heap.size wx w' ∧ ∀ j, w'.frozen? ⟨wx.heap.size, j, none⟩ = false
structure AllInt (W : World) (a0 : Option Addr) (n : Nat) (aa : Nat → Option Addr) (ls cs : Nat → Nat) (h : Nat → Nat → Int) : Prop where
 row : RowS W a0 n fun i => .slice (aa i) (ls i) (cs i)
 cop : ∀ i, i < n → CopiesZ W (aa i) (ls i) (cs i) (h i)
open Go
section
variable {P : Program} {ops : Array Oper} {Q : Exit → Act → World → Prop} {md : Region.Mode} {S : World → Prop} {G : Nat → Bool}
theorem wpG_run {α : Type} (lst : α → Array Bool) (rd : α → List Nat) (I : α → Act → World → Prop) (stop : α → Bool)
  (hrd : ∀ s, stop s = false → Region.ready md ops (lst s) = rd s) (hne : ∀ s, stop s = false → rd s ≠ [])
  (hstep : ∀ s x w, I s x w → stop s = false → ∀ i ∈ rd s, ∃ s', (lst s).setIfInBounds i true = lst s' ∧ wpOp P ops Q i (fun x' w' => (S w → G i = false → S w') ∧ I s' x' w') x w)
  (hstop : ∀ s x w, I s x w → stop s = true → wpG P md ops Q S G ((lst s).toList.count false) (lst s) x w) :
  ∀ (fuel : Nat) (s : α) (l : Array Bool) (x : Act) (w : World), lst s = l → I s x w → l.toList.count false = fuel → wpG P md ops Q S G fuel l x w := by
 have key : ∀ (L : Array Bool) (i : Nat), L.getD i true = false → ∃ h : i < L.toList.length, L.toList[i] = false := fun L i h => by
  unfold Array.getD at h
  split at h
  ·rename_i hl
   exact ⟨by simpa using hl, by simpa using h⟩
  ·cases h
 intro fuel
 induction fuel with
 | zero =>
  intro s l x w hl hI hc
  subst hl
  rcases Bool.eq_false_or_eq_true (stop s) with hs | hs
  ·have := hstop s x w hI hs
   rw [hc] at this
   exact this
  ·have h0 := hne s hs
   rw [← hrd s hs] at h0
   obtain ⟨i, hi⟩ := List.exists_mem_of_ne_nil _ h0
   obtain ⟨hl, he⟩ := key _ i (mem_ready.1 hi).1
   have : false ∈ (lst s).toList := by rw [← he]; exact List.getElem_mem hl
   have := List.count_pos_iff.2 this
   omega
 | succ fuel ih =>
  intro s l x w hl hI hc
  subst hl
  rcases Bool.eq_false_or_eq_true (stop s) with hs | hs
  ·have := hstop s x w hI hs
   rw [hc] at this
   exact this
  ·have h0 := hne s hs
   have h := hstep s x w hI hs
   rw [← hrd s hs] at h0 h
   refine ⟨fun e => absurd e h0, fun i hi => ?_⟩
   obtain ⟨s', e, hw⟩ := h i hi
   refine wpOp_mono (fun x' w' h => ⟨h.1, ?_⟩) hw
   refine ih s' _ x' w' e.symm h.2 ?_
   obtain ⟨hl, he⟩ := key _ i (mem_ready.1 hi).1
   rw [Array.toList_setIfInBounds, List.count_set hl, he]
   show (lst s).toList.count false - 1 + 0 = fuel
   omega
end
theorem rp_congr {g : Nat → I5} {len : Nat} {eh eh' : Nat → E3} : ∀ {k : Nat}, (∀ i, i < k → eh' i = eh i) → rp g len eh' k = rp g len eh k
 | 0, _ => rfl
 | k + 1, h => by
  show (rp g len eh' k).bind (rpStep g len (eh' k)) = (rp g len eh k).bind (rpStep g len (eh k))
  rw [rp_congr fun i hi => h i (by omega), h k (by omega)]
theorem plN_congr {eh eh' : Nat → E3} {kd pr : Int} : ∀ {k : Nat}, (∀ i, i < k → eh' i = eh i) → plN eh' kd pr k = plN eh kd pr k
 | 0, _ => rfl
 | k + 1, h => by
  have e := plN_congr (kd := kd) (pr := pr) (k := k) fun i hi => h i (by omega)
  have hh : hitB eh' kd pr k = hitB eh kd pr k := by
   unfold hitB
   rw [h k (by omega)]
  unfold plN
  rw [e, hh]
theorem plN_lt {eh : Nat → E3} {kd pr : Int} : ∀ {k i : Nat}, i ∈ plN eh kd pr k → i < k
 | 0, i, h => by simp [plN] at h
 | k + 1, i, h => by
  unfold plN at h
  split at h
  ·simp only [List.mem_append, List.mem_singleton] at h
   rcases h with h | h
   ·have := plN_lt h
    omega
   ·omega
  ·have := plN_lt h
   omega
theorem valL_congr {eh eh' : Nat → E3} {kd pr : Int} {k : Nat} (h : ∀ i, i < k → eh' i = eh i) : valL eh' kd pr k = valL eh kd pr k := by
 unfold valL
 rw [plN_congr h]
 exact List.map_congr_left fun i hi => by rw [h i (plN_lt hi)]
theorem cnt_congr {eh eh' : Nat → E3} {kd pr : Int} {k : Nat} (h : ∀ i, i < k → eh' i = eh i) : cnt eh' kd pr k = cnt eh kd pr k := by
 unfold cnt
 rw [plN_congr h]
theorem cnt_val (eh : Nat → E3) (kd pr : Int) (k : Nat) : cnt eh kd pr k = (valL eh kd pr k).length := by simp [cnt, valL]
theorem valL_push {eh : Nat → E3} {kd pr : Int} {n : Nat} {x : E3} : valL (fun i => if i = n then x else eh i) kd pr (n + 1) = valL eh kd pr n ++ (if x.k = kd ∧ x.q = pr then [x.v] else []) := by
 have e : valL (fun i => if i = n then x else eh i) kd pr n = valL eh kd pr n := valL_congr fun i hi => by rw [if_neg (by omega)]
 by_cases h : x.k = kd ∧ x.q = pr
 ·have hh : hitB (fun i => if i = n then x else eh i) kd pr n = true := by
   rw [hitB_iff]
   simp only [if_true]
   exact h
  rw [valL_hit hh, e, if_pos h]
  simp
 ·have hh : hitB (fun i => if i = n then x else eh i) kd pr n = false := by
   rcases Bool.eq_false_or_eq_true (hitB (fun i => if i = n then x else eh i) kd pr n) with t | t
   ·rw [hitB_iff] at t
    simp only [if_true] at t
    exact absurd t h
   ·exact t
  rw [valL_not hh, e, if_neg h, List.append_nil]
theorem numL_congr {H H' : Nat → I2} : ∀ {n : Nat}, (∀ i, i < n → H' i = H i) → numL H' n = numL H n
 | 0, _ => rfl
 | n + 1, h => by
  unfold numL
  rw [numL_congr fun i hi => h i (by omega), h n (by omega)]
theorem numL_push (H : Nat → I2) (n : Nat) (v : Int) : numL (fun i => if i = n then ⟨false, v⟩ else H i) (n + 1) = numL H n ++ [v] := by
 rw [numL_hit (by simp)]
 rw [numL_congr (H := H) fun i hi => by rw [if_neg (by omega)]]
 simp
theorem numL_first {H : Nat → I2} (h0 : (H 0).m = false) : ∀ n, numL H (n + 1) = (H 0).v :: numL (fun i => H (i + 1)) n
 | 0 => by rw [numL_hit h0]; rfl
 | n + 1 => by
  rw [numL]
  rw [numL_first h0 n]
  conv => rhs; rw [numL]
  split <;> simp
theorem Hs.Put.more {x x' : Hs} (hn : x'.n = x.n) (hl : ∀ j, x.l j ≤ x'.l j) (he : ∀ j i, i < x.l j → x'.e j i = x.e j i) {d : Nat → Nat} (h : x.Put d) : x'.Put d := by
 induction h with
 | start => exact .start
 | next hd hp hc ih =>
  rename_i d p
  refine .next ih (by omega) ⟨Nat.lt_of_lt_of_le hc.1 (hl p), fun hk => ?_⟩
  have e := he p (d p) hc.1
  rw [e] at hk ⊢
  have hle := hd.le
  rw [cnt_congr (fun i hi => he p i (Nat.lt_trans hi hc.1)), cnt_congr (fun i hi => he _ i (Nat.lt_of_lt_of_le hi (hle _)))]
  exact hc.2 hk
theorem way_inj {a b p q n : Nat} (hb : b < n) (hq : q < n) (h : a * n + b = p * n + q) : a = p ∧ b = q := by
 have h1 : (a * n + b) / n = a := by rw [Nat.mul_comm, Nat.mul_add_div (by omega), Nat.div_eq_of_lt hb, Nat.add_zero]
 have h2 : (p * n + q) / n = p := by rw [Nat.mul_comm, Nat.mul_add_div (by omega), Nat.div_eq_of_lt hq, Nat.add_zero]
 have h3 : a = p := by rw [← h1, ← h2, h]
 subst h3
 exact ⟨rfl, by omega⟩
theorem same_way {a b p q n : Nat} (h1 : a = p) (h2 : q = b) : a * n + b = p * n + q := by rw [h1, h2]
theorem Sy.Ok.next {y : Sy} (h : y.Ok) {p : Nat} (hp : p < y.pn) (hc : (y.sS p).c = 0) : (y.nk p = 1 ∨ y.nk p = 2 ∨ y.nk p = 3 ∨ y.nk p = 4) ∧ (y.nk p ≠ 2 → y.nk p ≠ 3 → y.nq p = 0) ∧ (y.nk p = 2 → numB (y.nv p) = true) := by
 have hr := h.right hp hc
 rw [← hc] at hr
 have e1 : y.nk p = evK (y.pH p (y.sS p).p.toNat).o := if_pos hr
 have e2 : y.nq p = evP (y.pH p (y.sS p).p.toNat).o (y.pH p (y.sS p).p.toNat).n := if_pos hr
 have e3 : y.nv p = evW (y.pH p (y.sS p).p.toNat).o (y.pH p (y.sS p).p.toNat).a (y.sS p).rs := if_pos hr
 obtain ⟨hpr, hs, -⟩ := right_parts hr
 obtain ⟨⟨a1, a2, a3, a4, ers, n1, n2, n3, n4⟩, ⟨k, ek, hk⟩, -, -⟩ := st_parts hs
 have ek' : (y.sS p).p.toNat = k := by omega
 obtain ⟨-, -, ⟨m0, m3⟩, -⟩ := ins_range (right_ins hpr hk)
 rw [ek'] at e1 e2 e3
 refine ⟨?_, ?_, ?_⟩
 ·rw [e1]
  unfold evK
  split
  ·exact .inr (.inl rfl)
  ·split
   ·exact .inr (.inr (.inl rfl))
   ·split
    ·exact .inr (.inr (.inr rfl))
    ·exact .inl rfl
 ·intro h2 h3
  rw [e1] at h2 h3
  rw [e2]
  unfold evK at h2 h3
  unfold evP
  by_cases e6 : (y.pH p k).o = 6
  ·rw [if_pos e6] at h2
   exact absurd rfl h2
  ·rw [if_neg e6] at h3 ⊢
   by_cases e7 : (y.pH p k).o = 7
   ·rw [if_pos e7] at h3
    exact absurd rfl h3
   ·rw [if_neg e7]
 ·intro h2
  rw [e1] at h2
  rw [e3, ers]
  have e6 : (y.pH p k).o = 6 := by
   unfold evK at h2
   by_cases e6 : (y.pH p k).o = 6
   ·exact e6
   ·rw [if_neg e6] at h2
    split at h2
    ·cases h2
    ·split at h2 <;> cases h2
  unfold evW
  rw [if_pos e6]
  obtain ⟨j, ej⟩ : ∃ j : Nat, (y.pH p k).a = j := ⟨(y.pH p k).a.toNat, by omega⟩
  have hj : (y.pH p k).a.toNat < 4 := by omega
  match (y.pH p k).a.toNat, hj with
  | 0, _ => exact n1
  | 1, _ => exact n2
  | 2, _ => exact n3
  | 3, _ => exact n4
structure Sy.Done (y : Sy) (p : Nat) (f : Int) : Prop where
 run : (y.sS p).c = 0
 room : y.hL p < 200
 peer : 0 ≤ y.eq p f ∧ y.eq p f < (y.pn : Int)
 send : y.nk p = 2 → y.wL (p * y.pn + (y.eq p f).toNat) < 12 ∧ numB (y.ev p f) = true
 take : y.nk p = 3 → 0 < y.wL ((y.eq p f).toNat * y.pn + p) ∧ (y.wH ((y.eq p f).toNat * y.pn + p) 0).m = false ∧ (y.wH ((y.eq p f).toNat * y.pn + p) 0).v = y.ev p f ∧ numB (y.ev p f) = true
 can : doB (y.pH p) (y.pL p) (y.sS p).p (y.sS p).rs (y.sS p).os (y.sS p).c (y.nk p) (y.eq p f) (y.ev p f) = true
theorem Sy.Ok.done {y : Sy} (h : y.Ok) {p : Nat} (hp : p < y.pn) {f : Int} (hc : cmS y p f = 0) : y.Done p f := by
 unfold cmS at hc
 have h4 : y.pn ≤ 4 := h.cn.1.2
 have h1 : 1 ≤ y.pn := h.cn.1.1
 by_cases c0 : (y.sS p).c = 0
 case neg =>
  rw [if_pos c0] at hc
  cases hc
 rw [if_neg (by simpa using c0)] at hc
 by_cases c1 : fuS y p (y.nk p) (y.nq p) = true
 ·rw [if_pos c1] at hc
  cases hc
 rw [if_neg c1] at hc
 have hfu : y.hL p < 200 ∧ (y.nk p = 2 → y.wL (p * y.pn + (y.nq p).toNat) < 12) := by
  simp only [fuS, Bool.or_eq_true, decide_eq_true_eq, Bool.and_eq_true, beq_iff_eq, not_or, not_and] at c1
  exact ⟨by omega, fun h2 => by have := c1.2 h2; omega⟩
 obtain ⟨hk, hq0, hnv⟩ := h.next hp c0
 by_cases k3 : y.nk p = 3
 ·rw [if_pos k3] at hc
  have eQ : y.eq p f = if y.nq p = 9 then f else y.nq p := if_pos k3
  rw [← eQ] at hc
  have eV : y.ev p f = (y.wH ((y.eq p f).toNat * y.pn + p) 0).v := if_pos k3
  unfold tkS at hc
  by_cases b : belB (y.eq p f) y.pn = true
  case neg =>
   rw [if_neg b] at hc
   cases hc
  rw [if_pos b] at hc
  have hb : 0 ≤ y.eq p f ∧ y.eq p f < (y.pn : Int) := by simpa [belB] using b
  by_cases w0 : y.wL ((y.eq p f).toNat * y.pn + p) = 0
  ·rw [if_pos w0] at hc
   cases hc
  rw [if_neg w0] at hc
  by_cases m0 : (y.wH ((y.eq p f).toNat * y.pn + p) 0).m = true
  ·rw [if_pos m0] at hc
   cases hc
  have hv : numB (y.ev p f) = true := by
   have := (h.wa (y.eq p f).toNat (by omega) p hp).it 0 (by omega)
   simp only [itemB, Bool.and_eq_true] at this
   rw [eV]
   exact this.1
  refine ⟨c0, hfu.1, hb, (fun h2 => by rw [k3] at h2; cases h2), fun _ => ⟨by omega, by simpa using m0, eV.symm, hv⟩, ?_⟩
  have e3 : nxK (y.pH p) (y.pL p) (y.sS p).p (y.sS p).rs (y.sS p).os (y.sS p).c = 3 := k3
  unfold doB canB
  rw [if_pos e3, k3, hv]
  simp only [beq_self_eq_true, Bool.true_and]
  by_cases e9 : y.nq p = 9
  ·have e9' : nxP (y.pH p) (y.pL p) (y.sS p).p (y.sS p).rs (y.sS p).os (y.sS p).c = 9 := e9
   rw [if_pos e9']
   simp only [belB, decide_eq_true_eq]
   omega
  ·have e9' : ¬ nxP (y.pH p) (y.pL p) (y.sS p).p (y.sS p).rs (y.sS p).os (y.sS p).c = 9 := e9
   rw [if_neg e9', eQ, if_neg e9]
   simp [Sy.nq]
 ·have eQ : y.eq p f = y.nq p := if_neg k3
  have eV : y.ev p f = y.nv p := if_neg k3
  have hpe : 0 ≤ y.nq p ∧ y.nq p < (y.pn : Int) := by
   by_cases k2 : y.nk p = 2
   ·exact h.peer hp k2
   ·rw [hq0 k2 k3]
    omega
  refine ⟨c0, hfu.1, by rw [eQ]; exact hpe, fun h2 => ⟨by rw [eQ]; exact hfu.2 h2, by rw [eV]; exact hnv h2⟩, fun h3 => absurd h3 k3, ?_⟩
  have e3 : ¬ nxK (y.pH p) (y.pL p) (y.sS p).p (y.sS p).rs (y.sS p).os (y.sS p).c = 3 := k3
  have e0 : y.nk p ≠ 0 := by omega
  unfold doB canB
  rw [if_neg e3, eQ, eV]
  simp only [Bool.and_eq_true, bne_iff_ne, beq_iff_eq]
  exact ⟨e0, rfl, rfl, rfl⟩
theorem Sy.Ok.step {y : Sy} (h : y.Ok) {p : Nat} (hp : p < y.pn) {f : Int} (hc : cmS y p f = 0) : (y.step p f).Ok := by
 have D := h.done hp hc
 have e : y.step p f = (y.way p (y.nk p) (y.eq p f) (y.ev p f)).evt p (y.nk p) (y.eq p f) (y.ev p f) := if_pos hc
 rw [e]
 obtain ⟨q, hq⟩ : ∃ q : Nat, y.eq p f = q := ⟨(y.eq p f).toNat, by have := D.peer; omega⟩
 have hqn : q < y.pn := by have := D.peer; omega
 have D' := D
 obtain ⟨run, room, peer, send, take, can⟩ := D
 rw [hq, Int.toNat_natCast] at send take
 rw [hq] at can ⊢
 generalize hV : y.ev p f = V at *
 obtain ⟨kk, -, -⟩ := h.next hp run
 generalize hK : y.nk p = K at *
 clear hV hK e hc hq peer D'
 -- what happened to each, now
 have hH : ∀ a kd pr, valL (((y.way p K q V).evt p K q V).hH a) kd pr (((y.way p K q V).evt p K q V).hL a) = valL (y.hH a) kd pr (y.hL a) ++ (if a = p ∧ K = kd ∧ (q : Int) = pr then [V] else []) := by
  intro a kd pr
  show valL (if a = p then (fun i => if i = y.hL p then (⟨K, q, V⟩ : E3) else y.hH p i) else y.hH a) kd pr (if a = p then y.hL p + 1 else y.hL a) = _
  by_cases ea : a = p
  ·subst ea
   simp only [if_true, true_and]
   exact valL_push
  ·rw [if_neg ea, if_neg ea, if_neg (fun h => ea h.1), List.append_nil]
 refine ⟨h.cn, h.pr, fun a ha => ?_, fun a ha i hi => ?_, fun a ha b hb => ?_, ?_⟩
 ·show repO (y.pH a) (y.pL a) (if a = p then (fun i => if i = y.hL p then (⟨K, q, V⟩ : E3) else y.hH p i) else y.hH a) (if a = p then y.hL p + 1 else y.hL a) = some (if a = p then doS (y.pH p) (y.pL p) (y.sS p).p (y.sS p).rs (y.sS p).os (y.sS p).c K q V else y.sS a)
  by_cases ea : a = p
  ·subst ea
   simp only [if_true]
   have h0 := repO_some (h.rp a hp)
   unfold repO
   rw [if_pos ⟨h0.1, by omega⟩]
   have hr : Go.Proofs.YtfdanemmefckpaaGreatDoor.rp (y.pH a) (y.pL a) (fun i => if i = y.hL a then (⟨K, q, V⟩ : E3) else y.hH a i) (y.hL a) = some (y.sS a) := (rp_congr fun i hi => by rw [if_neg (by omega)]).trans h0.2.2
   have := rp_yes hr (by simpa using can)
   simpa using this
  ·rw [if_neg ea, if_neg ea, if_neg ea]
   exact h.rp a ha
 ·have hi' : i < (if a = p then y.hL p + 1 else y.hL a) := hi
  show ((if a = p then (fun i => if i = y.hL p then (⟨K, q, V⟩ : E3) else y.hH p i) else y.hH a) i).q < (y.pn : Int)
  by_cases ea : a = p
  ·subst ea
   simp only [if_true] at hi' ⊢
   by_cases ei : i = y.hL a
   ·rw [if_pos ei]
    show (q : Int) < _
    omega
   ·rw [if_neg ei]
    exact h.pe a hp i (by omega)
  ·rw [if_neg ea] at hi' ⊢
   exact h.pe a ha i hi'
 ·have wab := h.wa a ha b hb
  rw [hH b 3 a, hH a 2 b]
  show WayP (((y.way p K q V)).wH (a * y.pn + b)) ((y.way p K q V).wL (a * y.pn + b)) _ _
  by_cases k2 : K = 2
  ·subst k2
   rw [Sy.way_send, if_neg (fun h => by have := h.2.1; omega), List.append_nil]
   show WayP (if a * y.pn + b = p * y.pn + q then (fun i => if i = y.wL (p * y.pn + q) then ⟨false, V⟩ else y.wH (p * y.pn + q) i) else y.wH (a * y.pn + b)) (if a * y.pn + b = p * y.pn + q then y.wL (p * y.pn + q) + 1 else y.wL (a * y.pn + b)) _ _
   by_cases ew : a * y.pn + b = p * y.pn + q
   ·obtain ⟨rfl, rfl⟩ := way_inj hb hqn ew
    simp only [if_true]
    rw [if_pos ⟨trivial, trivial, trivial⟩]
    obtain ⟨s1, s2⟩ := send rfl
    refine ⟨fun i hi => ?_, by omega, ?_⟩
    ·by_cases ei : i = y.wL (a * y.pn + b)
     ·rw [if_pos ei]
      simp [itemB, s2]
     ·rw [if_neg ei]
      exact wab.it i (by omega)
    ·rw [numL_push, ← List.append_assoc, wab.eq]
   ·rw [if_neg ew, if_neg ew, if_neg (fun h => ew (same_way h.1 (Int.ofNat_inj.1 h.2.2))), List.append_nil]
    exact wab
  ·by_cases k3 : K = 3
   ·subst k3
    rw [Sy.way_take, if_neg (c := a = p ∧ (3 : Int) = 2 ∧ _) (fun h => by have := h.2.1; omega), List.append_nil]
    show WayP (if a * y.pn + b = q * y.pn + p then (fun i => y.wH (q * y.pn + p) (i + 1)) else y.wH (a * y.pn + b)) (if a * y.pn + b = q * y.pn + p then y.wL (q * y.pn + p) - 1 else y.wL (a * y.pn + b)) _ _
    by_cases ew : a * y.pn + b = q * y.pn + p
    ·obtain ⟨rfl, rfl⟩ := way_inj hb hp ew
     simp only [if_true]
     rw [if_pos ⟨trivial, trivial, trivial⟩]
     obtain ⟨t1, t2, t3, -⟩ := take rfl
     obtain ⟨m, em⟩ : ∃ m, y.wL (a * y.pn + b) = m + 1 := ⟨y.wL (a * y.pn + b) - 1, by omega⟩
     have weq := wab.eq
     have wle := wab.le
     have wit := wab.it
     rw [em] at weq wle wit ⊢
     rw [Nat.add_sub_cancel]
     refine ⟨fun i hi => wit (i + 1) (by omega), by omega, ?_⟩
     rw [numL_first t2, t3] at weq
     rw [List.append_assoc]
     exact weq
    ·rw [if_neg ew, if_neg ew, if_neg (fun h => ew (same_way (Int.ofNat_inj.1 h.2.2).symm h.1.symm)), List.append_nil]
     exact wab
   ·rw [Sy.way_no y p k2 k3, if_neg (fun h => k3 h.2.1), if_neg (fun h => k2 h.2.1), List.append_nil, List.append_nil]
    exact wab
 ·obtain ⟨d, hd, hall⟩ := h.ro
  have hd' : ((y.way p K q V).evt p K q V).hs.Put d := by
   refine Hs.Put.more (x := y.hs) (x' := ((y.way p K q V).evt p K q V).hs) rfl (fun j => ?_) (fun j i hi => ?_) hd
   ·show y.hL j ≤ if j = p then y.hL p + 1 else y.hL j
    by_cases ej : j = p
    ·rw [if_pos ej, ej]; omega
    ·rw [if_neg ej]; exact Nat.le_refl _
   ·have hi' : i < y.hL j := hi
    show (if j = p then (fun i => if i = y.hL p then (⟨K, q, V⟩ : E3) else y.hH p i) else y.hH j) i = y.hH j i
    by_cases ej : j = p
    ·subst ej
     rw [if_pos rfl, if_neg (by omega)]
    ·rw [if_neg ej]
  have hdp : d p = y.hL p := hall p hp
  have epH : ∀ a, a ≠ p → ((y.way p K q V).evt p K q V).hs.e a = y.hH a := fun a ha => by
   show (if a = p then _ else y.hH a) = _
   rw [if_neg ha]
  have epp : ((y.way p K q V).evt p K q V).hs.e p = fun i => if i = y.hL p then (⟨K, q, V⟩ : E3) else y.hH p i := by
   show (if p = p then _ else y.hH p) = _
   rw [if_pos rfl]
   rfl
  have elp : ((y.way p K q V).evt p K q V).hs.l p = y.hL p + 1 := by
   show (if p = p then _ else y.hL p) = _
   rw [if_pos rfl]
   rfl
  have ece : ∀ a kd pr, a < y.pn → cnt (((y.way p K q V).evt p K q V).hs.e a) kd pr (d a) = (valL (y.hH a) kd pr (y.hL a)).length := fun a kd pr ha => by
   have hda : d a = y.hL a := hall a ha
   rw [hda, ← cnt_val]
   refine cnt_congr fun i hi => ?_
   by_cases ea : a = p
   ·subst ea
    rw [epp]
    show (if i = y.hL a then (⟨K, q, V⟩ : E3) else y.hH a i) = y.hH a i
    rw [if_neg (by omega)]
   ·rw [epH a ea]
  refine ⟨up d p, .next hd' hp ⟨by rw [elp, hdp]; omega, fun hk => ?_⟩, fun a ha => ?_⟩
  ·have ee : ((y.way p K q V).evt p K q V).hs.e p (d p) = ⟨K, q, V⟩ := by rw [epp, hdp]; exact if_pos rfl
   rw [ee] at hk ⊢
   have hk' : K = 3 := hk
   show cnt _ 3 (q : Int) _ < cnt (((y.way p K q V).evt p K q V).hs.e (q : Int).toNat) 2 p (d (q : Int).toNat)
   rw [Int.toNat_natCast, ece p 3 q hp, ece q 2 p hqn]
   obtain ⟨t1, t2, -⟩ := take hk'
   obtain ⟨m, em⟩ : ∃ m, y.wL (q * y.pn + p) = m + 1 := ⟨y.wL (q * y.pn + p) - 1, by omega⟩
   have weq := (h.wa q hqn p hp).eq
   rw [em, numL_first t2] at weq
   have := congrArg List.length weq
   simp only [List.length_append, List.length_cons] at this
   omega
  ·have hda : d a = y.hL a := hall a ha
   by_cases ea : a = p
   ·subst ea
    rw [up_same, elp, hdp]
   ·rw [up_other ea, hda]
    show y.hL a = if a = p then _ else y.hL a
    rw [if_neg ea]
end Go.Proofs.YtfdanemmefckpaaGreatDoor
