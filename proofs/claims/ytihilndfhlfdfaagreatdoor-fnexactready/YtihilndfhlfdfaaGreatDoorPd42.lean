/- The walk of the program's isFullFor. -/
import Derived.Test.YtihilndfhlfdfaaGreatDoorPd33
import Derived.Test.YtihilndfhlfdfaaGreatDoorPd39
import Derived.Deep.RegionWith
namespace Go.Proofs.YtihilndfhlfdfaaGreatDoor
open Go.ChangeShapes Go.WideShapes Go.ChangeAt Go.RowKit Go.Deep
set_option maxRecDepth 100000 in
set_option maxHeartbeats 2000000 in
theorem eqSys_same (x : SysIn) (l1 u1 l2 u2 : Nat) (v1 v2 : Value) (w : World) (hs : x.size ≤ 1048576) (o1 : IsSys w l1 u1 x v1) (o2 : IsSys w l2 u2 x v2) :
   Calls Tryz.prog 11 #[v1, v2] w fun e w' => e = .returned (.bool true) ∧ Below w.heap.size w w' := by
 obtain ⟨D1, D2, D3, D4, b1, vs, b3, b4, h1, h2, h3, o1⟩ := o1
 obtain ⟨E1, E2, E3, E4, c1, us, c3, c4, g1, g2, g3, o2⟩ := o2
 have HS : Hid (x.size ≤ 1048576) := hs
 obtain ⟨rfl, p1, s1, w1, i1, -, -, -, -⟩ := o1
 obtain ⟨rfl, p2, s2, w2, i2, -, -, -, -⟩ := o2
 have P1 : Hid (OutIns w D1 h1 x.pn x.pL b1 x.pH) := p1
 have P2 : Hid (OutIns w E1 g1 x.pn x.pL c1 x.pH) := p2
 have S1 : Hid (OutState w D2 h2 x.sn x.sS vs) := s1
 have S2 : Hid (OutState w E2 g2 x.sn x.sS us) := s2
 have W1 : Hid (OutItem w D3 h3 x.wn x.wL b3 x.wH) := w1
 have W2 : Hid (OutItem w E3 g3 x.wn x.wL c3 x.wH) := w2
 have I1 : Hid (OutEvent w D4 u1 x.hn x.hL b4 x.hH) := i1
 have I2 : Hid (OutEvent w E4 u2 x.hn x.hL c4 x.hH) := i2
 clear p1 p2 s1 s2 w1 w2 i1 i2 hs
 go_enter Tryz.func11, Tryz.ntmps11
 have X0 : Hid (BoxC ((w.alloc (.cells #[.slice (some ⟨D1, 0, none⟩) x.pn x.pn, .slice (some ⟨D2, 0, none⟩) x.sn x.sn, .slice (some ⟨D3, 0, none⟩) x.wn x.wn, .slice (some ⟨D4, 0, none⟩) x.hn x.hn] 35)).alloc (.cells #[.slice (some ⟨E1, 0, none⟩) x.pn x.pn, .slice (some ⟨E2, 0, none⟩) x.sn x.sn, .slice (some ⟨E3, 0, none⟩) x.wn x.wn, .slice (some ⟨E4, 0, none⟩) x.hn x.hn] 35)) w.heap.size (.slice (some ⟨D1, 0, none⟩) x.pn x.pn) (.slice (some ⟨D2, 0, none⟩) x.sn x.sn) (.slice (some ⟨D3, 0, none⟩) x.wn x.wn) (.slice (some ⟨D4, 0, none⟩) x.hn x.hn) ∧ BoxC ((w.alloc (.cells #[.slice (some ⟨D1, 0, none⟩) x.pn x.pn, .slice (some ⟨D2, 0, none⟩) x.sn x.sn, .slice (some ⟨D3, 0, none⟩) x.wn x.wn, .slice (some ⟨D4, 0, none⟩) x.hn x.hn] 35)).alloc (.cells #[.slice (some ⟨E1, 0, none⟩) x.pn x.pn, .slice (some ⟨E2, 0, none⟩) x.sn x.sn, .slice (some ⟨E3, 0, none⟩) x.wn x.wn, .slice (some ⟨E4, 0, none⟩) x.hn x.hn] 35)) (w.heap.size + 1) (.slice (some ⟨E1, 0, none⟩) x.pn x.pn) (.slice (some ⟨E2, 0, none⟩) x.sn x.sn) (.slice (some ⟨E3, 0, none⟩) x.wn x.wn) (.slice (some ⟨E4, 0, none⟩) x.hn x.hn) ∧ Below w.heap.size w ((w.alloc (.cells #[.slice (some ⟨D1, 0, none⟩) x.pn x.pn, .slice (some ⟨D2, 0, none⟩) x.sn x.sn, .slice (some ⟨D3, 0, none⟩) x.wn x.wn, .slice (some ⟨D4, 0, none⟩) x.hn x.hn] 35)).alloc (.cells #[.slice (some ⟨E1, 0, none⟩) x.pn x.pn, .slice (some ⟨E2, 0, none⟩) x.sn x.sn, .slice (some ⟨E3, 0, none⟩) x.wn x.wn, .slice (some ⟨E4, 0, none⟩) x.hn x.hn] 35)) ∧ w.heap.size + 2 ≤ ((w.alloc (.cells #[.slice (some ⟨D1, 0, none⟩) x.pn x.pn, .slice (some ⟨D2, 0, none⟩) x.sn x.sn, .slice (some ⟨D3, 0, none⟩) x.wn x.wn, .slice (some ⟨D4, 0, none⟩) x.hn x.hn] 35)).alloc (.cells #[.slice (some ⟨E1, 0, none⟩) x.pn x.pn, .slice (some ⟨E2, 0, none⟩) x.sn x.sn, .slice (some ⟨E3, 0, none⟩) x.wn x.wn, .slice (some ⟨E4, 0, none⟩) x.hn x.hn] 35)).heap.size) := by
   have n1 := BoxC.new w (.slice (some ⟨D1, 0, none⟩) x.pn x.pn) (.slice (some ⟨D2, 0, none⟩) x.sn x.sn) (.slice (some ⟨D3, 0, none⟩) x.wn x.wn) (.slice (some ⟨D4, 0, none⟩) x.hn x.hn) 35
   have n2 := BoxC.new (w.alloc (.cells #[.slice (some ⟨D1, 0, none⟩) x.pn x.pn, .slice (some ⟨D2, 0, none⟩) x.sn x.sn, .slice (some ⟨D3, 0, none⟩) x.wn x.wn, .slice (some ⟨D4, 0, none⟩) x.hn x.hn] 35)) (.slice (some ⟨E1, 0, none⟩) x.pn x.pn) (.slice (some ⟨E2, 0, none⟩) x.sn x.sn) (.slice (some ⟨E3, 0, none⟩) x.wn x.wn) (.slice (some ⟨E4, 0, none⟩) x.hn x.hn) 35
   simp only [World.size_alloc] at n2
   exact ⟨n1.below (below_allocS _ _), n2, ((Below.refl _ _).alloc (Nat.le_refl _) _).alloc (by simp) _, by simp⟩
 go_wp2_with fail
 generalize (w.alloc (.cells #[.slice (some ⟨D1, 0, none⟩) x.pn x.pn, .slice (some ⟨D2, 0, none⟩) x.sn x.sn, .slice (some ⟨D3, 0, none⟩) x.wn x.wn, .slice (some ⟨D4, 0, none⟩) x.hn x.hn] 35)).alloc (.cells #[.slice (some ⟨E1, 0, none⟩) x.pn x.pn, .slice (some ⟨E2, 0, none⟩) x.sn x.sn, .slice (some ⟨E3, 0, none⟩) x.wn x.wn, .slice (some ⟨E4, 0, none⟩) x.hn x.hn] 35) = wA at *
 refine (eqInsSS_same D1 h1 E1 g1 x.pn _ _ x.pL b1 c1 x.pH _ (SysIn.lens HS.out).1.1 (sum_le (SysIn.lens HS.out).1.2) (P1.out.below X0.out.2.2.1 P1.out.le) (P2.out.below X0.out.2.2.1 P2.out.le)).mono ?_
 rintro e w1 ⟨rfl, b1'⟩
 have X1 : Hid (BoxC w1 w.heap.size (.slice (some ⟨D1, 0, none⟩) x.pn x.pn) (.slice (some ⟨D2, 0, none⟩) x.sn x.sn) (.slice (some ⟨D3, 0, none⟩) x.wn x.wn) (.slice (some ⟨D4, 0, none⟩) x.hn x.hn) ∧ BoxC w1 (w.heap.size + 1) (.slice (some ⟨E1, 0, none⟩) x.pn x.pn) (.slice (some ⟨E2, 0, none⟩) x.sn x.sn) (.slice (some ⟨E3, 0, none⟩) x.wn x.wn) (.slice (some ⟨E4, 0, none⟩) x.hn x.hn) ∧ Below w.heap.size w w1 ∧ w.heap.size + 2 ≤ w1.heap.size) := ⟨X0.out.1.below b1', X0.out.2.1.below b1', X0.out.2.2.1.trans (b1'.mono X0.out.2.2.1.size), Nat.le_trans X0.out.2.2.2 b1'.size⟩
 have BE1 : Hid (Below w.heap.size w w1) := X1.out.2.2.1
 clear X0 b1'
 obtain ⟨⟨p0, p1, p2, p3⟩, ⟨q0, q1, q2, q3⟩, -, le⟩ := X1.out
 go_wp2_with fail
 clear p0 p1 p2 p3 q0 q1 q2 q3 le
 refine (eqStateS_same D2 h2 E2 g2 x.sn _ _ x.sS vs us _ (SysIn.lens HS.out).2.1.1 (SysIn.lensS HS.out) (S1.out.below BE1.out S1.out.le) (S2.out.below BE1.out S2.out.le)).mono ?_
 rintro e w2 ⟨rfl, b2'⟩
 have X2 : Hid (BoxC w2 w.heap.size (.slice (some ⟨D1, 0, none⟩) x.pn x.pn) (.slice (some ⟨D2, 0, none⟩) x.sn x.sn) (.slice (some ⟨D3, 0, none⟩) x.wn x.wn) (.slice (some ⟨D4, 0, none⟩) x.hn x.hn) ∧ BoxC w2 (w.heap.size + 1) (.slice (some ⟨E1, 0, none⟩) x.pn x.pn) (.slice (some ⟨E2, 0, none⟩) x.sn x.sn) (.slice (some ⟨E3, 0, none⟩) x.wn x.wn) (.slice (some ⟨E4, 0, none⟩) x.hn x.hn) ∧ Below w.heap.size w w2 ∧ w.heap.size + 2 ≤ w2.heap.size) := ⟨X1.out.1.below b2', X1.out.2.1.below b2', X1.out.2.2.1.trans (b2'.mono X1.out.2.2.1.size), Nat.le_trans X1.out.2.2.2 b2'.size⟩
 have BE2 : Hid (Below w.heap.size w w2) := X2.out.2.2.1
 clear X1 b2' BE1
 obtain ⟨⟨p0, p1, p2, p3⟩, ⟨q0, q1, q2, q3⟩, -, le⟩ := X2.out
 go_wp2_with fail
 clear p0 p1 p2 p3 q0 q1 q2 q3 le
 refine (eqItemSS_same D3 h3 E3 g3 x.wn _ _ x.wL b3 c3 x.wH _ (SysIn.lens HS.out).2.2.1.1 (sum_le (SysIn.lens HS.out).2.2.1.2) (W1.out.below BE2.out W1.out.le) (W2.out.below BE2.out W2.out.le)).mono ?_
 rintro e w3 ⟨rfl, b3'⟩
 have X3 : Hid (BoxC w3 w.heap.size (.slice (some ⟨D1, 0, none⟩) x.pn x.pn) (.slice (some ⟨D2, 0, none⟩) x.sn x.sn) (.slice (some ⟨D3, 0, none⟩) x.wn x.wn) (.slice (some ⟨D4, 0, none⟩) x.hn x.hn) ∧ BoxC w3 (w.heap.size + 1) (.slice (some ⟨E1, 0, none⟩) x.pn x.pn) (.slice (some ⟨E2, 0, none⟩) x.sn x.sn) (.slice (some ⟨E3, 0, none⟩) x.wn x.wn) (.slice (some ⟨E4, 0, none⟩) x.hn x.hn) ∧ Below w.heap.size w w3 ∧ w.heap.size + 2 ≤ w3.heap.size) := ⟨X2.out.1.below b3', X2.out.2.1.below b3', X2.out.2.2.1.trans (b3'.mono X2.out.2.2.1.size), Nat.le_trans X2.out.2.2.2 b3'.size⟩
 have BE3 : Hid (Below w.heap.size w w3) := X3.out.2.2.1
 clear X2 b3' BE2
 obtain ⟨⟨p0, p1, p2, p3⟩, ⟨q0, q1, q2, q3⟩, -, le⟩ := X3.out
 go_wp2_with fail
 clear p0 p1 p2 p3 q0 q1 q2 q3 le
 refine (eqEventSS_same D4 u1 E4 u2 x.hn _ _ x.hL b4 c4 x.hH _ (SysIn.lens HS.out).2.2.2.1 (sum_le (SysIn.lens HS.out).2.2.2.2) (I1.out.below BE3.out I1.out.le) (I2.out.below BE3.out I2.out.le)).mono ?_
 rintro e w4 ⟨rfl, b4'⟩
 have X4 : Hid (BoxC w4 w.heap.size (.slice (some ⟨D1, 0, none⟩) x.pn x.pn) (.slice (some ⟨D2, 0, none⟩) x.sn x.sn) (.slice (some ⟨D3, 0, none⟩) x.wn x.wn) (.slice (some ⟨D4, 0, none⟩) x.hn x.hn) ∧ BoxC w4 (w.heap.size + 1) (.slice (some ⟨E1, 0, none⟩) x.pn x.pn) (.slice (some ⟨E2, 0, none⟩) x.sn x.sn) (.slice (some ⟨E3, 0, none⟩) x.wn x.wn) (.slice (some ⟨E4, 0, none⟩) x.hn x.hn) ∧ Below w.heap.size w w4 ∧ w.heap.size + 2 ≤ w4.heap.size) := ⟨X3.out.1.below b4', X3.out.2.1.below b4', X3.out.2.2.1.trans (b4'.mono X3.out.2.2.1.size), Nat.le_trans X3.out.2.2.2 b4'.size⟩
 have BE4 : Hid (Below w.heap.size w w4) := X4.out.2.2.1
 clear X3 b4' BE3
 go_wp2
 go_ret
 exact ⟨rfl, BE4.out⟩
structure MkY (w wx : World) (lo hi D1 D2 D3 D4 : Nat) (x : SysIn) : Prop where
 tch : Touch (fun b => lo ≤ b ∧ b < hi) w wx
 bx : BoxC wx w.heap.size (.slice (some ⟨D1, 0, none⟩) x.pn x.pn) (.slice (some ⟨D2, 0, none⟩) x.sn x.sn) (.slice (some ⟨D3, 0, none⟩) x.wn x.wn) (.slice (some ⟨D4, 0, none⟩) x.hn x.hn)
 lt : w.heap.size < wx.heap.size
theorem MkY.step {w wx w' : World} {lo hi D1 D2 D3 D4 : Nat} {x : SysIn} (h : MkY w wx lo hi D1 D2 D3 D4 x) (hh : hi ≤ w.heap.size) {P : Nat → Prop} (ht : Touch P wx w') (hp : ∀ b, P b → lo ≤ b ∧ b < hi) : MkY w w' lo hi D1 D2 D3 D4 x := by
 refine ⟨h.tch.trans (ht.mono hp), ?_, Nat.lt_of_lt_of_le h.lt ht.size⟩
 obtain ⟨h0, h1, h2, h3⟩ := h.bx
 have hc : ∀ i, w'.cell? ⟨w.heap.size, i, none⟩ = wx.cell? ⟨w.heap.size, i, none⟩ := fun i => ht.cell h.lt (fun e => by have := hp _ e; omega) i
 exact ⟨(hc _).trans h0, (hc _).trans h1, (hc _).trans h2, (hc _).trans h3⟩
set_option maxRecDepth 100000 in
set_option maxHeartbeats 2000000 in
theorem markSys_any (x : SysIn) (lo hi : Nat) (v : Value) (w : World) (hs : x.size ≤ 1048576) (o : IsSys w lo hi x v) :
   Calls Tryz.prog 15 #[v, .int .i64 1] w fun e w' => (∃ z : Int, e = .returned (.int .i64 z) ∧ ¬ z < 0) ∧ Touch (fun b => lo ≤ b ∧ b < hi) w w' := by
 obtain ⟨D1, D2, D3, D4, b1, vs, b3, b4, h1, h2, h3, o⟩ := o
 have HS : Hid (x.size ≤ 1048576) := hs
 obtain ⟨q1, q2, q3, q4, -⟩ := o.hi
 have OO : Hid (OutSys w lo hi x v D1 D2 D3 D4 b1 vs b3 b4 h1 h2 h3) := o
 have QQ : Hid (h1 ≤ hi ∧ h2 ≤ hi ∧ h3 ≤ hi ∧ hi ≤ w.heap.size) := ⟨q1, q2, q3, q4⟩
 obtain ⟨rfl, p1, s1, w1, i1, y1, y2, y3, y4⟩ := o
 have Y : Hid (lo ≤ D1 ∧ h1 ≤ D2 ∧ h2 ≤ D3 ∧ h3 ≤ D4 ∧ D1 < h1 ∧ D2 < h2 ∧ D3 < h3 ∧ D4 < hi) := ⟨y1, y2, y3, y4, p1.lt, s1.lt, w1.lt, i1.lt⟩
 have P1 : Hid (OutIns w D1 h1 x.pn x.pL b1 x.pH) := p1
 have S1 : Hid (OutState w D2 h2 x.sn x.sS vs) := s1
 have W1 : Hid (OutItem w D3 h3 x.wn x.wL b3 x.wH) := w1
 have I1 : Hid (OutEvent w D4 hi x.hn x.hL b4 x.hH) := i1
 clear p1 s1 w1 i1 y1 y2 y3 y4 q1 q2 q3 q4 hs OO
 have X0 : Hid (MkY w (w.alloc (.cells #[.slice (some ⟨D1, 0, none⟩) x.pn x.pn, .slice (some ⟨D2, 0, none⟩) x.sn x.sn, .slice (some ⟨D3, 0, none⟩) x.wn x.wn, .slice (some ⟨D4, 0, none⟩) x.hn x.hn] 35)) lo hi D1 D2 D3 D4 x) := ⟨Touch.of_below (below_allocS _ _), BoxC.new w (.slice (some ⟨D1, 0, none⟩) x.pn x.pn) (.slice (some ⟨D2, 0, none⟩) x.sn x.sn) (.slice (some ⟨D3, 0, none⟩) x.wn x.wn) (.slice (some ⟨D4, 0, none⟩) x.hn x.hn) 35, by simp⟩
 have BA : Hid (Below w.heap.size w (w.alloc (.cells #[.slice (some ⟨D1, 0, none⟩) x.pn x.pn, .slice (some ⟨D2, 0, none⟩) x.sn x.sn, .slice (some ⟨D3, 0, none⟩) x.wn x.wn, .slice (some ⟨D4, 0, none⟩) x.hn x.hn] 35))) := below_allocS _ _
 go_enter Tryz.func15, Tryz.ntmps15
 go_wp2_with fail
 generalize w.alloc (.cells #[.slice (some ⟨D1, 0, none⟩) x.pn x.pn, .slice (some ⟨D2, 0, none⟩) x.sn x.sn, .slice (some ⟨D3, 0, none⟩) x.wn x.wn, .slice (some ⟨D4, 0, none⟩) x.hn x.hn] 35) = wA at *
 refine (markInsSS_any D1 h1 x.pn x.pn x.pL b1 x.pH 1 wA (SysIn.lens HS.out).1.1 (SysIn.lens HS.out).1.2 (by omega) (by omega) (P1.out.below BA.out (by have := QQ.out; omega))).mono ?_
 rintro e w1 ⟨rfl, t1⟩
 have X1 : Hid (MkY w w1 lo hi D1 D2 D3 D4 x) := X0.out.step (by have := QQ.out; omega) t1 fun b hb => by have := QQ.out; have := Y.out; omega
 have KS : Hid (OutState w1 D2 h2 x.sn x.sS vs) := (S1.out.below BA.out (by have := QQ.out; omega)).keep t1.size fun k hk1 hk2 => t1.block k (by have := BA.out.size; have := QQ.out; omega) (fun e => by have := Y.out; omega)
 have KW : Hid (OutItem w1 D3 h3 x.wn x.wL b3 x.wH) := (W1.out.below BA.out (by have := QQ.out; omega)).keep t1.size fun k hk1 hk2 => t1.block k (by have := BA.out.size; have := QQ.out; omega) (fun e => by have := Y.out; omega)
 have KI : Hid (OutEvent w1 D4 hi x.hn x.hL b4 x.hH) := (I1.out.below BA.out (by have := QQ.out; omega)).keep t1.size fun k hk1 hk2 => t1.block k (by have := BA.out.size; have := QQ.out; omega) (fun e => by have := Y.out; omega)
 have z1 : 0 ≤ (1 : Int) + 5 * (sumL x.pL x.pn : Nat) ∧ (1 : Int) + 5 * (sumL x.pL x.pn : Nat) ≤ 6000000 := by have := (SysIn.lens HS.out).1.2; omega
 generalize (1 : Int) + 5 * (sumL x.pL x.pn : Nat) = Z1 at *
 have HZ1 : Hid (0 ≤ Z1 ∧ Z1 ≤ 6000000) := z1
 clear t1 X0 P1 S1 W1 I1 BA z1
 obtain ⟨-, ⟨p0, p1, p2, p3⟩, lt⟩ := X1.out
 go_wp2_with fail
 clear p0 p1 p2 p3 lt
 refine (markStateS_any D2 h2 x.sn x.sn x.sS vs Z1 w1 (SysIn.lens HS.out).2.1.1 (SysIn.lens HS.out).2.1.2 HZ1.out.1 (by have := HZ1.out; omega) KS.out).mono ?_
 rintro e w2 ⟨rfl, t2⟩
 have X2 : Hid (MkY w w2 lo hi D1 D2 D3 D4 x) := X1.out.step (by have := QQ.out; omega) t2 fun b hb => by have := QQ.out; have := Y.out; omega
 have KW2 : Hid (OutItem w2 D3 h3 x.wn x.wL b3 x.wH) := KW.out.keep t2.size fun k hk1 hk2 => t2.block k (Nat.lt_of_lt_of_le hk2 KW.out.le) (fun e => by have := Y.out; omega)
 have KI2 : Hid (OutEvent w2 D4 hi x.hn x.hL b4 x.hH) := KI.out.keep t2.size fun k hk1 hk2 => t2.block k (Nat.lt_of_lt_of_le hk2 KI.out.le) (fun e => by have := Y.out; omega)
 have z2 : 0 ≤ Z1 + (2 * x.sn + sumL (lenS x.sS) x.sn : Nat) ∧ Z1 + (2 * x.sn + sumL (lenS x.sS) x.sn : Nat) ≤ 12000000 := by have := (SysIn.lens HS.out).2.1; have := HZ1.out; omega
 generalize Z1 + (2 * x.sn + sumL (lenS x.sS) x.sn : Nat) = Z2 at *
 have HZ2 : Hid (0 ≤ Z2 ∧ Z2 ≤ 12000000) := z2
 clear t2 X1 KS KW KI z2 HZ1
 obtain ⟨-, ⟨p0, p1, p2, p3⟩, lt⟩ := X2.out
 go_wp2_with fail
 clear p0 p1 p2 p3 lt
 refine (markItemSS_any D3 h3 x.wn x.wn x.wL b3 x.wH Z2 w2 (SysIn.lens HS.out).2.2.1.1 (SysIn.lens HS.out).2.2.1.2 HZ2.out.1 (by have := HZ2.out; omega) KW2.out).mono ?_
 rintro e w3 ⟨rfl, t3⟩
 have X3 : Hid (MkY w w3 lo hi D1 D2 D3 D4 x) := X2.out.step (by have := QQ.out; omega) t3 fun b hb => by have := QQ.out; have := Y.out; omega
 have KI3 : Hid (OutEvent w3 D4 hi x.hn x.hL b4 x.hH) := KI2.out.keep t3.size fun k hk1 hk2 => t3.block k (Nat.lt_of_lt_of_le hk2 KI2.out.le) (fun e => by have := Y.out; omega)
 have z3 : 0 ≤ Z2 + 2 * (sumL x.wL x.wn : Nat) ∧ Z2 + 2 * (sumL x.wL x.wn : Nat) ≤ 18000000 := by have := (SysIn.lens HS.out).2.2.1; have := HZ2.out; omega
 generalize Z2 + 2 * (sumL x.wL x.wn : Nat) = Z3 at *
 have HZ3 : Hid (0 ≤ Z3 ∧ Z3 ≤ 18000000) := z3
 clear t3 X2 KW2 KI2 z3 HZ2
 obtain ⟨-, ⟨p0, p1, p2, p3⟩, lt⟩ := X3.out
 go_wp2_with fail
 clear p0 p1 p2 p3 lt
 refine (markEventSS_any D4 hi x.hn x.hn x.hL b4 x.hH Z3 w3 (SysIn.lens HS.out).2.2.2.1 (SysIn.lens HS.out).2.2.2.2 HZ3.out.1 (by have := HZ3.out; omega) KI3.out).mono ?_
 rintro e w4 ⟨rfl, t4⟩
 have X4 : Hid (MkY w w4 lo hi D1 D2 D3 D4 x) := X3.out.step (by have := QQ.out; omega) t4 fun b hb => by have := QQ.out; have := Y.out; omega
 have HZ4 : Hid (¬ Z3 + 3 * (sumL x.hL x.hn : Nat) < 0) := by
   show ¬ Z3 + 3 * (sumL x.hL x.hn : Nat) < 0
   have := HZ3.out
   omega
 generalize Z3 + 3 * (sumL x.hL x.hn : Nat) = Z4 at *
 clear t4 X3 KI3 HZ3
 go_wp2
 go_ret
 exact ⟨⟨_, rfl, HZ4.out⟩, X4.out.tch⟩
set_option maxRecDepth 100000 in
theorem open_sys {H : Type} {enc : TypeId × Value → H} {w : World} {base b0 : Nat} {held : Bool} {rc : Reach} {v : Value} {d : DataW H} {p : List MemPlace}
   (hv : Value.okWide Tryz.prog w rc b0 27 v) (h : DataW.Trod enc Tryz.prog w base (fun _ => true) held 27 v d p) :
   ∃ x : SysIn, v = sysV x.pa x.pn x.pc x.sa x.sn x.sc x.wa x.wn x.wc x.ha x.hn x.hc ∧ x.Row w ∧ x.Max ∧ (x.size ≤ 1048576 → ∃ y : SysIn, v = sysV y.pa y.pn y.pc y.sa y.sn y.sc y.wa y.wn y.wc y.ha y.hn y.hc ∧ y.Ok w ∧ y.size ≤ 1048576) := by
 obtain ⟨cs, rfl, hsz⟩ := okWide_struct Tryz.underlying27 hv
 have h4 : Tryz.prog.cellsOf 27 = 4 := by kernel_rfl
 obtain ⟨c0, c1, c2, c3, rfl⟩ := array4 (hsz.trans h4)
 obtain ⟨fuel, hf⟩ := h
 have hf' : DataW.trod enc Tryz.prog w base (fun _ => true) held fuel 27 [c0, c1, c2, c3] = some (d, p) := by simpa [Value.cells] using hf
 obtain ⟨xs, m, -, -, -, hl, hx⟩ := DataW.trod_struct Tryz.underlying27 hf'
 have hl : xs.length = 4 := hl
 have k0 : Tryz.prog.cellsOf 22 = 1 := by kernel_rfl
 have k1 : Tryz.prog.cellsOf 23 = 1 := by kernel_rfl
 have k2 : Tryz.prog.cellsOf 24 = 1 := by kernel_rfl
 have k3 : Tryz.prog.cellsOf 25 = 1 := by kernel_rfl
 have q0 : DataW.trod enc Tryz.prog w base (fun _ => true) held m 22 [c0] = xs[0]? := by simpa [k0] using hx 0 _ rfl
 have q1 : DataW.trod enc Tryz.prog w base (fun _ => true) held m 23 [c1] = xs[1]? := by simpa [k1] using hx 1 _ rfl
 have q2 : DataW.trod enc Tryz.prog w base (fun _ => true) held m 24 [c2] = xs[2]? := by simpa [k2] using hx 2 _ rfl
 have q3 : DataW.trod enc Tryz.prog w base (fun _ => true) held m 25 [c3] = xs[3]? := by simpa [k3] using hx 3 _ rfl
 rw [List.getElem?_eq_getElem (by omega)] at q0 q1 q2 q3
 have sl : ∀ {t el : TypeId} {c : Value} {y : DataW H × List MemPlace}, Tryz.prog.underlying t = some (.slice el) → DataW.trod enc Tryz.prog w base (fun _ => true) held m t [c] = some y → ∃ a l k, c = .slice a l k := by
   intro t el c y hu hy
   rcases Go.Deep.open_slice hu hy with ⟨hcs, _⟩ | ⟨a, len', cap', m, n, D, Pl, hcs, _⟩
   · simp at hcs
     exact ⟨_, _, _, hcs⟩
   · simp at hcs
     exact ⟨_, _, _, hcs⟩
 obtain ⟨pa, pn, pc, rfl⟩ := sl Tryz.underlying22 q0
 obtain ⟨sa, sn, sc, rfl⟩ := sl Tryz.underlying23 q1
 obtain ⟨wa, wn, wc, rfl⟩ := sl Tryz.underlying24 q2
 obtain ⟨ha, hn, hc, rfl⟩ := sl Tryz.underlying25 q3
 obtain ⟨m0, pA, pL, pC, r0, x0, g0⟩ := open_InsSS (d := (xs[0]'(by omega)).1) (p := (xs[0]'(by omega)).2) ⟨m, by simpa [Value.cells] using q0⟩
 obtain ⟨m1, sQ, r1, x1⟩ := open_StateS (d := (xs[1]'(by omega)).1) (p := (xs[1]'(by omega)).2) ⟨m, by simpa [Value.cells] using q1⟩
 obtain ⟨m2, wA, wL, wC, r2, x2, g2⟩ := open_ItemSS (d := (xs[2]'(by omega)).1) (p := (xs[2]'(by omega)).2) ⟨m, by simpa [Value.cells] using q2⟩
 obtain ⟨m3, hA, hL, hC, r3, x3, g3⟩ := open_EventSS (d := (xs[3]'(by omega)).1) (p := (xs[3]'(by omega)).2) ⟨m, by simpa [Value.cells] using q3⟩
 refine ⟨⟨pa, pn, pc, pA, pL, pC, fun _ _ => ⟨0, 0, 0, 0, 0⟩, sa, sn, sc, sQ, wa, wn, wc, wA, wL, wC, fun _ _ => ⟨false, 0⟩, ha, hn, hc, hA, hL, hC, fun _ _ => ⟨0, 0, 0⟩⟩, rfl, ⟨r0, r1, r2, r3⟩, ⟨⟨m0, x0⟩, ⟨m1, x1⟩, ⟨m2, x2⟩, ⟨m3, x3⟩⟩, fun hs => ?_⟩
 have hl := SysIn.lens hs
 obtain ⟨pH, a0⟩ := g0 (sum_le hl.1.2)
 obtain ⟨wH, a2⟩ := g2 (sum_le hl.2.2.1.2)
 obtain ⟨hH, a3⟩ := g3 (sum_le hl.2.2.2.2)
 exact ⟨⟨pa, pn, pc, pA, pL, pC, pH, sa, sn, sc, sQ, wa, wn, wc, wA, wL, wC, wH, ha, hn, hc, hA, hL, hC, hH⟩, rfl, ⟨a0, r1, a2, a3⟩, hs⟩
end Go.Proofs.YtihilndfhlfdfaaGreatDoor
namespace Go.Proofs.YtihilndfhlfdfaaGreatDoor
open Go.ChangeShapes Go.WideShapes Go.ChangeAt Go.RowKit Go.Deep Go.Sort
def fuB (x : SysIn) (p : Nat) (k q : Int) : Bool := decide (200 ≤ x.hL p) || (k == 2 && decide (12 ≤ x.wL (p * x.pn + q.toNat)))
set_option maxRecDepth 100000 in
set_option maxHeartbeats 1000000 in
theorem isFullFor_any (x : SysIn) (p : Nat) (k q v : Int) (w : World) (hG : SysG w x) (hp : p < x.pn) (h4 : x.pn ≤ 4) (hh : x.hn = x.pn) (hw : x.wn = x.pn * x.pn) (hq : k = 2 → 0 ≤ q ∧ q < x.pn) :
   Calls Tryz.prog 96 #[x.v, .int .i64 p, evV k q v] w fun e w' => e = .returned (.bool (fuB x p k q)) ∧ Below w.heap.size w w' := by
 have HG : Hid (SysG w x) := hG
 have HEq : Hid (∀ wx, Below w.heap.size w wx → Calls Tryz.prog 98 #[x.v, .int .i64 p] wx fun e w' => e = .returned (.agg #[.slice (x.hA p) (x.hL p) (x.hC p), .int .i64 200]) ∧ Below wx.heap.size wx w') := fun wx hb => eventQueue_any x p wx (HG.out.below hb) (by omega)
 have NB : Hid (BoxC ((w.alloc (.cells #[.slice x.pa x.pn x.pc, .slice x.sa x.sn x.sc, .slice x.wa x.wn x.wc, .slice x.ha x.hn x.hc] 35)).alloc (.cells #[.int .i64 k, .int .i64 q, .int .i64 v] 69)) w.heap.size (.slice x.pa x.pn x.pc) (.slice x.sa x.sn x.sc) (.slice x.wa x.wn x.wc) (.slice x.ha x.hn x.hc)) := (BoxC.new w _ _ _ _ _).below (below_alloc _ _)
 have NE : Hid (((w.alloc (.cells #[.slice x.pa x.pn x.pc, .slice x.sa x.sn x.sc, .slice x.wa x.wn x.wc, .slice x.ha x.hn x.hc] 35)).alloc (.cells #[.int .i64 k, .int .i64 q, .int .i64 v] 69)).cell? ⟨w.heap.size + 1, 0, none⟩ = some (.int .i64 k) ∧ ((w.alloc (.cells #[.slice x.pa x.pn x.pc, .slice x.sa x.sn x.sc, .slice x.wa x.wn x.wc, .slice x.ha x.hn x.hc] 35)).alloc (.cells #[.int .i64 k, .int .i64 q, .int .i64 v] 69)).cell? ⟨w.heap.size + 1, 1, none⟩ = some (.int .i64 q)) := ⟨new_cell _ _ _ 0 (by simp), new_cell _ _ _ 1 (by simp)⟩
 have BW : Hid (Below w.heap.size w ((w.alloc (.cells #[.slice x.pa x.pn x.pc, .slice x.sa x.sn x.sc, .slice x.wa x.wn x.wc, .slice x.ha x.hn x.hc] 35)).alloc (.cells #[.int .i64 k, .int .i64 q, .int .i64 v] 69))) := (below_alloc _ _).trans ((below_alloc _ _).mono (by simp))
 have HW2 : Hid (x.wn = x.pn * x.pn) := hw
 clear hG hh hw
 go_enter Tryz.func96, Tryz.ntmps96
 go_wp2_with fail
 generalize (w.alloc (.cells #[.slice x.pa x.pn x.pc, .slice x.sa x.sn x.sc, .slice x.wa x.wn x.wc, .slice x.ha x.hn x.hc] 35)).alloc (.cells #[.int .i64 k, .int .i64 q, .int .i64 v] 69) = W2 at *
 refine (HEq.out W2 BW.out).mono ?_
 rintro e w3 ⟨rfl, b3⟩
 have F3 : Hid (Below w.heap.size w w3 ∧ Below W2.heap.size W2 w3) := ⟨BW.out.trans (b3.mono BW.out.size), b3⟩
 clear b3
 go_wp2_with fail
 refine (isFullEvent_any _ _ _ _ w3).mono ?_
 rintro e w4 ⟨rfl, b4⟩
 have F4 : Hid (Below w.heap.size w w4 ∧ Below W2.heap.size W2 w4) := ⟨F3.out.1.trans (b4.mono F3.out.1.size), F3.out.2.trans (b4.mono F3.out.2.size)⟩
 clear b4 F3
 by_cases h200 : (200 : Int) ≤ (x.hL p : Int)
 · have HN : Hid (fuB x p k q = true) := by
     show fuB x p k q = true
     simp [fuB, show 200 ≤ x.hL p by omega]
   rw [decide_eq_true h200]
   clear h200
   go_wp2
   go_ret
   rw [HN.out]
   exact ⟨rfl, F4.out.1⟩
 rw [decide_eq_false h200]
 have HN0 : Hid (fuB x p k q = (k == 2 && decide (12 ≤ x.wL (p * x.pn + q.toNat)))) := by
   show fuB x p k q = _
   simp [fuB, show ¬ 200 ≤ x.hL p by omega]
 have e0 := (F4.out.2.cell (p := ⟨w.heap.size + 1, 0, none⟩) (World.block_lt_of_cell? W2 _ NE.out.1)).trans NE.out.1
 have e1 := (F4.out.2.cell (p := ⟨w.heap.size + 1, 1, none⟩) (World.block_lt_of_cell? W2 _ NE.out.2)).trans NE.out.2
 clear h200
 rcases Bool.eq_false_or_eq_true (k == 2) with t2 | t2
 · have hk2 : k = 2 := by simpa using t2
   obtain ⟨j, rfl, hj⟩ : ∃ j : Nat, q = (j : Int) ∧ j < x.pn := by
     have := hq hk2
     exact ⟨q.toNat, by omega, by omega⟩
   have hJ : p * x.pn + j < x.wn := by
     rw [HW2.out]
     have : (p + 1) * x.pn ≤ x.pn * x.pn := Nat.mul_le_mul_right _ (by omega)
     rw [Nat.add_mul] at this
     omega
   have HWq : Hid (∀ wx, Below w.heap.size w wx → Calls Tryz.prog 100 #[x.v, .int .i64 p, .int .i64 j] wx fun e w' => e = .returned (.agg #[.slice (x.wA (p * x.pn + j)) (x.wL (p * x.pn + j)) (x.wC (p * x.pn + j)), .int .i64 12]) ∧ Below wx.heap.size wx w') := fun wx hb => wayQueue_any x p j wx (HG.out.below hb) (by omega) (by omega) h4 hJ
   have HN : Hid (fuB x p k j = decide ((12 : Int) ≤ (x.wL (p * x.pn + j) : Int))) := by
     show fuB x p k j = _
     rw [HN0.out, t2, Bool.true_and]
     have : (j : Int).toNat = j := by omega
     rw [this]
     by_cases h : 12 ≤ x.wL (p * x.pn + j)
     · rw [decide_eq_true h, decide_eq_true (by omega)]
     · rw [decide_eq_false h, decide_eq_false (by omega)]
   rw [hk2] at e0
   generalize p * x.pn + j = J at *
   obtain ⟨k0, k1, k2, k3⟩ := NB.out.below F4.out.2
   clear hk2 t2 HN0 hq
   go_wp2_with fail
   refine (HWq.out w4 F4.out.1).mono ?_
   rintro e w5 ⟨rfl, b5⟩
   have F5 : Hid (Below w.heap.size w w5) := F4.out.1.trans (b5.mono F4.out.1.size)
   clear b5 k0 k1 k2 k3 e0 e1
   go_wp2_with fail
   refine (isFullItem_any _ _ _ _ w5).mono ?_
   rintro e w6 ⟨rfl, b6⟩
   have F6 : Hid (Below w.heap.size w w6) := F5.out.trans (b6.mono F5.out.size)
   clear b6
   go_wp2
   go_ret
   rw [HN.out]
   exact ⟨rfl, F6.out⟩
 · have HN : Hid (fuB x p k q = false) := by
     show fuB x p k q = false
     rw [HN0.out, t2, Bool.false_and]
   clear HN0 hq
   go_wp2
   go_ret
   rw [HN.out]
   exact ⟨rfl, F4.out.1⟩
end Go.Proofs.YtihilndfhlfdfaaGreatDoor
