/- The law of SysOk, walked. -/
import Derived.Test.YtdigofhceahpdaaGreatDoorSb40
import Derived.Test.YtdigofhceahpdaaGreatDoorSb49
import Derived.Deep.RegionWith
namespace Go.Proofs.YtdigofhceahpdaaGreatDoor
open Go.ChangeShapes Go.WideShapes Go.ChangeAt Go.RowKit Go.Deep
set_option maxRecDepth 100000 in
set_option maxHeartbeats 2000000 in
theorem eqSys_same (x : SysIn) (l1 u1 l2 u2 : Nat) (v1 v2 : Value) (w : World) (hs : x.size ≤ 1048576) (o1 : IsSys w l1 u1 x v1) (o2 : IsSys w l2 u2 x v2) :
   Calls Tryz.prog 10 #[v1, v2] w fun e w' => e = .returned (.bool true) ∧ Below w.heap.size w w' := by
 obtain ⟨D1, D2, D3, D4, b1, vs, b3, b4, h1, h2, h3, o1⟩ := o1
 obtain ⟨E1, E2, E3, E4, c1, us, c3, c4, g1, g2, g3, o2⟩ := o2
 have HS : Hid (x.size ≤ 1048576) := hs
 obtain ⟨rfl, p1, s1, w1, i1, -, -, -, -⟩ := o1
 obtain ⟨rfl, p2, s2, w2, i2, -, -, -, -⟩ := o2
 have P1 : Hid (OutIns w D1 h1 x.pn x.pL b1 x.pH) := p1
 have P2 : Hid (OutIns w E1 g1 x.pn x.pL c1 x.pH) := p2
 have S1 : Hid (OutState w D2 h2 x.sn x.sS vs) := s1
 have S2 : Hid (OutState w E2 g2 x.sn x.sS us) := s2
 have W1 : Hid (OutItem w D3 h3 x.wn x.wL b3 x.wH) := w1
 have W2 : Hid (OutItem w E3 g3 x.wn x.wL c3 x.wH) := w2
 have I1 : Hid (OutEvent w D4 u1 x.hn x.hL b4 x.hH) := i1
 have I2 : Hid (OutEvent w E4 u2 x.hn x.hL c4 x.hH) := i2
 clear p1 p2 s1 s2 w1 w2 i1 i2 hs
 go_enter Tryz.func10, Tryz.ntmps10
 have X0 : Hid (BoxC ((w.alloc (.cells #[.slice (some ⟨D1, 0, none⟩) x.pn x.pn, .slice (some ⟨D2, 0, none⟩) x.sn x.sn, .slice (some ⟨D3, 0, none⟩) x.wn x.wn, .slice (some ⟨D4, 0, none⟩) x.hn x.hn] 29)).alloc (.cells #[.slice (some ⟨E1, 0, none⟩) x.pn x.pn, .slice (some ⟨E2, 0, none⟩) x.sn x.sn, .slice (some ⟨E3, 0, none⟩) x.wn x.wn, .slice (some ⟨E4, 0, none⟩) x.hn x.hn] 29)) w.heap.size (.slice (some ⟨D1, 0, none⟩) x.pn x.pn) (.slice (some ⟨D2, 0, none⟩) x.sn x.sn) (.slice (some ⟨D3, 0, none⟩) x.wn x.wn) (.slice (some ⟨D4, 0, none⟩) x.hn x.hn) ∧ BoxC ((w.alloc (.cells #[.slice (some ⟨D1, 0, none⟩) x.pn x.pn, .slice (some ⟨D2, 0, none⟩) x.sn x.sn, .slice (some ⟨D3, 0, none⟩) x.wn x.wn, .slice (some ⟨D4, 0, none⟩) x.hn x.hn] 29)).alloc (.cells #[.slice (some ⟨E1, 0, none⟩) x.pn x.pn, .slice (some ⟨E2, 0, none⟩) x.sn x.sn, .slice (some ⟨E3, 0, none⟩) x.wn x.wn, .slice (some ⟨E4, 0, none⟩) x.hn x.hn] 29)) (w.heap.size + 1) (.slice (some ⟨E1, 0, none⟩) x.pn x.pn) (.slice (some ⟨E2, 0, none⟩) x.sn x.sn) (.slice (some ⟨E3, 0, none⟩) x.wn x.wn) (.slice (some ⟨E4, 0, none⟩) x.hn x.hn) ∧ Below w.heap.size w ((w.alloc (.cells #[.slice (some ⟨D1, 0, none⟩) x.pn x.pn, .slice (some ⟨D2, 0, none⟩) x.sn x.sn, .slice (some ⟨D3, 0, none⟩) x.wn x.wn, .slice (some ⟨D4, 0, none⟩) x.hn x.hn] 29)).alloc (.cells #[.slice (some ⟨E1, 0, none⟩) x.pn x.pn, .slice (some ⟨E2, 0, none⟩) x.sn x.sn, .slice (some ⟨E3, 0, none⟩) x.wn x.wn, .slice (some ⟨E4, 0, none⟩) x.hn x.hn] 29)) ∧ w.heap.size + 2 ≤ ((w.alloc (.cells #[.slice (some ⟨D1, 0, none⟩) x.pn x.pn, .slice (some ⟨D2, 0, none⟩) x.sn x.sn, .slice (some ⟨D3, 0, none⟩) x.wn x.wn, .slice (some ⟨D4, 0, none⟩) x.hn x.hn] 29)).alloc (.cells #[.slice (some ⟨E1, 0, none⟩) x.pn x.pn, .slice (some ⟨E2, 0, none⟩) x.sn x.sn, .slice (some ⟨E3, 0, none⟩) x.wn x.wn, .slice (some ⟨E4, 0, none⟩) x.hn x.hn] 29)).heap.size) := by
   have n1 := BoxC.new w (.slice (some ⟨D1, 0, none⟩) x.pn x.pn) (.slice (some ⟨D2, 0, none⟩) x.sn x.sn) (.slice (some ⟨D3, 0, none⟩) x.wn x.wn) (.slice (some ⟨D4, 0, none⟩) x.hn x.hn) 29
   have n2 := BoxC.new (w.alloc (.cells #[.slice (some ⟨D1, 0, none⟩) x.pn x.pn, .slice (some ⟨D2, 0, none⟩) x.sn x.sn, .slice (some ⟨D3, 0, none⟩) x.wn x.wn, .slice (some ⟨D4, 0, none⟩) x.hn x.hn] 29)) (.slice (some ⟨E1, 0, none⟩) x.pn x.pn) (.slice (some ⟨E2, 0, none⟩) x.sn x.sn) (.slice (some ⟨E3, 0, none⟩) x.wn x.wn) (.slice (some ⟨E4, 0, none⟩) x.hn x.hn) 29
   simp only [World.size_alloc] at n2
   exact ⟨n1.below (below_allocS _ _), n2, ((Below.refl _ _).alloc (Nat.le_refl _) _).alloc (by simp) _, by simp⟩
 go_wp2_with fail
 generalize (w.alloc (.cells #[.slice (some ⟨D1, 0, none⟩) x.pn x.pn, .slice (some ⟨D2, 0, none⟩) x.sn x.sn, .slice (some ⟨D3, 0, none⟩) x.wn x.wn, .slice (some ⟨D4, 0, none⟩) x.hn x.hn] 29)).alloc (.cells #[.slice (some ⟨E1, 0, none⟩) x.pn x.pn, .slice (some ⟨E2, 0, none⟩) x.sn x.sn, .slice (some ⟨E3, 0, none⟩) x.wn x.wn, .slice (some ⟨E4, 0, none⟩) x.hn x.hn] 29) = wA at *
 refine (eqInsSS_same D1 h1 E1 g1 x.pn _ _ x.pL b1 c1 x.pH _ (SysIn.lens HS.out).1.1 (sum_le (SysIn.lens HS.out).1.2) (P1.out.below X0.out.2.2.1 P1.out.le) (P2.out.below X0.out.2.2.1 P2.out.le)).mono ?_
 rintro e w1 ⟨rfl, b1'⟩
 have X1 : Hid (BoxC w1 w.heap.size (.slice (some ⟨D1, 0, none⟩) x.pn x.pn) (.slice (some ⟨D2, 0, none⟩) x.sn x.sn) (.slice (some ⟨D3, 0, none⟩) x.wn x.wn) (.slice (some ⟨D4, 0, none⟩) x.hn x.hn) ∧ BoxC w1 (w.heap.size + 1) (.slice (some ⟨E1, 0, none⟩) x.pn x.pn) (.slice (some ⟨E2, 0, none⟩) x.sn x.sn) (.slice (some ⟨E3, 0, none⟩) x.wn x.wn) (.slice (some ⟨E4, 0, none⟩) x.hn x.hn) ∧ Below w.heap.size w w1 ∧ w.heap.size + 2 ≤ w1.heap.size) := ⟨X0.out.1.below b1', X0.out.2.1.below b1', X0.out.2.2.1.trans (b1'.mono X0.out.2.2.1.size), Nat.le_trans X0.out.2.2.2 b1'.size⟩
 have BE1 : Hid (Below w.heap.size w w1) := X1.out.2.2.1
 clear X0 b1'
 obtain ⟨⟨p0, p1, p2, p3⟩, ⟨q0, q1, q2, q3⟩, -, le⟩ := X1.out
 go_wp2_with fail
 clear p0 p1 p2 p3 q0 q1 q2 q3 le
 refine (eqStateS_same D2 h2 E2 g2 x.sn _ _ x.sS vs us _ (SysIn.lens HS.out).2.1.1 (SysIn.lensS HS.out) (S1.out.below BE1.out S1.out.le) (S2.out.below BE1.out S2.out.le)).mono ?_
 rintro e w2 ⟨rfl, b2'⟩
 have X2 : Hid (BoxC w2 w.heap.size (.slice (some ⟨D1, 0, none⟩) x.pn x.pn) (.slice (some ⟨D2, 0, none⟩) x.sn x.sn) (.slice (some ⟨D3, 0, none⟩) x.wn x.wn) (.slice (some ⟨D4, 0, none⟩) x.hn x.hn) ∧ BoxC w2 (w.heap.size + 1) (.slice (some ⟨E1, 0, none⟩) x.pn x.pn) (.slice (some ⟨E2, 0, none⟩) x.sn x.sn) (.slice (some ⟨E3, 0, none⟩) x.wn x.wn) (.slice (some ⟨E4, 0, none⟩) x.hn x.hn) ∧ Below w.heap.size w w2 ∧ w.heap.size + 2 ≤ w2.heap.size) := ⟨X1.out.1.below b2', X1.out.2.1.below b2', X1.out.2.2.1.trans (b2'.mono X1.out.2.2.1.size), Nat.le_trans X1.out.2.2.2 b2'.size⟩
 have BE2 : Hid (Below w.heap.size w w2) := X2.out.2.2.1
 clear X1 b2' BE1
 obtain ⟨⟨p0, p1, p2, p3⟩, ⟨q0, q1, q2, q3⟩, -, le⟩ := X2.out
 go_wp2_with fail
 clear p0 p1 p2 p3 q0 q1 q2 q3 le
 refine (eqItemSS_same D3 h3 E3 g3 x.wn _ _ x.wL b3 c3 x.wH _ (SysIn.lens HS.out).2.2.1.1 (sum_le (SysIn.lens HS.out).2.2.1.2) (W1.out.below BE2.out W1.out.le) (W2.out.below BE2.out W2.out.le)).mono ?_
 rintro e w3 ⟨rfl, b3'⟩
 have X3 : Hid (BoxC w3 w.heap.size (.slice (some ⟨D1, 0, none⟩) x.pn x.pn) (.slice (some ⟨D2, 0, none⟩) x.sn x.sn) (.slice (some ⟨D3, 0, none⟩) x.wn x.wn) (.slice (some ⟨D4, 0, none⟩) x.hn x.hn) ∧ BoxC w3 (w.heap.size + 1) (.slice (some ⟨E1, 0, none⟩) x.pn x.pn) (.slice (some ⟨E2, 0, none⟩) x.sn x.sn) (.slice (some ⟨E3, 0, none⟩) x.wn x.wn) (.slice (some ⟨E4, 0, none⟩) x.hn x.hn) ∧ Below w.heap.size w w3 ∧ w.heap.size + 2 ≤ w3.heap.size) := ⟨X2.out.1.below b3', X2.out.2.1.below b3', X2.out.2.2.1.trans (b3'.mono X2.out.2.2.1.size), Nat.le_trans X2.out.2.2.2 b3'.size⟩
 have BE3 : Hid (Below w.heap.size w w3) := X3.out.2.2.1
 clear X2 b3' BE2
 obtain ⟨⟨p0, p1, p2, p3⟩, ⟨q0, q1, q2, q3⟩, -, le⟩ := X3.out
 go_wp2_with fail
 clear p0 p1 p2 p3 q0 q1 q2 q3 le
 refine (eqEventSS_same D4 u1 E4 u2 x.hn _ _ x.hL b4 c4 x.hH _ (SysIn.lens HS.out).2.2.2.1 (sum_le (SysIn.lens HS.out).2.2.2.2) (I1.out.below BE3.out I1.out.le) (I2.out.below BE3.out I2.out.le)).mono ?_
 rintro e w4 ⟨rfl, b4'⟩
 have X4 : Hid (BoxC w4 w.heap.size (.slice (some ⟨D1, 0, none⟩) x.pn x.pn) (.slice (some ⟨D2, 0, none⟩) x.sn x.sn) (.slice (some ⟨D3, 0, none⟩) x.wn x.wn) (.slice (some ⟨D4, 0, none⟩) x.hn x.hn) ∧ BoxC w4 (w.heap.size + 1) (.slice (some ⟨E1, 0, none⟩) x.pn x.pn) (.slice (some ⟨E2, 0, none⟩) x.sn x.sn) (.slice (some ⟨E3, 0, none⟩) x.wn x.wn) (.slice (some ⟨E4, 0, none⟩) x.hn x.hn) ∧ Below w.heap.size w w4 ∧ w.heap.size + 2 ≤ w4.heap.size) := ⟨X3.out.1.below b4', X3.out.2.1.below b4', X3.out.2.2.1.trans (b4'.mono X3.out.2.2.1.size), Nat.le_trans X3.out.2.2.2 b4'.size⟩
 have BE4 : Hid (Below w.heap.size w w4) := X4.out.2.2.1
 clear X3 b4' BE3
 go_wp2
 go_ret
 exact ⟨rfl, BE4.out⟩
structure MkY (w wx : World) (lo hi D1 D2 D3 D4 : Nat) (x : SysIn) : Prop where
 tch : Touch (fun b => lo ≤ b ∧ b < hi) w wx
 bx : BoxC wx w.heap.size (.slice (some ⟨D1, 0, none⟩) x.pn x.pn) (.slice (some ⟨D2, 0, none⟩) x.sn x.sn) (.slice (some ⟨D3, 0, none⟩) x.wn x.wn) (.slice (some ⟨D4, 0, none⟩) x.hn x.hn)
 lt : w.heap.size < wx.heap.size
set_option maxRecDepth 100000 in
theorem open_sys {H : Type} {enc : TypeId × Value → H} {w : World} {base b0 : Nat} {held : Bool} {rc : Reach} {v : Value} {d : DataW H} {p : List MemPlace}
   (hv : Value.okWide Tryz.prog w rc b0 42 v) (h : DataW.Trod enc Tryz.prog w base (fun _ => true) held 42 v d p) :
   ∃ x : SysIn, v = sysV x.pa x.pn x.pc x.sa x.sn x.sc x.wa x.wn x.wc x.ha x.hn x.hc ∧ x.Row w ∧ x.Max ∧ (x.size ≤ 1048576 → ∃ y : SysIn, v = sysV y.pa y.pn y.pc y.sa y.sn y.sc y.wa y.wn y.wc y.ha y.hn y.hc ∧ y.Ok w ∧ y.size ≤ 1048576) := by
 obtain ⟨cs, rfl, hsz⟩ := okWide_struct Tryz.underlying42 hv
 have h4 : Tryz.prog.cellsOf 42 = 4 := by kernel_rfl
 obtain ⟨c0, c1, c2, c3, rfl⟩ := array4 (hsz.trans h4)
 obtain ⟨fuel, hf⟩ := h
 have hf' : DataW.trod enc Tryz.prog w base (fun _ => true) held fuel 42 [c0, c1, c2, c3] = some (d, p) := by simpa [Value.cells] using hf
 obtain ⟨xs, m, -, -, -, hl, hx⟩ := DataW.trod_struct Tryz.underlying42 hf'
 have hl : xs.length = 4 := hl
 have k0 : Tryz.prog.cellsOf 22 = 1 := by kernel_rfl
 have k1 : Tryz.prog.cellsOf 38 = 1 := by kernel_rfl
 have k2 : Tryz.prog.cellsOf 39 = 1 := by kernel_rfl
 have k3 : Tryz.prog.cellsOf 40 = 1 := by kernel_rfl
 have q0 : DataW.trod enc Tryz.prog w base (fun _ => true) held m 22 [c0] = xs[0]? := by simpa [k0] using hx 0 _ rfl
 have q1 : DataW.trod enc Tryz.prog w base (fun _ => true) held m 38 [c1] = xs[1]? := by simpa [k1] using hx 1 _ rfl
 have q2 : DataW.trod enc Tryz.prog w base (fun _ => true) held m 39 [c2] = xs[2]? := by simpa [k2] using hx 2 _ rfl
 have q3 : DataW.trod enc Tryz.prog w base (fun _ => true) held m 40 [c3] = xs[3]? := by simpa [k3] using hx 3 _ rfl
 rw [List.getElem?_eq_getElem (by omega)] at q0 q1 q2 q3
 have sl : ∀ {t el : TypeId} {c : Value} {y : DataW H × List MemPlace}, Tryz.prog.underlying t = some (.slice el) → DataW.trod enc Tryz.prog w base (fun _ => true) held m t [c] = some y → ∃ a l k, c = .slice a l k := by
   intro t el c y hu hy
   rcases Go.Deep.open_slice hu hy with ⟨hcs, _⟩ | ⟨a, len', cap', m, n, D, Pl, hcs, _⟩
   · simp at hcs
     exact ⟨_, _, _, hcs⟩
   · simp at hcs
     exact ⟨_, _, _, hcs⟩
 obtain ⟨pa, pn, pc, rfl⟩ := sl Tryz.underlying22 q0
 obtain ⟨sa, sn, sc, rfl⟩ := sl Tryz.underlying38 q1
 obtain ⟨wa, wn, wc, rfl⟩ := sl Tryz.underlying39 q2
 obtain ⟨ha, hn, hc, rfl⟩ := sl Tryz.underlying40 q3
 obtain ⟨m0, pA, pL, pC, r0, x0, g0⟩ := open_InsSS (d := (xs[0]'(by omega)).1) (p := (xs[0]'(by omega)).2) ⟨m, by simpa [Value.cells] using q0⟩
 obtain ⟨m1, sQ, r1, x1⟩ := open_StateS (d := (xs[1]'(by omega)).1) (p := (xs[1]'(by omega)).2) ⟨m, by simpa [Value.cells] using q1⟩
 obtain ⟨m2, wA, wL, wC, r2, x2, g2⟩ := open_ItemSS (d := (xs[2]'(by omega)).1) (p := (xs[2]'(by omega)).2) ⟨m, by simpa [Value.cells] using q2⟩
 obtain ⟨m3, hA, hL, hC, r3, x3, g3⟩ := open_EventSS (d := (xs[3]'(by omega)).1) (p := (xs[3]'(by omega)).2) ⟨m, by simpa [Value.cells] using q3⟩
 refine ⟨⟨pa, pn, pc, pA, pL, pC, fun _ _ => ⟨0, 0, 0, 0, 0⟩, sa, sn, sc, sQ, wa, wn, wc, wA, wL, wC, fun _ _ => ⟨false, 0⟩, ha, hn, hc, hA, hL, hC, fun _ _ => ⟨0, 0, 0⟩⟩, rfl, ⟨r0, r1, r2, r3⟩, ⟨⟨m0, x0⟩, ⟨m1, x1⟩, ⟨m2, x2⟩, ⟨m3, x3⟩⟩, fun hs => ?_⟩
 have hl := SysIn.lens hs
 obtain ⟨pH, a0⟩ := g0 (sum_le hl.1.2)
 obtain ⟨wH, a2⟩ := g2 (sum_le hl.2.2.1.2)
 obtain ⟨hH, a3⟩ := g3 (sum_le hl.2.2.2.2)
 exact ⟨⟨pa, pn, pc, pA, pL, pC, pH, sa, sn, sc, sQ, wa, wn, wc, wA, wL, wC, wH, ha, hn, hc, hA, hL, hC, hH⟩, rfl, ⟨a0, r1, a2, a3⟩, hs⟩
end Go.Proofs.YtdigofhceahpdaaGreatDoor
namespace Go.Proofs.YtdigofhceahpdaaGreatDoor
open Go.ChangeShapes Go.WideShapes Go.ChangeAt Go.RowKit Go.Deep Go.Sort
theorem IsSys.g2 {w : World} {lo hi : Nat} {x : SysIn} {v : Value} (o : IsSys w lo hi x v) : ∃ x' : SysIn, v = x'.v ∧ SysG w x' ∧ x'.y = x.y ∧ ∀ i, i < x'.hn → x'.hL i ≤ x'.hC i := by
 obtain ⟨D1, D2, D3, D4, b1, vs, b3, b4, h1, h2, h3, o⟩ := o
 obtain ⟨q1, q2, q3, q4, -⟩ := o.hi
 have hst : ∀ i, i < x.sn → ∃ t : Option Addr × Nat × Option Addr × Nat, vs i = stV (x.sS i).p t.1 (x.sS i).rs.length t.2.1 t.2.2.1 (x.sS i).os.length t.2.2.2 (x.sS i).c ∧ w.cell? ⟨D2, i * 4, none⟩ = some (.int .i64 (x.sS i).p) ∧ w.cell? ⟨D2, i * 4 + 1, none⟩ = some (.slice t.1 (x.sS i).rs.length t.2.1) ∧ w.cell? ⟨D2, i * 4 + 2, none⟩ = some (.slice t.2.2.1 (x.sS i).os.length t.2.2.2) ∧ w.cell? ⟨D2, i * 4 + 3, none⟩ = some (.int .i64 (x.sS i).c) := by
   intro i hi
   obtain ⟨ra, rc, oa, oc, e, c0, c1, c2, c3⟩ := o.ss.cel i hi
   exact ⟨(ra, rc, oa, oc), e, c0, c1, c2, c3⟩
 have inh : Inhabited (Option Addr × Nat × Option Addr × Nat) := ⟨(none, 0, none, 0)⟩
 obtain ⟨t, ht⟩ := Go.Deep.choose_lt hst
 refine ⟨⟨some ⟨D1, 0, none⟩, x.pn, x.pn, fun i => some ⟨b1 i, 0, none⟩, x.pL, x.pL, x.pH, some ⟨D2, 0, none⟩, x.sn, x.sn, fun i => ⟨(x.sS i).p, (t i).1, (t i).2.1, (x.sS i).rs, (t i).2.2.1, (t i).2.2.2, (x.sS i).os, (x.sS i).c⟩, some ⟨D3, 0, none⟩, x.wn, x.wn, fun i => some ⟨b3 i, 0, none⟩, x.wL, x.wL, x.wH, some ⟨D4, 0, none⟩, x.hn, x.hn, fun i => some ⟨b4 i, 0, none⟩, x.hL, x.hL, x.hH⟩, o.val, ?_, rfl, fun i _ => Nat.le_refl _⟩
 have l1 := o.pp.lt
 have l2 := o.ss.lt
 have l3 := o.ww.lt
 have l4 := o.hh.lt
 refine ⟨.inr ⟨D1, 0, rfl, by omega, fun i hi => ?_⟩, fun i hi => ⟨b1 i, rfl, Nat.lt_of_lt_of_le (o.pp.bd i hi).2 o.pp.le, o.pp.row i hi⟩, ⟨.inr ⟨D2, 0, rfl, by omega, fun i hi => ?_⟩, fun i hi => ?_⟩, .inr ⟨D3, 0, rfl, by omega, fun i hi => ?_⟩, fun i hi => .inr ⟨b3 i, 0, rfl, Nat.lt_of_lt_of_le (o.ww.bd i hi).2 o.ww.le, o.ww.row i hi⟩, .inr ⟨D4, 0, rfl, by omega, fun i hi => ?_⟩, fun i hi => .inr ⟨b4 i, 0, rfl, Nat.lt_of_lt_of_le (o.hh.bd i hi).2 o.hh.le, o.hh.row i hi⟩⟩
 · have := o.pp.cel i hi
   simpa using this
 · have := (ht i hi).2
   simpa using this
 · have h4 := o.ss.own i hi
   rw [(ht i hi).1] at h4
   exact ⟨h4.parts.1.slOf, h4.parts.2.1.slOf⟩
 · have := o.ww.cel i hi
   simpa using this
 · have := o.hh.cel i hi
   simpa using this
theorem SysIn.len_of {x x' : SysIn} (hs : x.size ≤ 1048576) (hy : x'.y = x.y) : x'.Len := by
 have l := SysIn.lens hs
 have e1 : x'.pn = x.pn := congrArg Sy.pn hy
 have e2 : x'.pL = x.pL := congrArg Sy.pL hy
 have e3 : x'.sn = x.sn := congrArg Sy.sn hy
 have e4 : x'.sS = x.sS := congrArg Sy.sS hy
 have e5 : x'.wn = x.wn := congrArg Sy.wn hy
 have e6 : x'.wL = x.wL := congrArg Sy.wL hy
 have e7 : x'.hn = x.hn := congrArg Sy.hn hy
 have e8 : x'.hL = x.hL := congrArg Sy.hL hy
 refine ⟨⟨by omega, fun i hi => ?_⟩, ⟨by omega, fun i hi => ?_⟩, ⟨by omega, fun i hi => ?_⟩, ⟨by omega, fun i hi => ?_⟩⟩
 · rw [e2]
   exact sum_le l.1.2 i (by omega)
 · have h1 := SysIn.lensS hs i (by omega)
   have h2 : x'.sS i = x.sS i := by rw [e4]
   have h3 : (x'.sQ i).rs = (x.sQ i).rs := congrArg S4.rs h2
   have h4 : (x'.sQ i).os = (x.sQ i).os := congrArg S4.os h2
   rw [h3, h4]
   exact h1
 · rw [e6]
   exact sum_le l.2.2.1.2 i (by omega)
 · rw [e8]
   exact sum_le l.2.2.2.2 i (by omega)
structure Px (W : World) (x : SysIn) (w : World) : Prop where
 be : Below W.heap.size W w
 bx : BoxC w W.heap.size (.slice x.pa x.pn x.pc) (.slice x.sa x.sn x.sc) (.slice x.wa x.wn x.wc) (.slice x.ha x.hn x.hc)
 lt : W.heap.size < w.heap.size
theorem Px.below {W : World} {x : SysIn} {w w' : World} (h : Px W x w) (hb : Below w.heap.size w w') : Px W x w' := ⟨h.be.trans (hb.mono (Nat.le_of_lt h.lt)), h.bx.below hb, Nat.lt_of_lt_of_le h.lt hb.size⟩
end Go.Proofs.YtdigofhceahpdaaGreatDoor
