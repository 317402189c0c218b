/- errors.As, where the error is a misfit. -/
import Derived.Test.YtdfhpimdgfemjaaGreatDoorLa28
import Derived.Test.YtdfhpimdgfemjaaGreatDoorLa34
namespace Go.Proofs.YtdfhpimdgfemjaaGreatDoor
open Go.ChangeShapes Go.WideShapes Go.ChangeAt Go.RowKit Go.Deep

theorem ShIn.lens {x : ShIn} (h : x.size ≤ 1048576) : x.cn ≤ 1048576 ∧ x.ol ≤ 1048576 ∧ x.kn ≤ 1048576 ∧ sumL x.kL x.kn ≤ 1048576 := by
  unfold ShIn.size at h
  omega
/-- Two boxes of four cells, each behind the other. -/
structure B44 (w wx : World) (a0 a1 a2 a3 c0 c1 c2 c3 : Value) : Prop where
  p : BoxC wx w.heap.size a0 a1 a2 a3
  q : BoxC wx (w.heap.size + 1) c0 c1 c2 c3
  be : Below w.heap.size w wx
  le : w.heap.size + 2 ≤ wx.heap.size
theorem B44.below {w wx w' : World} {a0 a1 a2 a3 c0 c1 c2 c3 : Value} (h : B44 w wx a0 a1 a2 a3 c0 c1 c2 c3) (hb : Below wx.heap.size wx w') : B44 w w' a0 a1 a2 a3 c0 c1 c2 c3 := ⟨h.p.below hb, h.q.below hb, h.be.trans (hb.mono h.be.size), Nat.le_trans h.le hb.size⟩
theorem B44.new (w : World) (a0 a1 a2 a3 c0 c1 c2 c3 : Value) (t : TypeId) : B44 w ((w.alloc (.cells #[a0, a1, a2, a3] t)).alloc (.cells #[c0, c1, c2, c3] t)) a0 a1 a2 a3 c0 c1 c2 c3 := by
  have n1 := BoxC.new w a0 a1 a2 a3 t
  have n2 := BoxC.new (w.alloc (.cells #[a0, a1, a2, a3] t)) c0 c1 c2 c3 t
  simp only [World.size_alloc] at n2
  exact ⟨n1.below (below_allocS _ _), n2, ((Below.refl _ _).alloc (Nat.le_refl _) _).alloc (by simp) _, by simp⟩

set_option maxRecDepth 100000 in
set_option maxHeartbeats 2000000 in
theorem eqShot_same (x : ShIn) (l1 u1 l2 u2 : Nat) (v1 v2 : Value) (w : World) (hs : x.size ≤ 1048576) (o1 : IsSh w l1 u1 x v1) (o2 : IsSh w l2 u2 x v2) :
    Calls Tryz.prog 43 #[v1, v2] w fun e w' => e = .returned (.bool true) ∧ Below w.heap.size w w' := by
  obtain ⟨E1, E2, E3, b1, o1⟩ := o1
  obtain ⟨G1, G2, G3, b2, o2⟩ := o2
  have HS : Hid (x.size ≤ 1048576) := hs
  have y1 := o1.kk.lt
  have y2 := o1.kk.le
  have y3 := o1.o1
  have y4 := o1.o2
  have z1 := o2.kk.lt
  have z2 := o2.kk.le
  have z3 := o2.o1
  have z4 := o2.o2
  have ltE : E1 < w.heap.size ∧ E2 < w.heap.size := by omega
  have ltG : G1 < w.heap.size ∧ G2 < w.heap.size := by omega
  obtain ⟨rfl, p1, -, p2, -, p3, -, -, -⟩ := o1
  obtain ⟨rfl, q1, -, q2, -, q3, -, -, -⟩ := o2
  have P : Hid (ZAt w E1 0 x.cn x.cH ∧ BlAt w E2 0 x.ol x.oH ∧ OutInt w E3 u1 x.kn x.kL b1 x.kH ∧ E1 < w.heap.size ∧ E2 < w.heap.size) := ⟨p1, p2, p3, ltE⟩
  have Q : Hid (ZAt w G1 0 x.cn x.cH ∧ BlAt w G2 0 x.ol x.oH ∧ OutInt w G3 u2 x.kn x.kL b2 x.kH ∧ G1 < w.heap.size ∧ G2 < w.heap.size) := ⟨q1, q2, q3, ltG⟩
  have hon : (x.on != x.on) = false := by simp
  clear p1 p2 p3 q1 q2 q3 ltE ltG y1 y2 y3 y4 z1 z2 z3 z4 hs
  go_enter Tryz.func43, Tryz.ntmps43
  have X0 : Hid (B44 w ((w.alloc (.cells #[.bool x.on, .slice (some ⟨E1, 0, none⟩) x.cn x.cn, .slice (some ⟨E2, 0, none⟩) x.ol x.ol, .slice (some ⟨E3, 0, none⟩) x.kn x.kn] 39)).alloc (.cells #[.bool x.on, .slice (some ⟨G1, 0, none⟩) x.cn x.cn, .slice (some ⟨G2, 0, none⟩) x.ol x.ol, .slice (some ⟨G3, 0, none⟩) x.kn x.kn] 39)) (.bool x.on) (.slice (some ⟨E1, 0, none⟩) x.cn x.cn) (.slice (some ⟨E2, 0, none⟩) x.ol x.ol) (.slice (some ⟨E3, 0, none⟩) x.kn x.kn) (.bool x.on) (.slice (some ⟨G1, 0, none⟩) x.cn x.cn) (.slice (some ⟨G2, 0, none⟩) x.ol x.ol) (.slice (some ⟨G3, 0, none⟩) x.kn x.kn)) := B44.new _ _ _ _ _ _ _ _ _ _
  obtain ⟨⟨p0, p1, p2, p3⟩, ⟨q0, q1, q2, q3⟩, -, le⟩ := X0.out
  go_wp2_with fail
  clear p0 p1 p2 p3 q0 q1 q2 q3 le
  generalize (w.alloc (.cells #[.bool x.on, .slice (some ⟨E1, 0, none⟩) x.cn x.cn, .slice (some ⟨E2, 0, none⟩) x.ol x.ol, .slice (some ⟨E3, 0, none⟩) x.kn x.kn] 39)).alloc (.cells #[.bool x.on, .slice (some ⟨G1, 0, none⟩) x.cn x.cn, .slice (some ⟨G2, 0, none⟩) x.ol x.ol, .slice (some ⟨G3, 0, none⟩) x.kn x.kn] 39) = wA at *
  refine (eqIntS_sameZ E1 G1 x.cn x.cn x.cn x.cH wA (ShIn.lens HS.out).1 (Nat.lt_of_lt_of_le P.out.2.2.2.1 X0.out.be.size) (Nat.lt_of_lt_of_le Q.out.2.2.2.1 X0.out.be.size) (P.out.1.below X0.out.be P.out.2.2.2.1) (Q.out.1.below X0.out.be Q.out.2.2.2.1)).mono ?_
  rintro e w1 ⟨rfl, b1⟩
  have X1 : Hid (B44 w w1 (.bool x.on) (.slice (some ⟨E1, 0, none⟩) x.cn x.cn) (.slice (some ⟨E2, 0, none⟩) x.ol x.ol) (.slice (some ⟨E3, 0, none⟩) x.kn x.kn) (.bool x.on) (.slice (some ⟨G1, 0, none⟩) x.cn x.cn) (.slice (some ⟨G2, 0, none⟩) x.ol x.ol) (.slice (some ⟨G3, 0, none⟩) x.kn x.kn)) := X0.out.below b1
  clear b1 X0
  obtain ⟨⟨p0, p1, p2, p3⟩, ⟨q0, q1, q2, q3⟩, -, le⟩ := X1.out
  go_wp2_with fail
  clear p0 p1 p2 p3 q0 q1 q2 q3 le
  refine (eqBoolS_sameZ E2 G2 x.ol x.ol x.ol x.oH w1 (ShIn.lens HS.out).2.1 (Nat.lt_of_lt_of_le P.out.2.2.2.2 X1.out.be.size) (Nat.lt_of_lt_of_le Q.out.2.2.2.2 X1.out.be.size) (P.out.2.1.below X1.out.be P.out.2.2.2.2) (Q.out.2.1.below X1.out.be Q.out.2.2.2.2)).mono ?_
  rintro e w2 ⟨rfl, b2⟩
  have X2 : Hid (B44 w w2 (.bool x.on) (.slice (some ⟨E1, 0, none⟩) x.cn x.cn) (.slice (some ⟨E2, 0, none⟩) x.ol x.ol) (.slice (some ⟨E3, 0, none⟩) x.kn x.kn) (.bool x.on) (.slice (some ⟨G1, 0, none⟩) x.cn x.cn) (.slice (some ⟨G2, 0, none⟩) x.ol x.ol) (.slice (some ⟨G3, 0, none⟩) x.kn x.kn)) := X1.out.below b2
  clear b2 X1
  obtain ⟨⟨p0, p1, p2, p3⟩, ⟨q0, q1, q2, q3⟩, -, le⟩ := X2.out
  go_wp2_with fail
  clear p0 p1 p2 p3 q0 q1 q2 q3 le
  refine (eqIntSS_same E3 u1 G3 u2 x.kn _ _ x.kL b1 b2 x.kH _ (ShIn.lens HS.out).2.2.1 (sum_le (ShIn.lens HS.out).2.2.2) (P.out.2.2.1.below X2.out.be P.out.2.2.1.le) (Q.out.2.2.1.below X2.out.be Q.out.2.2.1.le)).mono ?_
  rintro e w3 ⟨rfl, b3⟩
  have BE : Hid (Below w.heap.size w w3) := (X2.out.below b3).be
  clear X2 b3
  go_wp2
  go_ret
  exact ⟨rfl, BE.out⟩

/-- Two boxes of eight cells, each behind the other. -/
structure B88 (w wx : World) (a : Nat → Value) (c : Nat → Value) : Prop where
  p : ∀ i, i < 8 → wx.cell? ⟨w.heap.size, i, none⟩ = some (a i)
  q : ∀ i, i < 8 → wx.cell? ⟨w.heap.size + 1, i, none⟩ = some (c i)
  be : Below w.heap.size w wx
  le : w.heap.size + 2 ≤ wx.heap.size
theorem B88.below {w wx w' : World} {a c : Nat → Value} (h : B88 w wx a c) (hb : Below wx.heap.size wx w') : B88 w w' a c := by
  have hl := h.le
  exact ⟨fun i hi => (World.cell?_of_block (hb.block w.heap.size (by omega))).trans (h.p i hi), fun i hi => (World.cell?_of_block (hb.block (w.heap.size + 1) (by omega))).trans (h.q i hi), h.be.trans (hb.mono h.be.size), Nat.le_trans h.le hb.size⟩
theorem B88.new (w : World) (a0 a1 a2 a3 a4 a5 a6 a7 c0 c1 c2 c3 c4 c5 c6 c7 : Value) (t : TypeId) : B88 w ((w.alloc (.cells #[a0, a1, a2, a3, a4, a5, a6, a7] t)).alloc (.cells #[c0, c1, c2, c3, c4, c5, c6, c7] t)) (v8 a0 a1 a2 a3 a4 a5 a6 a7) (v8 c0 c1 c2 c3 c4 c5 c6 c7) := by
  have n1 := BoxH.new w a0 a1 a2 a3 a4 a5 a6 a7 t
  have n2 := BoxH.new (w.alloc (.cells #[a0, a1, a2, a3, a4, a5, a6, a7] t)) c0 c1 c2 c3 c4 c5 c6 c7 t
  simp only [World.size_alloc] at n2
  exact ⟨box8 (n1.below (below_allocS _ _)), box8 n2, ((Below.refl _ _).alloc (Nat.le_refl _) _).alloc (by simp) _, by simp⟩

set_option maxRecDepth 100000 in
set_option maxHeartbeats 2000000 in
theorem eqLive_same (x : LvIn) (l1 u1 l2 u2 : Nat) (v1 v2 : Value) (w : World) (hs : x.size ≤ 1048576) (o1 : IsLive w l1 u1 x v1) (o2 : IsLive w l2 u2 x v2) :
    Calls Tryz.prog 13 #[v1, v2] w fun e w' => e = .returned (.bool true) ∧ Below w.heap.size w w' := by
  have hz1 : x.s.size ≤ 1048576 := by unfold LvIn.size at hs; omega
  have hz2 : x.h.size ≤ 1048576 := by unfold LvIn.size at hs; omega
  obtain ⟨D1, D2, D3, D4, E1, E2, E3, m1, rfl, s1, h1⟩ := o1
  obtain ⟨F1, F2, F3, F4, G1, G2, G3, m2, rfl, s2, h2⟩ := o2
  have S1 : Hid (IsSys w l1 m1 x.s (sysV (some ⟨D1, 0, none⟩) x.s.pn x.s.pn (some ⟨D2, 0, none⟩) x.s.sn x.s.sn (some ⟨D3, 0, none⟩) x.s.wn x.s.wn (some ⟨D4, 0, none⟩) x.s.hn x.s.hn)) := s1
  have S2 : Hid (IsSys w l2 m2 x.s (sysV (some ⟨F1, 0, none⟩) x.s.pn x.s.pn (some ⟨F2, 0, none⟩) x.s.sn x.s.sn (some ⟨F3, 0, none⟩) x.s.wn x.s.wn (some ⟨F4, 0, none⟩) x.s.hn x.s.hn)) := s2
  have H1 : Hid (IsSh w m1 u1 x.h (shV x.h.on (some ⟨E1, 0, none⟩) x.h.cn x.h.cn (some ⟨E2, 0, none⟩) x.h.ol x.h.ol (some ⟨E3, 0, none⟩) x.h.kn x.h.kn)) := h1
  have H2 : Hid (IsSh w m2 u2 x.h (shV x.h.on (some ⟨G1, 0, none⟩) x.h.cn x.h.cn (some ⟨G2, 0, none⟩) x.h.ol x.h.ol (some ⟨G3, 0, none⟩) x.h.kn x.h.kn)) := h2
  clear s1 s2 h1 h2 hs
  go_enter Tryz.func13, Tryz.ntmps13
  have X0 : Hid (B88 w ((w.alloc (.cells #[.slice (some ⟨D1, 0, none⟩) x.s.pn x.s.pn, .slice (some ⟨D2, 0, none⟩) x.s.sn x.s.sn, .slice (some ⟨D3, 0, none⟩) x.s.wn x.s.wn, .slice (some ⟨D4, 0, none⟩) x.s.hn x.s.hn, .bool x.h.on, .slice (some ⟨E1, 0, none⟩) x.h.cn x.h.cn, .slice (some ⟨E2, 0, none⟩) x.h.ol x.h.ol, .slice (some ⟨E3, 0, none⟩) x.h.kn x.h.kn] 41)).alloc (.cells #[.slice (some ⟨F1, 0, none⟩) x.s.pn x.s.pn, .slice (some ⟨F2, 0, none⟩) x.s.sn x.s.sn, .slice (some ⟨F3, 0, none⟩) x.s.wn x.s.wn, .slice (some ⟨F4, 0, none⟩) x.s.hn x.s.hn, .bool x.h.on, .slice (some ⟨G1, 0, none⟩) x.h.cn x.h.cn, .slice (some ⟨G2, 0, none⟩) x.h.ol x.h.ol, .slice (some ⟨G3, 0, none⟩) x.h.kn x.h.kn] 41)) (v8 (.slice (some ⟨D1, 0, none⟩) x.s.pn x.s.pn) (.slice (some ⟨D2, 0, none⟩) x.s.sn x.s.sn) (.slice (some ⟨D3, 0, none⟩) x.s.wn x.s.wn) (.slice (some ⟨D4, 0, none⟩) x.s.hn x.s.hn) (.bool x.h.on) (.slice (some ⟨E1, 0, none⟩) x.h.cn x.h.cn) (.slice (some ⟨E2, 0, none⟩) x.h.ol x.h.ol) (.slice (some ⟨E3, 0, none⟩) x.h.kn x.h.kn)) (v8 (.slice (some ⟨F1, 0, none⟩) x.s.pn x.s.pn) (.slice (some ⟨F2, 0, none⟩) x.s.sn x.s.sn) (.slice (some ⟨F3, 0, none⟩) x.s.wn x.s.wn) (.slice (some ⟨F4, 0, none⟩) x.s.hn x.s.hn) (.bool x.h.on) (.slice (some ⟨G1, 0, none⟩) x.h.cn x.h.cn) (.slice (some ⟨G2, 0, none⟩) x.h.ol x.h.ol) (.slice (some ⟨G3, 0, none⟩) x.h.kn x.h.kn))) := B88.new _ _ _ _ _ _ _ _ _ _ _ _ _ _ _ _ _ _
  go_wp2_with fail
  generalize (w.alloc (.cells #[.slice (some ⟨D1, 0, none⟩) x.s.pn x.s.pn, .slice (some ⟨D2, 0, none⟩) x.s.sn x.s.sn, .slice (some ⟨D3, 0, none⟩) x.s.wn x.s.wn, .slice (some ⟨D4, 0, none⟩) x.s.hn x.s.hn, .bool x.h.on, .slice (some ⟨E1, 0, none⟩) x.h.cn x.h.cn, .slice (some ⟨E2, 0, none⟩) x.h.ol x.h.ol, .slice (some ⟨E3, 0, none⟩) x.h.kn x.h.kn] 41)).alloc (.cells #[.slice (some ⟨F1, 0, none⟩) x.s.pn x.s.pn, .slice (some ⟨F2, 0, none⟩) x.s.sn x.s.sn, .slice (some ⟨F3, 0, none⟩) x.s.wn x.s.wn, .slice (some ⟨F4, 0, none⟩) x.s.hn x.s.hn, .bool x.h.on, .slice (some ⟨G1, 0, none⟩) x.h.cn x.h.cn, .slice (some ⟨G2, 0, none⟩) x.h.ol x.h.ol, .slice (some ⟨G3, 0, none⟩) x.h.kn x.h.kn] 41) = wA at *
  refine (eqSys_same x.s l1 m1 l2 m2 _ _ wA hz1 (S1.out.below X0.out.be S1.out.hi.2) (S2.out.below X0.out.be S2.out.hi.2)).mono ?_
  rintro e w1 ⟨rfl, b1⟩
  have X1 : Hid (B88 w w1 (v8 (.slice (some ⟨D1, 0, none⟩) x.s.pn x.s.pn) (.slice (some ⟨D2, 0, none⟩) x.s.sn x.s.sn) (.slice (some ⟨D3, 0, none⟩) x.s.wn x.s.wn) (.slice (some ⟨D4, 0, none⟩) x.s.hn x.s.hn) (.bool x.h.on) (.slice (some ⟨E1, 0, none⟩) x.h.cn x.h.cn) (.slice (some ⟨E2, 0, none⟩) x.h.ol x.h.ol) (.slice (some ⟨E3, 0, none⟩) x.h.kn x.h.kn)) (v8 (.slice (some ⟨F1, 0, none⟩) x.s.pn x.s.pn) (.slice (some ⟨F2, 0, none⟩) x.s.sn x.s.sn) (.slice (some ⟨F3, 0, none⟩) x.s.wn x.s.wn) (.slice (some ⟨F4, 0, none⟩) x.s.hn x.s.hn) (.bool x.h.on) (.slice (some ⟨G1, 0, none⟩) x.h.cn x.h.cn) (.slice (some ⟨G2, 0, none⟩) x.h.ol x.h.ol) (.slice (some ⟨G3, 0, none⟩) x.h.kn x.h.kn))) := X0.out.below b1
  clear b1 X0
  have p4 := X1.out.p 4 (by omega)
  have p5 := X1.out.p 5 (by omega)
  have p6 := X1.out.p 6 (by omega)
  have p7 := X1.out.p 7 (by omega)
  have q4 := X1.out.q 4 (by omega)
  have q5 := X1.out.q 5 (by omega)
  have q6 := X1.out.q 6 (by omega)
  have q7 := X1.out.q 7 (by omega)
  simp only [v8] at p4 p5 p6 p7 q4 q5 q6 q7
  go_wp2_with fail
  clear p4 p5 p6 p7 q4 q5 q6 q7
  refine (eqShot_same x.h m1 u1 m2 u2 _ _ w1 hz2 (H1.out.below X1.out.be H1.out.hi.2) (H2.out.below X1.out.be H2.out.hi.2)).mono ?_
  rintro e w2 ⟨rfl, b2⟩
  have BE : Hid (Below w.heap.size w w2) := X1.out.be.trans (b2.mono X1.out.be.size)
  clear b2 X1
  go_wp2
  go_ret
  exact ⟨rfl, BE.out⟩

set_option maxRecDepth 100000 in
set_option maxHeartbeats 2000000 in
theorem markShot_any (x : ShIn) (lo hi : Nat) (v : Value) (k : Int) (w : World) (hs : x.size ≤ 1048576) (k0 : 0 ≤ k) (k1 : k ≤ 30000000) (o : IsSh w lo hi x v) :
    Calls Tryz.prog 52 #[v, .int .i64 k] w fun e w' => (∃ z : Int, e = .returned (.int .i64 z) ∧ ¬ z < 0) ∧ Touch (fun b => lo ≤ b ∧ b < hi) w w' := by
  obtain ⟨E1, E2, E3, bs, o⟩ := o
  have HL : Hid (x.cn ≤ 1048576 ∧ x.ol ≤ 1048576 ∧ x.kn ≤ 1048576 ∧ sumL x.kL x.kn ≤ 1048576) := ShIn.lens hs
  have Y : Hid (lo ≤ E1 ∧ E1 < E2 ∧ E2 < E3 ∧ E3 < hi ∧ hi ≤ w.heap.size) := ⟨o.lo, o.o1, o.o2, o.kk.lt, o.kk.le⟩
  have R1 : Hid (Room1 w E1 x.cn) := Room1.of_z o.cc o.cf
  have R2 : Hid (Room1 w E2 x.ol) := Room1.of_b o.oo o.fo
  have R3 : Hid (OutInt w E3 hi x.kn x.kL bs x.kH) := o.kk
  obtain ⟨rfl, -, -, -, -, -, -, -, -⟩ := o
  clear hs
  have X0 : Hid (Touch (fun b => lo ≤ b ∧ b < hi) w (w.alloc (.cells #[.bool x.on, .slice (some ⟨E1, 0, none⟩) x.cn x.cn, .slice (some ⟨E2, 0, none⟩) x.ol x.ol, .slice (some ⟨E3, 0, none⟩) x.kn x.kn] 39)) ∧ BoxC (w.alloc (.cells #[.bool x.on, .slice (some ⟨E1, 0, none⟩) x.cn x.cn, .slice (some ⟨E2, 0, none⟩) x.ol x.ol, .slice (some ⟨E3, 0, none⟩) x.kn x.kn] 39)) w.heap.size (.bool x.on) (.slice (some ⟨E1, 0, none⟩) x.cn x.cn) (.slice (some ⟨E2, 0, none⟩) x.ol x.ol) (.slice (some ⟨E3, 0, none⟩) x.kn x.kn) ∧ w.heap.size < (w.alloc (.cells #[.bool x.on, .slice (some ⟨E1, 0, none⟩) x.cn x.cn, .slice (some ⟨E2, 0, none⟩) x.ol x.ol, .slice (some ⟨E3, 0, none⟩) x.kn x.kn] 39)).heap.size ∧ Below w.heap.size w (w.alloc (.cells #[.bool x.on, .slice (some ⟨E1, 0, none⟩) x.cn x.cn, .slice (some ⟨E2, 0, none⟩) x.ol x.ol, .slice (some ⟨E3, 0, none⟩) x.kn x.kn] 39))) := ⟨Touch.of_below (below_allocS _ _), BoxC.new w _ _ _ _ _, by simp, below_allocS _ _⟩
  go_enter Tryz.func52, Tryz.ntmps52
  go_wp2_with fail
  generalize w.alloc (.cells #[.bool x.on, .slice (some ⟨E1, 0, none⟩) x.cn x.cn, .slice (some ⟨E2, 0, none⟩) x.ol x.ol, .slice (some ⟨E3, 0, none⟩) x.kn x.kn] 39) = wA at *
  have rm : ∀ {b n : Nat}, b < w.heap.size → Room1 w b n → Room1 wA b n := fun {b n} hb h => ⟨fun i hi => (h.1 i hi).elim fun u e => ⟨u, (X0.out.2.2.2.cell (p := ⟨b, i, none⟩) hb).trans e⟩, fun j => (hb_frozen X0.out.2.2.2 hb j).trans (h.2 j)⟩
  have RA1 : Hid (Room1 wA E1 x.cn) := rm (by have := Y.out; omega) R1.out
  have RA2 : Hid (Room1 wA E2 x.ol) := rm (by have := Y.out; omega) R2.out
  have RA3 : Hid (OutInt wA E3 hi x.kn x.kL bs x.kH) := R3.out.below X0.out.2.2.2 (by have := Y.out; omega)
  clear rm R1 R2 R3
  refine (markIntS_anyZ E1 x.cn x.cn k wA HL.out.1 k0 (by omega) RA1.out).mono ?_
  rintro e w1 ⟨rfl, g1⟩
  have t1 : Touch (fun b => lo ≤ b ∧ b < hi) wA w1 := Touch.of_grown g1 fun b e => by have := Y.out; injection e; omega
  have X1 : Hid (Touch (fun b => lo ≤ b ∧ b < hi) w w1 ∧ BoxC w1 w.heap.size (.bool x.on) (.slice (some ⟨E1, 0, none⟩) x.cn x.cn) (.slice (some ⟨E2, 0, none⟩) x.ol x.ol) (.slice (some ⟨E3, 0, none⟩) x.kn x.kn) ∧ w.heap.size < w1.heap.size) := by
    refine ⟨X0.out.1.trans t1, ?_, Nat.lt_of_lt_of_le X0.out.2.2.1 g1.size⟩
    obtain ⟨h0, h1, h2, h3⟩ := X0.out.2.1
    have hc : ∀ i, w1.cell? ⟨w.heap.size, i, none⟩ = wA.cell? ⟨w.heap.size, i, none⟩ := fun i => World.cell?_of_block (g1.block w.heap.size X0.out.2.2.1 (fun e => by have := Y.out; injection e; omega))
    exact ⟨(hc _).trans h0, (hc _).trans h1, (hc _).trans h2, (hc _).trans h3⟩
  have RB2 : Hid (Room1 w1 E2 x.ol) := by
    have hb : w1.heap[E2]? = wA.heap[E2]? := g1.block E2 (by have := Y.out; have := X0.out.2.2.1; omega) (fun e => by have := Y.out; injection e; omega)
    exact ⟨fun i hi => (RA2.out.1 i hi).elim fun u e => ⟨u, (World.cell?_of_block hb).trans e⟩, fun i => (World.frozen?_of_block hb).trans (RA2.out.2 i)⟩
  have RB3 : Hid (OutInt w1 E3 hi x.kn x.kL bs x.kH) := RA3.out.keep g1.size fun b h1 h2 => g1.block b (by have := Y.out; have := X0.out.2.2.1; omega) (fun e => by have := Y.out; injection e; omega)
  clear t1 g1 X0 RA1 RA2 RA3
  generalize e1 : k + (x.cn : Int) = K1
  have HK1 : Hid (0 ≤ K1 ∧ K1 ≤ 40000000) := by
    show 0 ≤ K1 ∧ K1 ≤ 40000000
    have := HL.out
    omega
  clear e1 k0 k1
  obtain ⟨-, ⟨p0, p1, p2, p3⟩, lt⟩ := X1.out
  go_wp2_with fail
  clear p0 p1 p2 p3 lt
  refine (markBoolS_anyZ E2 x.ol x.ol K1 w1 HL.out.2.1 HK1.out.1 (by have := HK1.out; omega) RB2.out).mono ?_
  rintro e w2 ⟨rfl, g2⟩
  have t2 : Touch (fun b => lo ≤ b ∧ b < hi) w1 w2 := Touch.of_grown g2 fun b e => by have := Y.out; injection e; omega
  have X2 : Hid (Touch (fun b => lo ≤ b ∧ b < hi) w w2 ∧ BoxC w2 w.heap.size (.bool x.on) (.slice (some ⟨E1, 0, none⟩) x.cn x.cn) (.slice (some ⟨E2, 0, none⟩) x.ol x.ol) (.slice (some ⟨E3, 0, none⟩) x.kn x.kn) ∧ w.heap.size < w2.heap.size) := by
    refine ⟨X1.out.1.trans t2, ?_, Nat.lt_of_lt_of_le X1.out.2.2 g2.size⟩
    obtain ⟨h0, h1, h2, h3⟩ := X1.out.2.1
    have hc : ∀ i, w2.cell? ⟨w.heap.size, i, none⟩ = w1.cell? ⟨w.heap.size, i, none⟩ := fun i => World.cell?_of_block (g2.block w.heap.size X1.out.2.2 (fun e => by have := Y.out; injection e; omega))
    exact ⟨(hc _).trans h0, (hc _).trans h1, (hc _).trans h2, (hc _).trans h3⟩
  have RC3 : Hid (OutInt w2 E3 hi x.kn x.kL bs x.kH) := RB3.out.keep g2.size fun b h1 h2 => g2.block b (by have := Y.out; have := X1.out.2.2; omega) (fun e => by have := Y.out; injection e; omega)
  clear t2 g2 X1 RB2 RB3
  generalize e2 : K1 + (x.ol : Int) = K2
  have HK2 : Hid (0 ≤ K2 ∧ K2 ≤ 45000000) := by
    show 0 ≤ K2 ∧ K2 ≤ 45000000
    have := HL.out
    have := HK1.out
    omega
  clear e2 HK1
  obtain ⟨-, ⟨p0, p1, p2, p3⟩, lt⟩ := X2.out
  go_wp2_with fail
  clear p0 p1 p2 p3 lt
  refine (markIntSS_any E3 hi x.kn x.kn x.kL bs x.kH K2 w2 HL.out.2.2.1 HL.out.2.2.2 HK2.out.1 (by have := HK2.out; omega) RC3.out).mono ?_
  rintro e w3 ⟨rfl, t3⟩
  have X3 : Hid (Touch (fun b => lo ≤ b ∧ b < hi) w w3) := X2.out.1.trans (t3.mono fun b hb => by have := Y.out; omega)
  have HZ : Hid (¬ K2 + (sumL x.kL x.kn : Nat) < 0) := by
    show ¬ K2 + (sumL x.kL x.kn : Nat) < 0
    have := HK2.out
    omega
  generalize K2 + (sumL x.kL x.kn : Nat) = Z4 at *
  clear t3 X2 RC3 HK2
  go_wp2
  go_ret
  exact ⟨⟨_, rfl, HZ.out⟩, X3.out⟩

set_option maxRecDepth 100000 in
set_option maxHeartbeats 2000000 in
theorem markLive_any (x : LvIn) (lo hi : Nat) (v : Value) (w : World) (hs : x.size ≤ 1048576) (o : IsLive w lo hi x v) :
    Calls Tryz.prog 16 #[v, .int .i64 1] w fun e w' => (∃ z : Int, e = .returned (.int .i64 z) ∧ ¬ z < 0) ∧ Touch (fun b => lo ≤ b ∧ b < hi) w w' := by
  have hz1 : x.s.size ≤ 1048576 := by unfold LvIn.size at hs; omega
  have hz2 : x.h.size ≤ 1048576 := by unfold LvIn.size at hs; omega
  obtain ⟨D1, D2, D3, D4, E1, E2, E3, m, rfl, s1, h1⟩ := o
  have Y : Hid (lo < m ∧ m < hi ∧ hi ≤ w.heap.size) := ⟨s1.hi.1, h1.hi.1, h1.hi.2⟩
  have S1 : Hid (IsSys w lo m x.s (sysV (some ⟨D1, 0, none⟩) x.s.pn x.s.pn (some ⟨D2, 0, none⟩) x.s.sn x.s.sn (some ⟨D3, 0, none⟩) x.s.wn x.s.wn (some ⟨D4, 0, none⟩) x.s.hn x.s.hn)) := s1
  have H1 : Hid (IsSh w m hi x.h (shV x.h.on (some ⟨E1, 0, none⟩) x.h.cn x.h.cn (some ⟨E2, 0, none⟩) x.h.ol x.h.ol (some ⟨E3, 0, none⟩) x.h.kn x.h.kn)) := h1
  clear s1 h1 hs
  have X0 : Hid (Below w.heap.size w (w.alloc (.cells #[.slice (some ⟨D1, 0, none⟩) x.s.pn x.s.pn, .slice (some ⟨D2, 0, none⟩) x.s.sn x.s.sn, .slice (some ⟨D3, 0, none⟩) x.s.wn x.s.wn, .slice (some ⟨D4, 0, none⟩) x.s.hn x.s.hn, .bool x.h.on, .slice (some ⟨E1, 0, none⟩) x.h.cn x.h.cn, .slice (some ⟨E2, 0, none⟩) x.h.ol x.h.ol, .slice (some ⟨E3, 0, none⟩) x.h.kn x.h.kn] 41)) ∧ BoxH (w.alloc (.cells #[.slice (some ⟨D1, 0, none⟩) x.s.pn x.s.pn, .slice (some ⟨D2, 0, none⟩) x.s.sn x.s.sn, .slice (some ⟨D3, 0, none⟩) x.s.wn x.s.wn, .slice (some ⟨D4, 0, none⟩) x.s.hn x.s.hn, .bool x.h.on, .slice (some ⟨E1, 0, none⟩) x.h.cn x.h.cn, .slice (some ⟨E2, 0, none⟩) x.h.ol x.h.ol, .slice (some ⟨E3, 0, none⟩) x.h.kn x.h.kn] 41)) w.heap.size (.slice (some ⟨D1, 0, none⟩) x.s.pn x.s.pn) (.slice (some ⟨D2, 0, none⟩) x.s.sn x.s.sn) (.slice (some ⟨D3, 0, none⟩) x.s.wn x.s.wn) (.slice (some ⟨D4, 0, none⟩) x.s.hn x.s.hn) (.bool x.h.on) (.slice (some ⟨E1, 0, none⟩) x.h.cn x.h.cn) (.slice (some ⟨E2, 0, none⟩) x.h.ol x.h.ol) (.slice (some ⟨E3, 0, none⟩) x.h.kn x.h.kn)) := ⟨below_allocS _ _, BoxH.new _ _ _ _ _ _ _ _ _ _⟩
  go_enter Tryz.func16, Tryz.ntmps16
  go_wp2_with fail
  generalize w.alloc (.cells #[.slice (some ⟨D1, 0, none⟩) x.s.pn x.s.pn, .slice (some ⟨D2, 0, none⟩) x.s.sn x.s.sn, .slice (some ⟨D3, 0, none⟩) x.s.wn x.s.wn, .slice (some ⟨D4, 0, none⟩) x.s.hn x.s.hn, .bool x.h.on, .slice (some ⟨E1, 0, none⟩) x.h.cn x.h.cn, .slice (some ⟨E2, 0, none⟩) x.h.ol x.h.ol, .slice (some ⟨E3, 0, none⟩) x.h.kn x.h.kn] 41) = wA at *
  refine (markSys_le x.s lo m _ wA hz1 (S1.out.below X0.out.1 (by have := Y.out; omega))).mono ?_
  rintro e w1 ⟨⟨z, rfl, hz0, hz9⟩, t1⟩
  have X1 : Hid (Touch (fun b => lo ≤ b ∧ b < hi) w w1 ∧ BoxH w1 w.heap.size (.slice (some ⟨D1, 0, none⟩) x.s.pn x.s.pn) (.slice (some ⟨D2, 0, none⟩) x.s.sn x.s.sn) (.slice (some ⟨D3, 0, none⟩) x.s.wn x.s.wn) (.slice (some ⟨D4, 0, none⟩) x.s.hn x.s.hn) (.bool x.h.on) (.slice (some ⟨E1, 0, none⟩) x.h.cn x.h.cn) (.slice (some ⟨E2, 0, none⟩) x.h.ol x.h.ol) (.slice (some ⟨E3, 0, none⟩) x.h.kn x.h.kn) ∧ w.heap.size < w1.heap.size) := ⟨(Touch.of_below X0.out.1).trans (t1.mono fun b hb => by have := Y.out; omega), X0.out.2.blk (t1.block _ X0.out.2.lt (fun e => by have := Y.out; omega)), Nat.lt_of_lt_of_le X0.out.2.lt t1.size⟩
  have H2 : Hid (IsSh w1 m hi x.h (shV x.h.on (some ⟨E1, 0, none⟩) x.h.cn x.h.cn (some ⟨E2, 0, none⟩) x.h.ol x.h.ol (some ⟨E3, 0, none⟩) x.h.kn x.h.kn)) := (H1.out.below X0.out.1 (by have := Y.out; omega)).keep t1.size fun b h1 h2 => t1.block b (by have := X0.out.2.lt; have := Y.out; omega) (fun e => by omega)
  have HZ : Hid (0 ≤ z ∧ z ≤ 30000000) := ⟨by omega, hz9⟩
  clear t1 X0 H1 S1 hz0 hz9
  obtain ⟨-, ⟨p0, p1, p2, p3, p4, p5, p6, p7⟩, lt⟩ := X1.out
  go_wp2_with fail
  clear p0 p1 p2 p3 p4 p5 p6 p7 lt
  refine (markShot_any x.h m hi _ z w1 hz2 HZ.out.1 HZ.out.2 H2.out).mono ?_
  rintro e w2 ⟨⟨z2, rfl, hz2'⟩, t2⟩
  have X2 : Hid (Touch (fun b => lo ≤ b ∧ b < hi) w w2 ∧ ¬ z2 < 0) := ⟨X1.out.1.trans (t2.mono fun b hb => by have := Y.out; omega), hz2'⟩
  clear t2 X1 H2 hz2' HZ
  go_wp2
  go_ret
  exact ⟨⟨_, rfl, X2.out.2⟩, X2.out.1⟩

end Go.Proofs.YtdfhpimdgfemjaaGreatDoor

namespace Go.Proofs.YtdfhpimdgfemjaaGreatDoor
open Go.ChangeShapes Go.WideShapes Go.ChangeAt Go.RowKit Go.Deep

set_option maxRecDepth 100000 in
/-- Four cells that read as a system. -/
theorem open_sysC {H : Type} {enc : TypeId × Value → H} {w : World} {base : Nat} {held : Bool} {fuel : Nat} {c0 c1 c2 c3 : Value} {dp : DataW H × List MemPlace}
    (hf' : DataW.trod enc Tryz.prog w base (fun _ => true) held fuel 27 [c0, c1, c2, c3] = some dp) :
    ∃ x : SysIn, Value.agg #[c0, c1, c2, c3] = sysV x.pa x.pn x.pc x.sa x.sn x.sc x.wa x.wn x.wc x.ha x.hn x.hc ∧ x.Row w ∧ x.Max ∧ (x.size ≤ 1048576 → ∃ y : SysIn, Value.agg #[c0, c1, c2, c3] = sysV y.pa y.pn y.pc y.sa y.sn y.sc y.wa y.wn y.wc y.ha y.hn y.hc ∧ y.Ok w ∧ y.size = x.size) := by
  obtain ⟨xs, m, -, -, -, hl, hx⟩ := DataW.trod_struct Tryz.underlying27 hf'
  have hl : xs.length = 4 := hl
  have k0 : Tryz.prog.cellsOf 22 = 1 := by kernel_rfl
  have k1 : Tryz.prog.cellsOf 23 = 1 := by kernel_rfl
  have k2 : Tryz.prog.cellsOf 24 = 1 := by kernel_rfl
  have k3 : Tryz.prog.cellsOf 25 = 1 := by kernel_rfl
  have q0 : DataW.trod enc Tryz.prog w base (fun _ => true) held m 22 [c0] = xs[0]? := by simpa [k0] using hx 0 _ rfl
  have q1 : DataW.trod enc Tryz.prog w base (fun _ => true) held m 23 [c1] = xs[1]? := by simpa [k1] using hx 1 _ rfl
  have q2 : DataW.trod enc Tryz.prog w base (fun _ => true) held m 24 [c2] = xs[2]? := by simpa [k2] using hx 2 _ rfl
  have q3 : DataW.trod enc Tryz.prog w base (fun _ => true) held m 25 [c3] = xs[3]? := by simpa [k3] using hx 3 _ rfl
  rw [List.getElem?_eq_getElem (by omega)] at q0 q1 q2 q3
  have sl : ∀ {t el : TypeId} {c : Value} {y : DataW H × List MemPlace}, Tryz.prog.underlying t = some (.slice el) → DataW.trod enc Tryz.prog w base (fun _ => true) held m t [c] = some y → ∃ a l k, c = .slice a l k := by
    intro t el c y hu hy
    rcases Go.Deep.open_slice hu hy with ⟨hcs, _⟩ | ⟨a, len', cap', m, n, D, Pl, hcs, _⟩
    · simp at hcs
      exact ⟨_, _, _, hcs⟩
    · simp at hcs
      exact ⟨_, _, _, hcs⟩
  obtain ⟨pa, pn, pc, rfl⟩ := sl Tryz.underlying22 q0
  obtain ⟨sa, sn, sc, rfl⟩ := sl Tryz.underlying23 q1
  obtain ⟨wa, wn, wc, rfl⟩ := sl Tryz.underlying24 q2
  obtain ⟨ha, hn, hc, rfl⟩ := sl Tryz.underlying25 q3
  obtain ⟨m0, pA, pL, pC, r0, x0, g0⟩ := open_InsSS (d := (xs[0]'(by omega)).1) (p := (xs[0]'(by omega)).2) ⟨m, by simpa [Value.cells] using q0⟩
  obtain ⟨m1, sQ, r1, x1⟩ := open_StateS (d := (xs[1]'(by omega)).1) (p := (xs[1]'(by omega)).2) ⟨m, by simpa [Value.cells] using q1⟩
  obtain ⟨m2, wA, wL, wC, r2, x2, g2⟩ := open_ItemSS (d := (xs[2]'(by omega)).1) (p := (xs[2]'(by omega)).2) ⟨m, by simpa [Value.cells] using q2⟩
  obtain ⟨m3, hA, hL, hC, r3, x3, g3⟩ := open_EventSS (d := (xs[3]'(by omega)).1) (p := (xs[3]'(by omega)).2) ⟨m, by simpa [Value.cells] using q3⟩
  refine ⟨⟨pa, pn, pc, pA, pL, pC, fun _ _ => ⟨0, 0, 0, 0, 0⟩, sa, sn, sc, sQ, wa, wn, wc, wA, wL, wC, fun _ _ => ⟨false, 0⟩, ha, hn, hc, hA, hL, hC, fun _ _ => ⟨0, 0, 0⟩⟩, rfl, ⟨r0, r1, r2, r3⟩, ⟨⟨m0, x0⟩, ⟨m1, x1⟩, ⟨m2, x2⟩, ⟨m3, x3⟩⟩, fun hs => ?_⟩
  have hl := SysIn.lens hs
  obtain ⟨pH, a0⟩ := g0 (sum_le hl.1.2)
  obtain ⟨wH, a2⟩ := g2 (sum_le hl.2.2.1.2)
  obtain ⟨hH, a3⟩ := g3 (sum_le hl.2.2.2.2)
  exact ⟨⟨pa, pn, pc, pA, pL, pC, pH, sa, sn, sc, sQ, wa, wn, wc, wA, wL, wC, wH, ha, hn, hc, hA, hL, hC, hH⟩, rfl, ⟨a0, r1, a2, a3⟩, rfl⟩

set_option maxRecDepth 100000 in
/-- Four cells that read as a shot. -/
theorem open_shotC {H : Type} {enc : TypeId × Value → H} {w : World} {base : Nat} {held : Bool} {fuel : Nat} {c0 c1 c2 c3 : Value} {dp : DataW H × List MemPlace}
    (hf' : DataW.trod enc Tryz.prog w base (fun _ => true) held fuel 49 [c0, c1, c2, c3] = some dp) :
    ∃ x : ShIn, Value.agg #[c0, c1, c2, c3] = shV x.on x.ca x.cn x.cc x.oa x.ol x.oc x.ka x.kn x.kc ∧ x.Row w ∧ x.Max ∧ (x.size ≤ 1048576 → ∃ y : ShIn, Value.agg #[c0, c1, c2, c3] = shV y.on y.ca y.cn y.cc y.oa y.ol y.oc y.ka y.kn y.kc ∧ y.Ok w ∧ y.size = x.size) := by
  obtain ⟨xs, m, -, -, -, hl, hx⟩ := DataW.trod_struct Tryz.underlying49 hf'
  have hl : xs.length = 4 := hl
  have k0 : Tryz.prog.cellsOf 4 = 1 := by kernel_rfl
  have k1 : Tryz.prog.cellsOf 35 = 1 := by kernel_rfl
  have k2 : Tryz.prog.cellsOf 36 = 1 := by kernel_rfl
  have k3 : Tryz.prog.cellsOf 37 = 1 := by kernel_rfl
  have q0 : DataW.trod enc Tryz.prog w base (fun _ => true) held m 4 [c0] = xs[0]? := by simpa [k0] using hx 0 _ rfl
  have q1 : DataW.trod enc Tryz.prog w base (fun _ => true) held m 35 [c1] = xs[1]? := by simpa [k0, k1] using hx 1 _ rfl
  have q2 : DataW.trod enc Tryz.prog w base (fun _ => true) held m 36 [c2] = xs[2]? := by simpa [k0, k1, k2] using hx 2 _ rfl
  have q3 : DataW.trod enc Tryz.prog w base (fun _ => true) held m 37 [c3] = xs[3]? := by simpa [k0, k1, k2, k3] using hx 3 _ rfl
  rw [List.getElem?_eq_getElem (by omega)] at q0 q1 q2 q3
  have sl : ∀ {t el : TypeId} {c : Value} {y : DataW H × List MemPlace}, Tryz.prog.underlying t = some (.slice el) → DataW.trod enc Tryz.prog w base (fun _ => true) held m t [c] = some y → ∃ a l k, c = .slice a l k := by
    intro t el c y hu hy
    rcases Go.Deep.open_slice hu hy with ⟨hcs, _⟩ | ⟨a, len', cap', m, n, D, Pl, hcs, _⟩
    · simp at hcs
      exact ⟨_, _, _, hcs⟩
    · simp at hcs
      exact ⟨_, _, _, hcs⟩
  obtain ⟨on, e0, -⟩ := DataW.trod_bool Tryz.underlying4 q0
  simp only [List.cons.injEq, and_true] at e0
  subst e0
  obtain ⟨ca, cn, cc, rfl⟩ := sl Tryz.underlying35 q1
  obtain ⟨oa, ol, oc, rfl⟩ := sl Tryz.underlying36 q2
  obtain ⟨ka, kn, kc, rfl⟩ := sl Tryz.underlying37 q3
  obtain ⟨m1, r1⟩ := open_zRow (d := (xs[1]'(by omega)).1) (p := (xs[1]'(by omega)).2) ⟨m, by simpa [Value.cells] using q1⟩
  obtain ⟨m2, r2⟩ := open_bRow (d := (xs[2]'(by omega)).1) (p := (xs[2]'(by omega)).2) ⟨m, by simpa [Value.cells] using q2⟩
  obtain ⟨m3, kA, kL, kC, r3, x3, g3⟩ := open_IntSS (d := (xs[3]'(by omega)).1) (p := (xs[3]'(by omega)).2) ⟨m, by simpa [Value.cells] using q3⟩
  refine ⟨⟨on, ca, cn, cc, fun _ => 0, oa, ol, oc, fun _ => false, ka, kn, kc, kA, kL, kC, fun _ _ => 0⟩, rfl, r3, ⟨m1, m2, ⟨m3, x3⟩⟩, fun hs => ?_⟩
  have hl := ShIn.lens hs
  obtain ⟨cH, a1⟩ := copiesZ_of (cap := cc) hl.1 r1
  obtain ⟨oH, a2⟩ := copiesB_of (cap := oc) hl.2.1 r2
  obtain ⟨kH, a3⟩ := g3 (sum_le hl.2.2.2)
  exact ⟨⟨on, ca, cn, cc, cH, oa, ol, oc, oH, ka, kn, kc, kA, kL, kC, kH⟩, rfl, ⟨a1, a2, a3⟩, rfl⟩

theorem array8 {α : Type} {a : Array α} (h : a.size = 8) : ∃ c0 c1 c2 c3 c4 c5 c6 c7, a = #[c0, c1, c2, c3, c4, c5, c6, c7] := by
  obtain ⟨l⟩ := a
  simp at h
  match l, h with
  | [c0, c1, c2, c3, c4, c5, c6, c7], _ => exact ⟨c0, c1, c2, c3, c4, c5, c6, c7, rfl⟩

set_option maxRecDepth 100000 in
/-- A live system that came in. -/
theorem open_live {H : Type} {enc : TypeId × Value → H} {w : World} {base b0 : Nat} {held : Bool} {rc : Reach} {v : Value} {d : DataW H} {p : List MemPlace}
    (hv : Value.okWide Tryz.prog w rc b0 51 v) (h : DataW.Trod enc Tryz.prog w base (fun _ => true) held 51 v d p) :
    ∃ x : LvIn, v = x.v ∧ x.Row w ∧ x.Max ∧ (x.size ≤ 1048576 → ∃ y : LvIn, v = y.v ∧ y.Ok w ∧ y.size ≤ 1048576) := by
  obtain ⟨cs, rfl, hsz⟩ := okWide_struct Tryz.underlying51 hv
  have h8 : Tryz.prog.cellsOf 51 = 8 := by kernel_rfl
  obtain ⟨c0, c1, c2, c3, c4, c5, c6, c7, rfl⟩ := array8 (hsz.trans h8)
  obtain ⟨fuel, hf⟩ := h
  have hf' : DataW.trod enc Tryz.prog w base (fun _ => true) held fuel 51 [c0, c1, c2, c3, c4, c5, c6, c7] = some (d, p) := by simpa [Value.cells] using hf
  obtain ⟨xs, m, -, -, -, hl, hx⟩ := DataW.trod_struct Tryz.underlying51 hf'
  have hl : xs.length = 2 := hl
  have k0 : Tryz.prog.cellsOf 27 = 4 := by kernel_rfl
  have k1 : Tryz.prog.cellsOf 49 = 4 := by kernel_rfl
  have q0 : DataW.trod enc Tryz.prog w base (fun _ => true) held m 27 [c0, c1, c2, c3] = xs[0]? := by simpa [k0] using hx 0 _ rfl
  have q1 : DataW.trod enc Tryz.prog w base (fun _ => true) held m 49 [c4, c5, c6, c7] = xs[1]? := by simpa [k0, k1] using hx 1 _ rfl
  rw [List.getElem?_eq_getElem (by omega)] at q0 q1
  obtain ⟨x, e1, r1, m1, g1⟩ := open_sysC q0
  obtain ⟨z, e2, r2, m2, g2⟩ := open_shotC q1
  simp only [Value.agg.injEq, Array.mk.injEq, List.cons.injEq, and_true] at e1 e2
  obtain ⟨rfl, rfl, rfl, rfl⟩ := e1
  obtain ⟨rfl, rfl, rfl, rfl⟩ := e2
  refine ⟨⟨x, z⟩, rfl, ⟨r1, r2⟩, ⟨m1, m2⟩, fun hs => ?_⟩
  have hs' : x.size + z.size ≤ 1048576 := hs
  obtain ⟨y1, f1, o1, z1⟩ := g1 (by omega)
  obtain ⟨y2, f2, o2, z2⟩ := g2 (by omega)
  simp only [Value.agg.injEq, Array.mk.injEq, List.cons.injEq, and_true] at f1 f2
  obtain ⟨a1, a2, a3, a4⟩ := f1
  obtain ⟨b1, b2, b3, b4⟩ := f2
  refine ⟨⟨y1, y2⟩, ?_, ⟨o1, o2⟩, by show y1.size + y2.size ≤ 1048576; omega⟩
  show Value.agg #[.slice x.pa x.pn x.pc, .slice x.sa x.sn x.sc, .slice x.wa x.wn x.wc, .slice x.ha x.hn x.hc, .bool z.on, .slice z.ca z.cn z.cc, .slice z.oa z.ol z.oc, .slice z.ka z.kn z.kc] = .agg #[.slice y1.pa y1.pn y1.pc, .slice y1.sa y1.sn y1.sc, .slice y1.wa y1.wn y1.wc, .slice y1.ha y1.hn y1.hc, .bool y2.on, .slice y2.ca y2.cn y2.cc, .slice y2.oa y2.ol y2.oc, .slice y2.ka y2.kn y2.kc]
  rw [a1, a2, a3, a4, b1, b2, b3, b4]

end Go.Proofs.YtdfhpimdgfemjaaGreatDoor

namespace Go.Proofs.YtdfhpimdgfemjaaGreatDoor
open Go.RowKit Go.Extern.Stop Go.Stop Go.Extern

theorem elemVT (a p : Addr) (W : World) (ha : W.cell? a = some (.pointer (some p))) :
    (ReflectliteValue.method (ReflectliteValue.valueError "reflectlite.Value.Elem" 0) ReflectliteValue.elem #[.agg #[.pointer (some ⟨1, 261, none⟩), .pointer (some a), .int .u64 150]]).run Tryz.prog W
      = .ok (.agg #[.pointer (some ⟨1, 259, none⟩), .pointer (some p), .int .u64 409]) W := by
  rw [rlm]
  simp only [Sem.run_bind, partsT, Result.andThen]
  simp [ReflectliteValue.elem, loadVar, isAgg, underlying, Tryz.underlying261, ha, Result.andThen, elemOfT, mkE]
theorem rls (v x : Value) : ReflectliteValue.set #[v, x] = (do
    let (some (dst, a, fl), some (src, b, _)) := (← ReflectliteValue.parts v, ← ReflectliteValue.parts x)
      | unsupported (.noEntry "extern/(internal/reflectlite.Value).Set.zeroValue")
    if fl / ReflectliteValue.flagAddr % 2 == 0 then unsupported (.noEntry "extern/(internal/reflectlite.Value).Set.unaddressable")
    let val ← loadVar src b
    if ← Rtype.directlyAssignable dst src then storeVar dst a val
    else if ← Rtype.implements dst src then
      if (← Rtype.kind src) == 20 then
        match val with
        | .nilIface => unsupported (.noEntry "extern/reflectlite: a nil value of one interface type handed on as a value of another")
        | _ => storeVar dst a val
      else storeVar dst a (.iface src val)
    else panicString ("reflectlite.Set: value of type " ++ (← Rtype.spelt src) ++ " is not assignable to type " ++ (← Rtype.spelt dst))
    pure (.tuple #[])) := rfl
theorem partsEa (a : Addr) (w : World) : (ReflectliteValue.parts (.agg #[.pointer (some ⟨1, 259, none⟩), .pointer (some a), .int .u64 409])).run Tryz.prog w = .ok (some (259, a, 409)) w := by kernel_rfl
theorem partsE (a : Addr) (w : World) : (ReflectliteValue.parts (.agg #[.pointer (some ⟨1, 259, none⟩), .pointer (some a), .int .u64 153])).run Tryz.prog w = .ok (some (259, a, 153)) w := by kernel_rfl
theorem directE (w : World) : (Rtype.directlyAssignable 259 259).run Tryz.prog w = .ok true w := by kernel_rfl
theorem aggE (w : World) : (isAgg 259).run Tryz.prog w = .ok true w := by kernel_rfl
theorem sizeE (w : World) : (sizeOf 259).run Tryz.prog w = .ok 1 w := by kernel_rfl
theorem setE (ta b : Addr) (x : Int) (old : Value) (W : World) (hb : W.cell? b = some (.int .i64 x)) (ht : W.cell? ta = some old) (hf : W.frozen? ta = false) :
    (ReflectliteValue.set #[.agg #[.pointer (some ⟨1, 259, none⟩), .pointer (some ta), .int .u64 409], .agg #[.pointer (some ⟨1, 259, none⟩), .pointer (some b), .int .u64 153]]).run Tryz.prog W
      = .ok (.tuple #[]) (W.setCell ta (.int .i64 x)) := by
  rw [rls]
  simp only [Sem.run_bind, partsEa, partsE, Result.andThen]
  simp [ReflectliteValue.flagAddr, loadVar, loadCells, loadCellsFrom, hb, Result.andThen, directE, storeVar, Value.cells, storeCells, Addr.add]
  rw [run_store Tryz.prog W ta _ _ (by rfl)]
  simp [ht, hf]

end Go.Proofs.YtdfhpimdgfemjaaGreatDoor
