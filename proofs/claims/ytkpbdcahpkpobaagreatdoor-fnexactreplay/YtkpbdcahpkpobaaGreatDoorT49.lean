/- The law of Replay, walked. -/
import Derived.Test.YtkpbdcahpkpobaaGreatDoorT48
import Derived.Test.YtkpbdcahpkpobaaGreatDoorT37
import Derived.Test.YtkpbdcahpkpobaaGreatDoorT35
namespace Go.Proofs.YtkpbdcahpkpobaaGreatDoor
open Go.ChangeShapes Go.WideShapes Go.ChangeAt Go.RowKit

/-- What the model told stands in block N; nothing old has turned. -/
structure Rx (w wi : World) (B C N : Nat) (ra : Option Addr) (rc : Nat) (oa : Option Addr) (oc : Nat) (S : S4) : Prop where
  be : Below w.heap.size w wi
  tl : Tl wi B C N S.p S.c ra S.rs.length rc oa S.os.length oc S.rs S.os
theorem Rx.below {w wi w' : World} {B C N : Nat} {ra : Option Addr} {rc : Nat} {oa : Option Addr} {oc : Nat} {S : S4} (h : Rx w wi B C N ra rc oa oc S) (hb : Below wi.heap.size wi w') : Rx w w' B C N ra rc oa oc S := ⟨h.be.trans (hb.mono h.be.size), h.tl.below hb⟩
theorem Rx.tu {w wi w' : World} {B C N lo hi : Nat} {ra : Option Addr} {rc : Nat} {oa : Option Addr} {oc : Nat} {S : S4} (h : Rx w wi B C N ra rc oa oc S) (t : Tu lo hi wi w') (h1 : w.heap.size ≤ lo) (h2 : C ≤ lo ∨ hi ≤ B) : Rx w w' B C N ra rc oa oc S := ⟨h.be.trans (t.below h.be.size h1), h.tl.tu t h2⟩
/-- A list of places, or of events, of the law's own, that may be written. -/
structure Ix (w : World) (b len : Nat) (g : Nat → I5) : Prop where
  at' : InsAt w b 0 len g
  fr : ∀ j, w.frozen? ⟨b, j, none⟩ = false
  lt : b < w.heap.size
theorem Ix.below {w w' : World} {b len : Nat} {g : Nat → I5} (h : Ix w b len g) (hb : Below w.heap.size w w') : Ix w' b len g := ⟨h.at'.below hb h.lt, fun j => (World.frozen?_of_block (hb.block _ h.lt)).trans (h.fr j), Nat.lt_of_lt_of_le h.lt hb.size⟩
structure Ex (w : World) (b len : Nat) (g : Nat → E3) : Prop where
  at' : EvAt w b 0 len g
  fr : ∀ j, w.frozen? ⟨b, j, none⟩ = false
  lt : b < w.heap.size
theorem Ex.below {w w' : World} {b len : Nat} {g : Nat → E3} (h : Ex w b len g) (hb : Below w.heap.size w w') : Ex w' b len g := ⟨h.at'.below hb h.lt, fun j => (World.frozen?_of_block (hb.block _ h.lt)).trans (h.fr j), Nat.lt_of_lt_of_le h.lt hb.size⟩
theorem Ex.tu {w w' : World} {b len lo hi : Nat} {g : Nat → E3} (h : Ex w b len g) (t : Tu lo hi w w') (hd : b < lo ∨ hi ≤ b) : Ex w' b len g := by
  have hb := t.block b h.lt hd
  refine ⟨fun i hi => ?_, fun j => (World.frozen?_of_block hb).trans (h.fr j), Nat.lt_of_lt_of_le h.lt t.size⟩
  obtain ⟨h0, h1, h2⟩ := h.at' i hi
  exact ⟨(World.cell?_of_block hb).trans h0, (World.cell?_of_block hb).trans h1, (World.cell?_of_block hb).trans h2⟩

set_option maxRecDepth 100000 in
set_option maxHeartbeats 8000000 in
theorem replayLaw_small (a0 : Option Addr) (len cap : Nat) (g : Nat → I5) (e0 : Option Addr) (m ec : Nat) (eh : Nat → E3) (w : World) (hs : (len : Int) + m ≤ 1048576) (HT : Hid (CopiesF w a0 len cap g)) (HU : Hid (CopiesE w e0 m ec eh)) (hV : w.cell? ⟨0, 0, none⟩ = some (.iface 190 (.agg #[.pointer (some ⟨1, 83, none⟩)]))) :
    Calls Tryz.prog 8 #[.slice a0 len cap, .slice e0 m ec] w fun e w' => e = .returned (.bool true) ∧ Below w.heap.size w w' := by
  have hl : len ≤ 1048576 := by omega
  have hm : m ≤ 1048576 := by omega
  have hm' : (m : Int) ≤ 1048576 - len := by omega
  have n1 : ¬ (1048576 - (len : Int) < 0) := by omega
  have n2 : ¬ (1048576 - (len : Int) - m < 0) := by omega
  have HM : Hid (len ≤ maxLen) := by show len ≤ maxLen; unfold maxLen; omega
  have HV : Hid (w.cell? ⟨0, 0, none⟩ = some (.iface 190 (.agg #[.pointer (some ⟨1, 83, none⟩)]))) := hV
  have HV0 : Hid (0 < w.heap.size) := World.block_lt_of_cell? w _ hV
  have hSL := repO_len g len eh m
  generalize hK : resS (repO g len eh m) = S at hSL
  generalize hP : (repO g len eh m).isSome = T
  have HN : Hid (resS (repO g len eh m) = S ∧ (repO g len eh m).isSome = T) := ⟨hK, hP⟩
  have HSL : Hid (S.rs.length ≤ 1048576 ∧ S.os.length ≤ 1048576) := hSL
  clear hK hP hSL hV hs
  go_enter Tryz.func8, Tryz.ntmps8
  go_wp2_with fail
  refine (szInsS_small _ _ _ _ hl).mono ?_
  rintro e w0 ⟨rfl, rfl⟩
  go_wp2_with fail
  refine (szEventS_small _ _ _ _ _ hm' (by omega)).mono ?_
  rintro e w1 ⟨rfl, rfl⟩
  go_wp2_with fail
  refine (HT.out _ (Below.refl _ _)).mono ?_
  rintro e w2 ⟨rfl, i2, z2, b2, f2⟩
  have B2 : Hid (Below w1.heap.size w1 w2) := b2
  have I2 : Hid (Ix w2 w1.heap.size len g) := ⟨i2, f2, z2⟩
  clear i2 z2 b2 f2
  go_wp2_with fail
  refine (HU.out _ B2.out).mono ?_
  rintro e w3 ⟨rfl, i3, z3, b3, f3⟩
  have I3 : Hid (Ix w3 w1.heap.size len g) := I2.out.below b3
  have E3' : Hid (Ex w3 w2.heap.size m eh) := ⟨i3, f3, z3⟩
  have B3 : Hid (Below w1.heap.size w1 w3) := B2.out.trans (b3.mono B2.out.size)
  clear i3 z3 b3 f3 I2 B2
  go_wp2_with fail
  refine (specReplay_any w1.heap.size len _ w2.heap.size 0 m _ g eh w3 HM.out I3.out.lt I3.out.at' E3'.out.lt E3'.out.at' hm).mono ?_
  rintro e w4 hd
  rw [HN.out.1, HN.out.2] at hd
  obtain ⟨v4, rfl, o4, b4⟩ := hd
  obtain ⟨rw0, cw0, ow0, dw0, rfl, -, -⟩ := o4.read
  have B4 : Hid (Below w1.heap.size w1 w4) := B3.out.trans (b4.mono B3.out.size)
  have z34 : w3.heap.size ≤ w4.heap.size := b4.size
  have z13 : w1.heap.size ≤ w3.heap.size := B3.out.size
  have X5 : Hid (Rx w1 (w4.alloc (.cells #[.int .i64 S.p, .slice rw0 S.rs.length cw0, .slice ow0 S.os.length dw0, .int .i64 S.c] 30)) w3.heap.size (w4.heap.size + 1) w4.heap.size rw0 cw0 ow0 dw0 S) := ⟨B4.out.trans ((below_alloc _ _).mono B4.out.size), Tl.of_alloc o4 z34 _⟩
  have Z5 : Hid ((w4.alloc (.cells #[.int .i64 S.p, .slice rw0 S.rs.length cw0, .slice ow0 S.os.length dw0, .int .i64 S.c] 30)).heap.size = w4.heap.size + 1) := by
    show (w4.alloc (.cells #[.int .i64 S.p, .slice rw0 S.rs.length cw0, .slice ow0 S.os.length dw0, .int .i64 S.c] 30)).heap.size = w4.heap.size + 1
    simp
  clear o4 b4 B3 B4 I3 E3'
  go_wp2_with fail
  generalize w4.alloc (.cells #[.int .i64 S.p, .slice rw0 S.rs.length cw0, .slice ow0 S.os.length dw0, .int .i64 S.c] 30) = w5 at *
  refine (HT.out _ X5.out.be).mono ?_
  rintro e w6 ⟨rfl, i6, z6, b6, f6⟩
  have X6 : Hid (Rx w1 w6 w3.heap.size (w4.heap.size + 1) w4.heap.size rw0 cw0 ow0 dw0 S) := X5.out.below b6
  have I6 : Hid (Ix w6 w5.heap.size len g) := ⟨i6, f6, z6⟩
  clear i6 b6 f6 X5
  go_wp2_with fail
  refine (HU.out _ X6.out.be).mono ?_
  rintro e w7 ⟨rfl, i7, z7, b7, f7⟩
  have X7 : Hid (Rx w1 w7 w3.heap.size (w4.heap.size + 1) w4.heap.size rw0 cw0 ow0 dw0 S) := X6.out.below b7
  have I7 : Hid (Ix w7 w5.heap.size len g) := I6.out.below b7
  have E7 : Hid (Ex w7 w6.heap.size m eh) := ⟨i7, f7, z7⟩
  clear i7 b7 f7 X6 I6
  have ZA : Hid (w3.heap.size ≤ w4.heap.size ∧ w5.heap.size = w4.heap.size + 1 ∧ w5.heap.size < w6.heap.size ∧ w6.heap.size < w7.heap.size ∧ w1.heap.size ≤ w3.heap.size) := by
    exact ⟨z34, Z5.out, z6, z7, z13⟩
  clear z34 Z5 z6 z7 z13
  go_wp2_with fail
  refine (implReplay_any w5.heap.size len _ w6.heap.size 0 m _ g eh w7 HM.out I7.out.lt I7.out.at' E7.out.lt E7.out.at' hm ((X7.out.be.cell (p := ⟨0, 0, none⟩) HV0.out).trans HV.out)).mono ?_
  rintro e w8 hd
  rw [HN.out.1, HN.out.2] at hd
  obtain ⟨v8, rfl, o8, b8⟩ := hd
  obtain ⟨rg, cg, og, dg, rfl, -, -⟩ := o8.read
  have z78 : w7.heap.size ≤ w8.heap.size := b8.size
  have q9 : Below w7.heap.size w7 (w8.alloc (.cells #[.int .i64 S.p, .slice rg S.rs.length cg, .slice og S.os.length dg, .int .i64 S.c] 30)) := b8.trans ((below_alloc _ _).mono b8.size)
  have X9 : Hid (Rx w1 (w8.alloc (.cells #[.int .i64 S.p, .slice rg S.rs.length cg, .slice og S.os.length dg, .int .i64 S.c] 30)) w3.heap.size (w4.heap.size + 1) w4.heap.size rw0 cw0 ow0 dw0 S) := X7.out.below q9
  have I9 : Hid (Ix (w8.alloc (.cells #[.int .i64 S.p, .slice rg S.rs.length cg, .slice og S.os.length dg, .int .i64 S.c] 30)) w5.heap.size len g) := I7.out.below q9
  have E9 : Hid (Ex (w8.alloc (.cells #[.int .i64 S.p, .slice rg S.rs.length cg, .slice og S.os.length dg, .int .i64 S.c] 30)) w6.heap.size m eh) := E7.out.below q9
  have G9 : Hid (Tl (w8.alloc (.cells #[.int .i64 S.p, .slice rg S.rs.length cg, .slice og S.os.length dg, .int .i64 S.c] 30)) w7.heap.size (w8.heap.size + 1) w8.heap.size S.p S.c rg S.rs.length cg og S.os.length dg S.rs S.os) := Tl.of_alloc o8 z78 _
  have ZB : Hid (w7.heap.size ≤ w8.heap.size) := z78
  clear o8 b8 q9 z78 X7 I7 E7
  go_upto_region 12 with fail
  generalize w8.alloc (.cells #[.int .i64 S.p, .slice rg S.rs.length cg, .slice og S.os.length dg, .int .i64 S.c] 30) = w9 at *
  generalize hM8 : w8.heap.size = M8 at *
  generalize hM7 : w7.heap.size = M7 at *
  clear hM8 hM7
  obtain ⟨c0, c1, c2, c3⟩ := G9.out.box
  obtain ⟨d0, d1, d2, d3⟩ := X9.out.tl.box
  go_wp2_with fail
  clear c0 c1 c2 c3 d0 d1 d2 d3
  refine (eqState_same S.p S.c rg og rw0 ow0 cg dg cw0 dw0 S.rs S.os _ HSL.out.1 HSL.out.2 G9.out.sl.1 G9.out.sl.2 X9.out.tl.sl.1 X9.out.tl.sl.2).mono ?_
  rintro e w10 ⟨rfl, b10⟩
  have X10 : Hid (Rx w1 w10 w3.heap.size (w4.heap.size + 1) w4.heap.size rw0 cw0 ow0 dw0 S) := X9.out.below b10
  have I10 : Hid (Ix w10 w5.heap.size len g) := I9.out.below b10
  have E10 : Hid (Ex w10 w6.heap.size m eh) := E9.out.below b10
  have G10 : Hid (Tl w10 M7 (M8 + 1) M8 S.p S.c rg S.rs.length cg og S.os.length dg S.rs S.os) := G9.out.below b10
  clear X9 I9 E9 G9 b10
  go_wp2_with fail
  refine (HT.out _ X10.out.be).mono ?_
  rintro e w11 ⟨rfl, i11, z11, b11, -⟩
  have J11 : Hid (InsAt w11 w10.heap.size 0 len g ∧ w10.heap.size < w11.heap.size) := ⟨i11, z11⟩
  clear i11 z11
  have X11 : Hid (Rx w1 w11 w3.heap.size (w4.heap.size + 1) w4.heap.size rw0 cw0 ow0 dw0 S) := X10.out.below b11
  have I11 : Hid (Ix w11 w5.heap.size len g) := I10.out.below b11
  have E11 : Hid (Ex w11 w6.heap.size m eh) := E10.out.below b11
  have G11 : Hid (Tl w11 M7 (M8 + 1) M8 S.p S.c rg S.rs.length cg og S.os.length dg S.rs S.os) := G10.out.below b11
  clear X10 I10 E10 G10 b11
  go_wp2_with fail
  refine (eqInsS_same _ _ _ _ _ g _ hl I11.out.lt J11.out.2 I11.out.at' J11.out.1).mono ?_
  rintro e w12 ⟨rfl, b12⟩
  clear J11
  have X12 : Hid (Rx w1 w12 w3.heap.size (w4.heap.size + 1) w4.heap.size rw0 cw0 ow0 dw0 S) := X11.out.below b12
  have I12 : Hid (Ix w12 w5.heap.size len g) := I11.out.below b12
  have E12 : Hid (Ex w12 w6.heap.size m eh) := E11.out.below b12
  have G12 : Hid (Tl w12 M7 (M8 + 1) M8 S.p S.c rg S.rs.length cg og S.os.length dg S.rs S.os) := G11.out.below b12
  clear X11 I11 E11 G11 b12
  go_wp2_with fail
  refine (HU.out _ X12.out.be).mono ?_
  rintro e w13 ⟨rfl, i13, z13, b13, -⟩
  have J13 : Hid (EvAt w13 w12.heap.size 0 m eh ∧ w12.heap.size < w13.heap.size) := ⟨i13, z13⟩
  clear i13 z13
  have X13 : Hid (Rx w1 w13 w3.heap.size (w4.heap.size + 1) w4.heap.size rw0 cw0 ow0 dw0 S) := X12.out.below b13
  have I13 : Hid (Ix w13 w5.heap.size len g) := I12.out.below b13
  have E13 : Hid (Ex w13 w6.heap.size m eh) := E12.out.below b13
  have G13 : Hid (Tl w13 M7 (M8 + 1) M8 S.p S.c rg S.rs.length cg og S.os.length dg S.rs S.os) := G12.out.below b13
  clear X12 I12 E12 G12 b13
  go_wp2_with fail
  refine (eqEventS_same _ _ _ _ _ eh _ hm E13.out.lt J13.out.2 E13.out.at' J13.out.1).mono ?_
  rintro e w14 ⟨rfl, b14⟩
  clear J13
  have X14 : Hid (Rx w1 w14 w3.heap.size (w4.heap.size + 1) w4.heap.size rw0 cw0 ow0 dw0 S) := X13.out.below b14
  have I14 : Hid (Ix w14 w5.heap.size len g) := I13.out.below b14
  have E14 : Hid (Ex w14 w6.heap.size m eh) := E13.out.below b14
  have G14 : Hid (Tl w14 M7 (M8 + 1) M8 S.p S.c rg S.rs.length cg og S.os.length dg S.rs S.os) := G13.out.below b14
  clear X13 I13 E13 G13 b14
  go_wp2_with fail
  refine (markInsS_any w5.heap.size len len 1 _ hl (by omega) (by omega) (Room.of_ins I14.out.at' I14.out.fr)).mono ?_
  rintro e w15 ⟨rfl, m15⟩
  have t15 := Tu.of_row m15
  have X15 : Hid (Rx w1 w15 w3.heap.size (w4.heap.size + 1) w4.heap.size rw0 cw0 ow0 dw0 S) := X14.out.tu t15 (by have := ZA.out; omega) (.inl (by have := ZA.out; omega))
  have E15 : Hid (Ex w15 w6.heap.size m eh) := E14.out.tu t15 (.inr (by have := ZA.out; omega))
  have G15 : Hid (Tl w15 M7 (M8 + 1) M8 S.p S.c rg S.rs.length cg og S.os.length dg S.rs S.os) := G14.out.tu t15 (.inr (by have := ZA.out; omega))
  clear X14 I14 E14 G14 m15 t15
  go_wp2_with fail
  refine (markEventS_any w6.heap.size m m (1 + 5 * len) _ hm (by omega) (by omega) (RoomE.of_ev E15.out.at' E15.out.fr)).mono ?_
  rintro e w16 ⟨rfl, m16⟩
  have t16 := Tu.of_row m16
  have X16 : Hid (Rx w1 w16 w3.heap.size (w4.heap.size + 1) w4.heap.size rw0 cw0 ow0 dw0 S) := X15.out.tu t16 (by have := ZA.out; omega) (.inl (by have := ZA.out; omega))
  have G16 : Hid (Tl w16 M7 (M8 + 1) M8 S.p S.c rg S.rs.length cg og S.os.length dg S.rs S.os) := G15.out.tu t16 (.inr (by have := ZA.out; omega))
  have hk : ¬ (1 + 5 * (len : Int) + 3 * m < 0) := by omega
  clear X15 E15 G15 m16 t16
  obtain ⟨c0, c1, c2, c3⟩ := G16.out.box
  obtain ⟨d0, d1, d2, d3⟩ := X16.out.tl.box
  go_wp2_with fail
  clear c0 c1 c2 c3 d0 d1 d2 d3
  refine (eqState_same S.p S.c rg og rw0 ow0 cg dg cw0 dw0 S.rs S.os _ HSL.out.1 HSL.out.2 G16.out.sl.1 G16.out.sl.2 X16.out.tl.sl.1 X16.out.tl.sl.2).mono ?_
  rintro e w17 ⟨rfl, b17⟩
  have X17 : Hid (Rx w1 w17 w3.heap.size (w4.heap.size + 1) w4.heap.size rw0 cw0 ow0 dw0 S) := X16.out.below b17
  have G17 : Hid (Tl w17 M7 (M8 + 1) M8 S.p S.c rg S.rs.length cg og S.os.length dg S.rs S.os) := G16.out.below b17
  clear X16 G16 b17
  obtain ⟨c0, c1, c2, c3⟩ := G17.out.box
  go_wp2_with fail
  clear c0 c1 c2 c3
  refine (markState_any _ M7 S.p S.c S.rs S.os 1 _ HSL.out.1 HSL.out.2 (by omega) (by omega) G17.out.own).mono ?_
  rintro e w18 ⟨rfl, o18, m18⟩
  have t18 : Tu M7 (M8 + 1) w17 w18 := Tu.of_marked m18 G17.out.span
  have X18 : Hid (Rx w1 w18 w3.heap.size (w4.heap.size + 1) w4.heap.size rw0 cw0 ow0 dw0 S) := X17.out.tu t18 (by have := ZA.out; have := ZB.out; omega) (.inl (by have := ZA.out; have := ZB.out; omega))
  have K18 : Hid (Tl w18 M7 (M8 + 1) M8 S.p S.c rg S.rs.length cg og S.os.length dg (marks 1 S.rs.length) (marks (1 + S.rs.length) S.os.length)) := G17.out.marked o18 m18
  clear X17 G17 m18 t18 o18
  obtain ⟨c0, c1, c2, c3⟩ := K18.out.box
  go_wp2_with fail
  clear c0 c1 c2 c3
  refine (heldState_marks S.p S.c rg og S.rs.length cg S.os.length dg 1 _ HSL.out.1 HSL.out.2 (by omega) (by omega) K18.out.sl.1 K18.out.sl.2).mono ?_
  rintro e w19 ⟨rfl, b19⟩
  have hq : ¬ (1 + (S.rs.length : Int) + S.os.length < 0) := by omega
  have X19 : Hid (Rx w1 w19 w3.heap.size (w4.heap.size + 1) w4.heap.size rw0 cw0 ow0 dw0 S) := X18.out.below b19
  have K19 : Hid (Tl w19 M7 (M8 + 1) M8 S.p S.c rg S.rs.length cg og S.os.length dg (marks 1 S.rs.length) (marks (1 + S.rs.length) S.os.length)) := K18.out.below b19
  clear X18 K18 b19
  go_wp2_with fail
  refine (HT.out _ X19.out.be).mono ?_
  rintro e w20 ⟨rfl, i20, z20, b20, f20⟩
  have I20 : Hid (Ix w20 w19.heap.size len g) := ⟨i20, f20, z20⟩
  clear i20 z20 f20
  have X20 : Hid (Rx w1 w20 w3.heap.size (w4.heap.size + 1) w4.heap.size rw0 cw0 ow0 dw0 S) := X19.out.below b20
  have K20 : Hid (Tl w20 M7 (M8 + 1) M8 S.p S.c rg S.rs.length cg og S.os.length dg (marks 1 S.rs.length) (marks (1 + S.rs.length) S.os.length)) := K19.out.below b20
  clear X19 K19 b20
  go_wp2_with fail
  refine (HU.out _ X20.out.be).mono ?_
  rintro e w21 ⟨rfl, i21, z21, b21, f21⟩
  have I21 : Hid (Ix w21 w19.heap.size len g) := I20.out.below b21
  have E21 : Hid (Ex w21 w20.heap.size m eh) := ⟨i21, f21, z21⟩
  clear i21 z21 f21 I20
  have X21 : Hid (Rx w1 w21 w3.heap.size (w4.heap.size + 1) w4.heap.size rw0 cw0 ow0 dw0 S) := X20.out.below b21
  have K21 : Hid (Tl w21 M7 (M8 + 1) M8 S.p S.c rg S.rs.length cg og S.os.length dg (marks 1 S.rs.length) (marks (1 + S.rs.length) S.os.length)) := K20.out.below b21
  clear X20 K20 b21
  go_wp2_with fail
  refine (implReplay_any w19.heap.size len _ w20.heap.size 0 m _ g eh w21 HM.out I21.out.lt I21.out.at' E21.out.lt E21.out.at' hm ((X21.out.be.cell (p := ⟨0, 0, none⟩) HV0.out).trans HV.out)).mono ?_
  rintro e w22 hd
  rw [HN.out.1, HN.out.2] at hd
  obtain ⟨v22, rfl, o22, b22⟩ := hd
  obtain ⟨rh, ch, oh, dh, rfl, -, -⟩ := o22.read
  have q23 : Below w21.heap.size w21 (w22.alloc (.cells #[.int .i64 S.p, .slice rh S.rs.length ch, .slice oh S.os.length dh, .int .i64 S.c] 30)) := b22.trans ((below_alloc _ _).mono b22.size)
  have X23 : Hid (Rx w1 (w22.alloc (.cells #[.int .i64 S.p, .slice rh S.rs.length ch, .slice oh S.os.length dh, .int .i64 S.c] 30)) w3.heap.size (w4.heap.size + 1) w4.heap.size rw0 cw0 ow0 dw0 S) := X21.out.below q23
  have K23 : Hid (Tl (w22.alloc (.cells #[.int .i64 S.p, .slice rh S.rs.length ch, .slice oh S.os.length dh, .int .i64 S.c] 30)) M7 (M8 + 1) M8 S.p S.c rg S.rs.length cg og S.os.length dg (marks 1 S.rs.length) (marks (1 + S.rs.length) S.os.length)) := K21.out.below q23
  have H23 : Hid (Tl (w22.alloc (.cells #[.int .i64 S.p, .slice rh S.rs.length ch, .slice oh S.os.length dh, .int .i64 S.c] 30)) w21.heap.size (w22.heap.size + 1) w22.heap.size S.p S.c rh S.rs.length ch oh S.os.length dh S.rs S.os) := Tl.of_alloc o22 b22.size _
  clear o22 b22 q23 X21 K21 I21 E21
  go_upto_region 32 with fail
  generalize w22.alloc (.cells #[.int .i64 S.p, .slice rh S.rs.length ch, .slice oh S.os.length dh, .int .i64 S.c] 30) = w23 at *
  generalize w22.heap.size = M22 at *
  obtain ⟨c0, c1, c2, c3⟩ := H23.out.box
  obtain ⟨d0, d1, d2, d3⟩ := X23.out.tl.box
  go_wp2_with fail
  clear c0 c1 c2 c3 d0 d1 d2 d3
  refine (eqState_same S.p S.c rh oh rw0 ow0 ch dh cw0 dw0 S.rs S.os _ HSL.out.1 HSL.out.2 H23.out.sl.1 H23.out.sl.2 X23.out.tl.sl.1 X23.out.tl.sl.2).mono ?_
  rintro e w24 ⟨rfl, b24⟩
  clear H23
  have X24 : Hid (Rx w1 w24 w3.heap.size (w4.heap.size + 1) w4.heap.size rw0 cw0 ow0 dw0 S) := X23.out.below b24
  have K24 : Hid (Tl w24 M7 (M8 + 1) M8 S.p S.c rg S.rs.length cg og S.os.length dg (marks 1 S.rs.length) (marks (1 + S.rs.length) S.os.length)) := K23.out.below b24
  clear X23 K23 b24
  obtain ⟨c0, c1, c2, c3⟩ := K24.out.box
  go_wp2_with fail
  clear c0 c1 c2 c3
  refine (heldState_marks S.p S.c rg og S.rs.length cg S.os.length dg 1 _ HSL.out.1 HSL.out.2 (by omega) (by omega) K24.out.sl.1 K24.out.sl.2).mono ?_
  rintro e w25 ⟨rfl, b25⟩
  have X25 : Hid (Rx w1 w25 w3.heap.size (w4.heap.size + 1) w4.heap.size rw0 cw0 ow0 dw0 S) := X24.out.below b25
  have K25 : Hid (Tl w25 M7 (M8 + 1) M8 S.p S.c rg S.rs.length cg og S.os.length dg (marks 1 S.rs.length) (marks (1 + S.rs.length) S.os.length)) := K24.out.below b25
  clear X24 K24 b25
  go_wp2
  go_ret
  exact ⟨rfl, X25.out.be⟩

set_option maxHeartbeats 1000000 in
theorem replayLaw_great (a0 : Option Addr) (len cap : Nat) (e0 : Option Addr) (m ec : Nat) (w : World) (hl : len ≤ maxLen) (hm : m ≤ maxLen) (hs : 1048576 < (len : Int) + m) :
    Calls Tryz.prog 8 #[.slice a0 len cap, .slice e0 m ec] w fun e w' => e = .returned (.bool true) ∧ Below w.heap.size w w' := by
  by_cases h1 : len ≤ 1048576
  · have n1 : ¬ (1048576 - (len : Int) < 0) := by omega
    go_enter Tryz.func8, Tryz.ntmps8
    go_wp2_with fail
    refine (szInsS_small _ _ _ _ h1).mono ?_
    rintro e w0 ⟨rfl, rfl⟩
    go_wp2_with fail
    refine (szEventS_great _ _ _ _ _ (by omega) (by omega) (by omega) hm).mono ?_
    rintro e w1 ⟨rfl, rfl⟩
    go_wp2
    go_ret
    exact ⟨rfl, Below.refl _ _⟩
  · go_enter Tryz.func8, Tryz.ntmps8
    go_wp2_with fail
    refine (szInsS_great _ _ _ _ (by omega) hl).mono ?_
    rintro e w0 ⟨rfl, rfl⟩
    go_wp2
    go_ret
    exact ⟨rfl, Below.refl _ _⟩

end Go.Proofs.YtkpbdcahpkpobaaGreatDoor
