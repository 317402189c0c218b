/- The law of Clock. -/
import Derived.Test.YtjbocfjeobkclaaGreatDoorCc0
import Derived.Test.YtjbocfjeobkclaaGreatDoorCc41
import Derived.Test.YtjbocfjeobkclaaGreatDoorCc38
import Derived.Test.YtjbocfjeobkclaaGreatDoorCc42
namespace Go.Proofs.YtjbocfjeobkclaaGreatDoor
set_option maxRecDepth 100000
set_option maxHeartbeats 4000000
open Go.ChangeShapes Go.WideShapes Go.ChangeAt Go.RowKit Go.Deep
theorem ckL_len (y : Sy) (p i : Int) : (ckL y p i).length ≤ 1048576 := by
 unfold ckL
 split
 next h =>
  obtain ⟨ho, -⟩ := hasB_parts h
  rw [ckN_len]
  exact Nat.le_trans ho.cn.1.2 (by omega)
 next => simp
theorem clockLaw_small (x : SysIn) (z1 z2 : Int) (W : World) (hs : x.size ≤ 1048576) (hA : x.Ok W) (hV : W.cell? ⟨0, 0, none⟩ = some (.iface 204 (.agg #[.pointer (some ⟨1, 155, none⟩)]))) :
  Calls Tryz.prog 3 #[sysV x.pa x.pn x.pc x.sa x.sn x.sc x.wa x.wn x.wc x.ha x.hn x.hc, .int .i64 z1, .int .i64 z2] W fun e w' => e = .returned (.bool true) ∧ Below W.heap.size W w' := by
 have HS : Hid (x.size ≤ 1048576) := hs
 have HA : Hid (x.Ok W) := hA
 have HV : Hid (W.cell? ⟨0, 0, none⟩ = some (.iface 204 (.agg #[.pointer (some ⟨1, 155, none⟩)]))) := hV
 have HV0 : Hid (0 < W.heap.size) := World.block_lt_of_cell? W _ hV
 have hX : (ckL x.y z1 z2).length ≤ 1048576 := ckL_len x.y z1 z2
 generalize hN : ckL x.y z1 z2 = X at hX
 have HN : Hid (ckL x.y z1 z2 = X) := hN
 have hX' : (X.length : Int) ≤ 1048576 := by omega
 have hsz : ¬ (1048576 - (x.size : Int) < 0) := by omega
 have X0 : Hid (Px W x (W.alloc (.cells #[.slice x.pa x.pn x.pc, .slice x.sa x.sn x.sc, .slice x.wa x.wn x.wc, .slice x.ha x.hn x.hc] 27))) := ⟨below_allocS _ _, BoxC.new W _ _ _ _ _, by simp⟩
 clear hN hs hA hV
 go_enter Tryz.func3, Tryz.ntmps3
 go_wp2_with fail
 generalize W.alloc (.cells #[.slice x.pa x.pn x.pc, .slice x.sa x.sn x.sc, .slice x.wa x.wn x.wc, .slice x.ha x.hn x.hc] 27) = wA at *
 refine (szSys_small x wA (HA.out.row.below X0.out.be) HS.out).mono ?_
 rintro e w0 ⟨rfl, b0⟩
 have X1 : Hid (Px W x w0) := X0.out.below b0
 clear b0 X0
 obtain ⟨-, ⟨p0, p1, p2, p3⟩, lt⟩ := X1.out
 go_wp2_with fail
 clear p0 p1 p2 p3 lt
 refine (toSys_any x W w0 HS.out HA.out X1.out.be).mono ?_
 rintro e w1 ⟨v1, rfl, o1, b1⟩
 obtain ⟨x1, rfl, g1, y1, cp1⟩ := o1.g2
 have O1 : Hid (SysG w1 x1 ∧ x1.y = x.y ∧ ∀ i, i < x1.hn → x1.hL i ≤ x1.hC i) := ⟨g1, y1, cp1⟩
 have X2 : Hid (Px W x w1) := X1.out.below b1
 clear b1 X1 o1 g1 y1 cp1
 go_wp2_with fail
 refine (specClock_any x1 z1 z2 w1 O1.out.1 (SysIn.len_of HS.out O1.out.2.1) O1.out.2.2).mono ?_
 rintro e w2 ⟨u2, rfl, o2, b2⟩
 rw [O1.out.2.1, HN.out] at o2
 obtain ⟨aw, cw, rfl, -⟩ := o2.form
 have V2 : Hid (OwnI w2 w1.heap.size (.slice aw X.length cw) X) := o2
 have X3 : Hid (Px W x w2) := X2.out.below b2
 clear b2 X2 o2 O1
 obtain ⟨-, ⟨p0, p1, p2, p3⟩, lt⟩ := X3.out
 go_wp2_with fail
 clear p0 p1 p2 p3 lt
 refine (toSys_any x W w2 HS.out HA.out X3.out.be).mono ?_
 rintro e w3 ⟨v3, rfl, o3, b3⟩
 obtain ⟨x3, rfl, g3, y3, cp3⟩ := o3.g2
 have S3 : Hid (IsSys w3 w2.heap.size w3.heap.size x x3.v) := o3
 have V3 : Hid (OwnI w3 w1.heap.size (.slice aw X.length cw) X) := V2.out.below b3
 have GW : Hid (∀ j, (Value.slice aw X.length cw).ownBlock = some j → j < w2.heap.size) := fun j hj => (V2.out.lt j hj).2
 have X4 : Hid (Px W x w3) := X3.out.below b3
 have LT : Hid (W.heap.size < w2.heap.size ∧ w2.heap.size ≤ w3.heap.size) := ⟨X3.out.lt, b3.size⟩
 have ba : Below w3.heap.size w3 (w3.alloc (oQ2 x3.pa x3.pn x3.pc x3.sa x3.sn x3.sc x3.wa x3.wn x3.wc x3.ha x3.hn x3.hc)) := below_allocS _ _
 have Sa : Hid (IsSys (w3.alloc (oQ2 x3.pa x3.pn x3.pc x3.sa x3.sn x3.sc x3.wa x3.wn x3.wc x3.ha x3.hn x3.hc)) w2.heap.size w3.heap.size x x3.v) := S3.out.below ba (Nat.le_refl _)
 have Va : Hid (OwnI (w3.alloc (oQ2 x3.pa x3.pn x3.pc x3.sa x3.sn x3.sc x3.wa x3.wn x3.wc x3.ha x3.hn x3.hc)) w1.heap.size (.slice aw X.length cw) X) := V3.out.below ba
 have Xa : Hid (Px W x (w3.alloc (oQ2 x3.pa x3.pn x3.pc x3.sa x3.sn x3.sc x3.wa x3.wn x3.wc x3.ha x3.hn x3.hc))) := X4.out.below ba
 have Ga : Hid (SysG (w3.alloc (oQ2 x3.pa x3.pn x3.pc x3.sa x3.sn x3.sc x3.wa x3.wn x3.wc x3.ha x3.hn x3.hc)) x3 ∧ x3.y = x.y ∧ ∀ i, i < x3.hn → x3.hL i ≤ x3.hC i) := ⟨g3.below ba, y3, cp3⟩
 have Qa : Hid (BoxC (w3.alloc (oQ2 x3.pa x3.pn x3.pc x3.sa x3.sn x3.sc x3.wa x3.wn x3.wc x3.ha x3.hn x3.hc)) w3.heap.size (.slice x3.pa x3.pn x3.pc) (.slice x3.sa x3.sn x3.sc) (.slice x3.wa x3.wn x3.wc) (.slice x3.ha x3.hn x3.hc) ∧ w3.heap.size < (w3.alloc (oQ2 x3.pa x3.pn x3.pc x3.sa x3.sn x3.sc x3.wa x3.wn x3.wc x3.ha x3.hn x3.hc)).heap.size) := ⟨BoxC.new w3 _ _ _ _ _, by simp⟩
 clear b3 X3 o3 V2 V3 X4 S3 ba g3 y3 cp3
 go_wp2_with fail
 generalize w3.alloc (oQ2 x3.pa x3.pn x3.pc x3.sa x3.sn x3.sc x3.wa x3.wn x3.wc x3.ha x3.hn x3.hc) = wB at *
 refine (implClock_any x3 z1 z2 wB Ga.out.1 (SysIn.len_of HS.out Ga.out.2.1) Ga.out.2.2 ((Xa.out.be.cell (p := ⟨0, 0, none⟩) HV0.out).trans HV.out)).mono ?_
 rintro e w4 ⟨u4, rfl, o4, b4⟩
 rw [Ga.out.2.1, HN.out] at o4
 obtain ⟨ag, cg, rfl, -⟩ := o4.form
 have G4 : Hid (OwnI w4 wB.heap.size (.slice ag X.length cg) X) := o4
 have GG : Hid (∀ j, (Value.slice ag X.length cg).ownBlock = some j → w3.heap.size < j) := fun j hj => Nat.lt_of_lt_of_le Qa.out.2 (o4.lt j hj).1
 have V4 : Hid (OwnI w4 w1.heap.size (.slice aw X.length cw) X) := Va.out.below b4
 have S4' : Hid (IsSys w4 w2.heap.size w3.heap.size x x3.v) := Sa.out.below b4 (Nat.le_of_lt Qa.out.2)
 have X5 : Hid (Px W x w4) := Xa.out.below b4
 have Q4 : Hid (BoxC w4 w3.heap.size (.slice x3.pa x3.pn x3.pc) (.slice x3.sa x3.sn x3.sc) (.slice x3.wa x3.wn x3.wc) (.slice x3.ha x3.hn x3.hc) ∧ w3.heap.size < w4.heap.size) := ⟨Qa.out.1.below b4, Nat.lt_of_lt_of_le Qa.out.2 b4.size⟩
 clear b4 Xa o4 Va Sa Qa Ga
 go_wp2_with fail
 refine (eqIntS_same ag aw cg cw X w4 hX G4.out.sl V4.out.sl).mono ?_
 rintro e w5 ⟨rfl, b5⟩
 have G5 : Hid (OwnI w5 wB.heap.size (.slice ag X.length cg) X) := G4.out.below b5
 have V5 : Hid (OwnI w5 w1.heap.size (.slice aw X.length cw) X) := V4.out.below b5
 have S5 : Hid (IsSys w5 w2.heap.size w3.heap.size x x3.v) := S4'.out.below b5 (by obtain ⟨_, _, _, _, _, _, _, _, _, _, _, q⟩ := S4'.out; exact q.hi.2.2.2.1)
 have X6 : Hid (Px W x w5) := X5.out.below b5
 have Q5 : Hid (BoxC w5 w3.heap.size (.slice x3.pa x3.pn x3.pc) (.slice x3.sa x3.sn x3.sc) (.slice x3.wa x3.wn x3.wc) (.slice x3.ha x3.hn x3.hc) ∧ w3.heap.size < w5.heap.size) := ⟨Q4.out.1.below b5, Nat.lt_of_lt_of_le Q4.out.2 b5.size⟩
 clear Q4
 clear b5 X5 G4 V4 S4'
 obtain ⟨-, ⟨p0, p1, p2, p3⟩, lt⟩ := X6.out
 obtain ⟨⟨q0, q1, q2, q3⟩, lq⟩ := Q5.out
 go_wp2_with fail
 first | (go_region_with (first | (go_at_call 8; refine (toSys_any x W _ HS.out HA.out (by exact X6.out.be.drew)).mono ?_; rintro e w6 ⟨v6, rfl, o6, b6⟩; have q6 : Below w5.heap.size w5 w6 := (Below.refl w5.heap.size w5).drew.trans b6; have T6 : Hid (∃ l, IsSys w6 l w6.heap.size x v6) := ⟨_, o6⟩; obtain ⟨r0, r1, r2, r3⟩ := Q5.out.1.below q6; have Q6 : Hid (Below w5.heap.size w5 w6) := q6; clear o6 b6 q6) | (go_at_call 11; refine (eqSys_same x w2.heap.size w3.heap.size T6.out.choose _ _ v6 w6 HS.out (S5.out.below Q6.out (by obtain ⟨_, _, _, _, _, _, _, _, _, _, _, q⟩ := S5.out; exact q.hi.2.2.2.1)) T6.out.choose_spec).mono ?_; rintro e w7 ⟨rfl, b7⟩; have Q7 : Hid (Below w5.heap.size w5 w7) := Q6.out.trans (b7.mono Q6.out.size); clear b7))) | fail
 all_goals
  clear r0 r1 r2 r3 p0 p1 p2 p3 lt q0 q1 q2 q3 lq T6 Q6
  have G7 : Hid (OwnI w7 wB.heap.size (.slice ag X.length cg) X) := G5.out.below Q7.out
  have V7 : Hid (OwnI w7 w1.heap.size (.slice aw X.length cw) X) := V5.out.below Q7.out
  have S7 : Hid (IsSys w7 w2.heap.size w3.heap.size x x3.v) := S5.out.below Q7.out (by obtain ⟨_, _, _, _, _, _, _, _, _, _, _, q⟩ := S5.out; exact q.hi.2.2.2.1)
  have X8 : Hid (Px W x w7) := X6.out.below Q7.out
  have R7 : Hid (BoxC w7 w3.heap.size (.slice x3.pa x3.pn x3.pc) (.slice x3.sa x3.sn x3.sc) (.slice x3.wa x3.wn x3.wc) (.slice x3.ha x3.hn x3.hc) ∧ w3.heap.size < w7.heap.size) := ⟨Q5.out.1.below Q7.out, Nat.lt_of_lt_of_le Q5.out.2 Q7.out.size⟩
  clear Q7 X6 G5 V5 S5 Q5
  obtain ⟨⟨q0, q1, q2, q3⟩, lq⟩ := R7.out
  go_wp2_with fail
  clear q0 q1 q2 q3 lq
  refine (markSys_any x _ _ _ w7 HS.out S7.out).mono ?_
  rintro e w8 ⟨⟨z, rfl, hz⟩, t8⟩
  have G8 : Hid (OwnI w8 wB.heap.size (.slice ag X.length cg) X) := G7.out.touch t8 fun g hg => by
   have := GG.out g hg
   omega
  have V8 : Hid (OwnI w8 w1.heap.size (.slice aw X.length cw) X) := V7.out.touch t8 fun g hg => by
   have := GW.out g hg
   omega
  have X9 : Hid (Px W x w8) := X8.out.touch t8 fun b hb => by have := LT.out; omega
  clear t8 X8 G7 V7 S7 R7
  go_wp2_with fail
  refine (eqIntS_same ag aw cg cw X w8 hX G8.out.sl V8.out.sl).mono ?_
  rintro e w9 ⟨rfl, b9⟩
  have G9 : Hid (OwnI w9 wB.heap.size (.slice ag X.length cg) X) := G8.out.below b9
  have V9 : Hid (OwnI w9 w1.heap.size (.slice aw X.length cw) X) := V8.out.below b9
  have X10 : Hid (Px W x w9) := X9.out.below b9
  clear b9 X9 G8 V8
  go_wp2_with fail
  refine (markIntS_any ag cg wB.heap.size X 1 w9 hX (by omega) (by omega) G9.out).mono ?_
  rintro e w10 ⟨rfl, m10, g10⟩
  have V10 : Hid (OwnI w10 w1.heap.size (.slice aw X.length cw) X) := V9.out.far g10 fun j hj e => by
   have := GW.out j hj
   have := GG.out j e
   have := LT.out
   omega
  have X11 : Hid (Px W x w10) := X10.out.touch (Touch.of_grown (P := fun b => (Value.slice ag X.length cg).ownBlock = some b) g10 fun b e => e) fun b e => by
   have := GG.out b e
   have := LT.out
   omega
  have M10 : Hid (OwnI w10 wB.heap.size (.slice ag X.length cg) (marks 1 X.length)) := m10
  clear g10 X10 G9 V9 m10
  go_wp2_with fail
  refine (heldIntS_marks ag cg X.length 1 w10 hX (by omega) (by omega) (by have h := M10.out; have hl := marks_length 1 X.length; obtain ⟨a1, c1, e, s⟩ := h.form; rw [hl] at e; simp only [Value.slice.injEq] at e; obtain ⟨rfl, -, -⟩ := e; exact s)).mono ?_
  rintro e w11 ⟨rfl, rfl⟩
  have hq : ¬ (1 + (X.length : Int) < 0) := by omega
  obtain ⟨-, ⟨p0, p1, p2, p3⟩, lt⟩ := X11.out
  go_wp2_with fail
  clear p0 p1 p2 p3 lt
  refine (toSys_any x W w11 HS.out HA.out X11.out.be).mono ?_
  rintro e w12 ⟨v12, rfl, o12, b12⟩
  obtain ⟨x12, rfl, g12, y12, cp12⟩ := o12.g2
  have S12 : Hid (SysG w12 x12 ∧ x12.y = x.y ∧ ∀ i, i < x12.hn → x12.hL i ≤ x12.hC i) := ⟨g12, y12, cp12⟩
  have V12 : Hid (OwnI w12 w1.heap.size (.slice aw X.length cw) X) := V10.out.below b12
  have M12 : Hid (OwnI w12 wB.heap.size (.slice ag X.length cg) (marks 1 X.length)) := M10.out.below b12
  have X13 : Hid (Px W x w12) := X11.out.below b12
  clear b12 X11 V10 M10 o12 g12 y12 cp12
  go_wp2_with fail
  refine (implClock_any x12 z1 z2 w12 S12.out.1 (SysIn.len_of HS.out S12.out.2.1) S12.out.2.2 ((X13.out.be.cell (p := ⟨0, 0, none⟩) HV0.out).trans HV.out)).mono ?_
  rintro e w13 ⟨u13, rfl, o13, b13⟩
  rw [S12.out.2.1, HN.out] at o13
  obtain ⟨ah, ch, rfl, -⟩ := o13.form
  have H13 : Hid (OwnI w13 w12.heap.size (.slice ah X.length ch) X) := o13
  have V13 : Hid (OwnI w13 w1.heap.size (.slice aw X.length cw) X) := V12.out.below b13
  have M13 : Hid (OwnI w13 wB.heap.size (.slice ag X.length cg) (marks 1 X.length)) := M12.out.below b13
  have X14 : Hid (Px W x w13) := X13.out.below b13
  clear b13 X13 V12 M12 o13 S12
  go_wp2_with fail
  refine (eqIntS_same ah aw ch cw X w13 hX H13.out.sl V13.out.sl).mono ?_
  rintro e w14 ⟨rfl, b14⟩
  have M14 : Hid (OwnI w14 wB.heap.size (.slice ag X.length cg) (marks 1 X.length)) := M13.out.below b14
  have X15 : Hid (Px W x w14) := X14.out.below b14
  clear b14 X14 V13 H13 M13
  go_wp2_with fail
  refine (heldIntS_marks ag cg X.length 1 w14 hX (by omega) (by omega) (by have h := M14.out; have hl := marks_length 1 X.length; obtain ⟨a1, c1, e, s⟩ := h.form; rw [hl] at e; simp only [Value.slice.injEq] at e; obtain ⟨rfl, -, -⟩ := e; exact s)).mono ?_
  rintro e w15 ⟨rfl, rfl⟩
  go_wp2
  go_ret
  exact ⟨rfl, X15.out.be⟩
theorem clockLaw_great (x : SysIn) (z1 z2 : Int) (W : World) (hr : x.Row W) (hm : x.Max) (hs : 1048576 < x.size) :
  Calls Tryz.prog 3 #[sysV x.pa x.pn x.pc x.sa x.sn x.sc x.wa x.wn x.wc x.ha x.hn x.hc, .int .i64 z1, .int .i64 z2] W fun e w' => e = .returned (.bool true) ∧ Below W.heap.size W w' := by
 have HR : Hid (x.Row W) := hr
 have HM : Hid x.Max := hm
 have HS : Hid (1048576 < x.size) := hs
 clear hr hm hs
 go_enter Tryz.func3, Tryz.ntmps3
 go_wp2_with fail
 refine (szSys_great x _ (HR.out.below (below_allocS _ _)) HM.out HS.out).mono ?_
 rintro e w0 ⟨rfl, b0⟩
 have B0 : Hid (Below W.heap.size W w0) := (below_allocS _ _).trans (b0.mono (by simp))
 clear b0
 go_wp2
 go_ret
 exact ⟨rfl, B0.out⟩
end Go.Proofs.YtjbocfjeobkclaaGreatDoor
