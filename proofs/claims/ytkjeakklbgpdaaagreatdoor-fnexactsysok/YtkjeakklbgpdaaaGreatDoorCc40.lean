/- The law of SysOk, walked. -/
import Derived.Test.YtkjeakklbgpdaaaGreatDoorCc0
import Derived.Test.YtkjeakklbgpdaaaGreatDoorCc39
import Derived.Test.YtkjeakklbgpdaaaGreatDoorCc31
import Derived.Deep.RegionWith
namespace Go.Proofs.YtkjeakklbgpdaaaGreatDoor
set_option maxRecDepth 100000
set_option maxHeartbeats 4000000
open Go.ChangeShapes Go.WideShapes Go.ChangeAt Go.RowKit Go.Deep Go.Sort
theorem IsSys.g2 {w : World} {lo hi : Nat} {x : SysIn} {v : Value} (o : IsSys w lo hi x v) : ∃ x' : SysIn, v = x'.v ∧ SysG w x' ∧ x'.y = x.y ∧ ∀ i, i < x'.hn → x'.hL i ≤ x'.hC i := by
 obtain ⟨D1, D2, D3, D4, b1, vs, b3, b4, h1, h2, h3, o⟩ := o
 obtain ⟨q1, q2, q3, q4, -⟩ := o.hi
 have hst : ∀ i, i < x.sn → ∃ t : Option Addr × Nat × Option Addr × Nat, vs i = stV (x.sS i).p t.1 (x.sS i).rs.length t.2.1 t.2.2.1 (x.sS i).os.length t.2.2.2 (x.sS i).c ∧ w.cell? ⟨D2, i * 4, none⟩ = some (.int .i64 (x.sS i).p) ∧ w.cell? ⟨D2, i * 4 + 1, none⟩ = some (.slice t.1 (x.sS i).rs.length t.2.1) ∧ w.cell? ⟨D2, i * 4 + 2, none⟩ = some (.slice t.2.2.1 (x.sS i).os.length t.2.2.2) ∧ w.cell? ⟨D2, i * 4 + 3, none⟩ = some (.int .i64 (x.sS i).c) := by
  intro i hi
  obtain ⟨ra, rc, oa, oc, e, c0, c1, c2, c3⟩ := o.ss.cel i hi
  exact ⟨(ra, rc, oa, oc), e, c0, c1, c2, c3⟩
 have inh : Inhabited (Option Addr × Nat × Option Addr × Nat) := ⟨(none, 0, none, 0)⟩
 obtain ⟨t, ht⟩ := Go.Deep.choose_lt hst
 refine ⟨⟨some ⟨D1, 0, none⟩, x.pn, x.pn, fun i => some ⟨b1 i, 0, none⟩, x.pL, x.pL, x.pH, some ⟨D2, 0, none⟩, x.sn, x.sn, fun i => ⟨(x.sS i).p, (t i).1, (t i).2.1, (x.sS i).rs, (t i).2.2.1, (t i).2.2.2, (x.sS i).os, (x.sS i).c⟩, some ⟨D3, 0, none⟩, x.wn, x.wn, fun i => some ⟨b3 i, 0, none⟩, x.wL, x.wL, x.wH, some ⟨D4, 0, none⟩, x.hn, x.hn, fun i => some ⟨b4 i, 0, none⟩, x.hL, x.hL, x.hH⟩, o.val, ?_, rfl, fun i _ => Nat.le_refl _⟩
 have l1 := o.pp.lt
 have l2 := o.ss.lt
 have l3 := o.ww.lt
 have l4 := o.hh.lt
 refine ⟨.inr ⟨D1, 0, rfl, by omega, fun i hi => ?_⟩, fun i hi => ⟨b1 i, rfl, Nat.lt_of_lt_of_le (o.pp.bd i hi).2 o.pp.le, o.pp.row i hi⟩, ⟨.inr ⟨D2, 0, rfl, by omega, fun i hi => ?_⟩, fun i hi => ?_⟩, .inr ⟨D3, 0, rfl, by omega, fun i hi => ?_⟩, fun i hi => .inr ⟨b3 i, 0, rfl, Nat.lt_of_lt_of_le (o.ww.bd i hi).2 o.ww.le, o.ww.row i hi⟩, .inr ⟨D4, 0, rfl, by omega, fun i hi => ?_⟩, fun i hi => .inr ⟨b4 i, 0, rfl, Nat.lt_of_lt_of_le (o.hh.bd i hi).2 o.hh.le, o.hh.row i hi⟩⟩
 ·have := o.pp.cel i hi
  simpa using this
 ·have := (ht i hi).2
  simpa using this
 ·have h4 := o.ss.own i hi
  rw [(ht i hi).1] at h4
  exact ⟨h4.parts.1.slOf, h4.parts.2.1.slOf⟩
 ·have := o.ww.cel i hi
  simpa using this
 ·have := o.hh.cel i hi
  simpa using this
theorem SysIn.len_of {x x' : SysIn} (hs : x.size ≤ 1048576) (hy : x'.y = x.y) : x'.Len := by
 have l := SysIn.lens hs
 have e1 : x'.pn = x.pn := congrArg Sy.pn hy
 have e2 : x'.pL = x.pL := congrArg Sy.pL hy
 have e3 : x'.sn = x.sn := congrArg Sy.sn hy
 have e4 : x'.sS = x.sS := congrArg Sy.sS hy
 have e5 : x'.wn = x.wn := congrArg Sy.wn hy
 have e6 : x'.wL = x.wL := congrArg Sy.wL hy
 have e7 : x'.hn = x.hn := congrArg Sy.hn hy
 have e8 : x'.hL = x.hL := congrArg Sy.hL hy
 refine ⟨⟨by omega, fun i hi => ?_⟩, ⟨by omega, fun i hi => ?_⟩, ⟨by omega, fun i hi => ?_⟩, ⟨by omega, fun i hi => ?_⟩⟩
 ·rw [e2]
  exact sum_le l.1.2 i (by omega)
 ·have h1 := SysIn.lensS hs i (by omega)
  have h2 : x'.sS i = x.sS i := by rw [e4]
  have h3 : (x'.sQ i).rs = (x.sQ i).rs := congrArg S4.rs h2
  have h4 : (x'.sQ i).os = (x.sQ i).os := congrArg S4.os h2
  rw [h3, h4]
  exact h1
 ·rw [e6]
  exact sum_le l.2.2.1.2 i (by omega)
 ·rw [e8]
  exact sum_le l.2.2.2.2 i (by omega)
structure Px (W : World) (x : SysIn) (w : World) : Prop where
 be : Below W.heap.size W w
 bx : BoxC w W.heap.size (.slice x.pa x.pn x.pc) (.slice x.sa x.sn x.sc) (.slice x.wa x.wn x.wc) (.slice x.ha x.hn x.hc)
 lt : W.heap.size < w.heap.size
theorem Px.below {W : World} {x : SysIn} {w w' : World} (h : Px W x w) (hb : Below w.heap.size w w') : Px W x w' := ⟨h.be.trans (hb.mono (Nat.le_of_lt h.lt)), h.bx.below hb, Nat.lt_of_lt_of_le h.lt hb.size⟩
theorem sysOkLaw_small (x : SysIn) (W : World) (hs : x.size ≤ 1048576) (hA : x.Ok W) (hV : W.cell? ⟨0, 0, none⟩ = some (.iface 177 (.agg #[.pointer (some ⟨1, 133, none⟩)]))) :
  Calls Tryz.prog 3 #[sysV x.pa x.pn x.pc x.sa x.sn x.sc x.wa x.wn x.wc x.ha x.hn x.hc] W fun e w' => e = .returned (.bool true) ∧ Below W.heap.size W w' := by
 have HS : Hid (x.size ≤ 1048576) := hs
 have HA : Hid (x.Ok W) := hA
 have HV : Hid (W.cell? ⟨0, 0, none⟩ = some (.iface 177 (.agg #[.pointer (some ⟨1, 133, none⟩)]))) := hV
 have HV0 : Hid (0 < W.heap.size) := World.block_lt_of_cell? W _ hV
 have hsz : ¬ (1048576 - (x.size : Int) < 0) := by omega
 have X0 : Hid (Px W x (W.alloc (.cells #[.slice x.pa x.pn x.pc, .slice x.sa x.sn x.sc, .slice x.wa x.wn x.wc, .slice x.ha x.hn x.hc] 27))) := ⟨below_allocS _ _, BoxC.new W _ _ _ _ _, by simp⟩
 clear hs hA hV
 generalize hT : x.y.okB = T
 have HT : Hid (x.y.okB = T) := hT
 clear hT
 go_enter Tryz.func3, Tryz.ntmps3
 go_wp2_with fail
 generalize W.alloc (.cells #[.slice x.pa x.pn x.pc, .slice x.sa x.sn x.sc, .slice x.wa x.wn x.wc, .slice x.ha x.hn x.hc] 27) = wA at *
 refine (szSys_small x wA (HA.out.row.below X0.out.be) HS.out).mono ?_
 rintro e w0 ⟨rfl, b0⟩
 have X1 : Hid (Px W x w0) := X0.out.below b0
 clear b0 X0
 obtain ⟨-, ⟨p0, p1, p2, p3⟩, lt⟩ := X1.out
 go_wp2_with fail
 clear p0 p1 p2 p3 lt
 refine (toSys_any x W w0 HS.out HA.out X1.out.be).mono ?_
 rintro e w1 ⟨v1, rfl, o1, b1⟩
 obtain ⟨x1, rfl, g1, y1, cp1⟩ := o1.g2
 have O1 : Hid (SysG w1 x1 ∧ x1.y = x.y ∧ ∀ i, i < x1.hn → x1.hL i ≤ x1.hC i) := ⟨g1, y1, cp1⟩
 have X2 : Hid (Px W x w1) := X1.out.below b1
 clear b1 X1 o1 g1 y1 cp1
 go_wp2_with fail
 refine (specSysOk_any x1 w1 O1.out.1 (SysIn.len_of HS.out O1.out.2.1) O1.out.2.2).mono ?_
 rintro e w2 ⟨rfl, b2⟩
 have X3 : Hid (Px W x w2) := X2.out.below b2
 rw [O1.out.2.1, HT.out]
 clear b2 X2 O1
 obtain ⟨-, ⟨p0, p1, p2, p3⟩, lt⟩ := X3.out
 go_wp2_with fail
 clear p0 p1 p2 p3 lt
 refine (toSys_any x W w2 HS.out HA.out X3.out.be).mono ?_
 rintro e w3 ⟨v3, rfl, o3, b3⟩
 obtain ⟨x3, rfl, g3, y3, cp3⟩ := o3.g2
 have ba : Below w3.heap.size w3 (w3.alloc (oQ4 x3.pa x3.pn x3.pc x3.sa x3.sn x3.sc x3.wa x3.wn x3.wc x3.ha x3.hn x3.hc)) := below_allocS _ _
 have X4 : Hid (Px W x w3) := X3.out.below b3
 have Xa : Hid (Px W x (w3.alloc (oQ4 x3.pa x3.pn x3.pc x3.sa x3.sn x3.sc x3.wa x3.wn x3.wc x3.ha x3.hn x3.hc))) := X4.out.below ba
 have Sa : Hid (IsSys (w3.alloc (oQ4 x3.pa x3.pn x3.pc x3.sa x3.sn x3.sc x3.wa x3.wn x3.wc x3.ha x3.hn x3.hc)) w2.heap.size w3.heap.size x x3.v) := o3.below ba (Nat.le_refl _)
 have Ga : Hid (SysG (w3.alloc (oQ4 x3.pa x3.pn x3.pc x3.sa x3.sn x3.sc x3.wa x3.wn x3.wc x3.ha x3.hn x3.hc)) x3 ∧ x3.y = x.y) := ⟨g3.below ba, y3⟩
 have Qa : Hid (BoxC (w3.alloc (oQ4 x3.pa x3.pn x3.pc x3.sa x3.sn x3.sc x3.wa x3.wn x3.wc x3.ha x3.hn x3.hc)) w3.heap.size (.slice x3.pa x3.pn x3.pc) (.slice x3.sa x3.sn x3.sc) (.slice x3.wa x3.wn x3.wc) (.slice x3.ha x3.hn x3.hc) ∧ w3.heap.size < (w3.alloc (oQ4 x3.pa x3.pn x3.pc x3.sa x3.sn x3.sc x3.wa x3.wn x3.wc x3.ha x3.hn x3.hc)).heap.size) := ⟨BoxC.new w3 _ _ _ _ _, by simp⟩
 clear b3 X3 o3 X4 ba g3 y3 cp3
 go_wp2_with fail
 generalize w3.alloc (oQ4 x3.pa x3.pn x3.pc x3.sa x3.sn x3.sc x3.wa x3.wn x3.wc x3.ha x3.hn x3.hc) = wB at *
 refine (implSysOk_any x3 wB Ga.out.1 (SysIn.len_of HS.out Ga.out.2) ((Xa.out.be.cell (p := ⟨0, 0, none⟩) HV0.out).trans HV.out)).mono ?_
 rintro e w5 ⟨rfl, b5⟩
 rw [Ga.out.2, HT.out]
 have S5 : Hid (IsSys w5 w2.heap.size w3.heap.size x x3.v) := Sa.out.below b5 (Nat.le_of_lt Qa.out.2)
 have X6 : Hid (Px W x w5) := Xa.out.below b5
 have Q5 : Hid (BoxC w5 w3.heap.size (.slice x3.pa x3.pn x3.pc) (.slice x3.sa x3.sn x3.sc) (.slice x3.wa x3.wn x3.wc) (.slice x3.ha x3.hn x3.hc) ∧ w3.heap.size < w5.heap.size) := ⟨Qa.out.1.below b5, Nat.lt_of_lt_of_le Qa.out.2 b5.size⟩
 clear b5 Xa Sa Qa Ga HT
 obtain ⟨-, ⟨p0, p1, p2, p3⟩, lt⟩ := X6.out
 obtain ⟨⟨q0, q1, q2, q3⟩, lq⟩ := Q5.out
 go_wp2_with fail
 first | (go_region_with (first | (go_at_call 11; refine (toSys_any x W _ HS.out HA.out (by exact X6.out.be.drew)).mono ?_; rintro e w6 ⟨v6, rfl, o6, b6⟩; have q6 : Below w5.heap.size w5 w6 := (Below.refl w5.heap.size w5).drew.trans b6; have T6 : Hid (∃ l, IsSys w6 l w6.heap.size x v6) := ⟨_, o6⟩; obtain ⟨r0, r1, r2, r3⟩ := Q5.out.1.below q6; have Q6 : Hid (Below w5.heap.size w5 w6) := q6; clear o6 b6 q6) | (go_at_call 13; refine (eqSys_same x w2.heap.size w3.heap.size T6.out.choose _ _ v6 w6 HS.out (S5.out.below Q6.out (by obtain ⟨_, _, _, _, _, _, _, _, _, _, _, q⟩ := S5.out; exact q.hi.2.2.2.1)) T6.out.choose_spec).mono ?_; rintro e w7 ⟨rfl, b7⟩; have Q7 : Hid (Below w5.heap.size w5 w7) := Q6.out.trans (b7.mono Q6.out.size); clear b7))) | fail
 all_goals
  clear r0 r1 r2 r3 p0 p1 p2 p3 lt q0 q1 q2 q3 lq T6 Q6
  have X8 : Hid (Px W x w7) := X6.out.below Q7.out
  clear Q7 X6 S5 Q5
  go_wp2
  go_ret
  exact ⟨rfl, X8.out.be⟩
theorem sysOkLaw_great (x : SysIn) (W : World) (hr : x.Row W) (hm : x.Max) (hs : 1048576 < x.size) :
  Calls Tryz.prog 3 #[sysV x.pa x.pn x.pc x.sa x.sn x.sc x.wa x.wn x.wc x.ha x.hn x.hc] W fun e w' => e = .returned (.bool true) ∧ Below W.heap.size W w' := by
 have HR : Hid (x.Row W) := hr
 have HM : Hid x.Max := hm
 have HS : Hid (1048576 < x.size) := hs
 clear hr hm hs
 go_enter Tryz.func3, Tryz.ntmps3
 go_wp2_with fail
 refine (szSys_great x _ (HR.out.below (below_allocS _ _)) HM.out HS.out).mono ?_
 rintro e w0 ⟨rfl, b0⟩
 have B0 : Hid (Below W.heap.size W w0) := (below_allocS _ _).trans (b0.mono (by simp))
 clear b0
 go_wp2
 go_ret
 exact ⟨rfl, B0.out⟩
end Go.Proofs.YtkjeakklbgpdaaaGreatDoor
