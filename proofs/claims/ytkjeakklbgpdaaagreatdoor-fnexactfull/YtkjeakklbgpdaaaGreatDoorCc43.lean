/- Proved: called with whatever system, the program's Full answers as the model's Full; it writes into no argument, and its answer is its own. One condition, tied to the program's text: errors.errorType holds what its text lays. -/
import Derived.Test.YtkjeakklbgpdaaaGreatDoorCc0
import Derived.Test.YtkjeakklbgpdaaaGreatDoorCc41
import Derived.Test.YtkjeakklbgpdaaaGreatDoorCc39
import Derived.Deep.RegionWith
import Derived.Deep.RegionLaw
import Derived.BigQuiet
import Derived.Test.YtkjeakklbgpdaaaGreatDoorCc42
import Derived.Test.YtkjeakklbgpdaaaGreatDoorCc8
import Derived.Test.YtkjeakklbgpdaaaGreatDoorCards
import Derived.SevenTiedAt
namespace Go.Proofs.YtkjeakklbgpdaaaGreatDoor
set_option maxRecDepth 100000
set_option maxHeartbeats 4000000
open Go.ChangeShapes Go.WideShapes Go.ChangeAt Go.RowKit Go.Deep Go.Sort
theorem l8Full_any (x : SysIn) (w : World) (hG : SysG w x) (hL : x.Len) :
  Calls Tryz.prog 66 #[x.v] w fun e w' => ∃ u, e = .returned u ∧ OwnI w' w.heap.size u (flT x.y x.hn) ∧ Below w.heap.size w w' := by
 have HG : Hid (SysG w x) := hG
 have hl' : (x.hn : Int) ≤ 1048576 := by have := hL.h.1; omega
 have HLh : Hid (∀ i, i < x.hn → x.hL i ≤ 1048576) := hL.h.2
 have BW : Hid (Below w.heap.size w ((w.alloc (oQ4 x.pa x.pn x.pc x.sa x.sn x.sc x.wa x.wn x.wc x.ha x.hn x.hc)).alloc (.cells #[] 3))) := (below_alloc _ _).trans ((below_alloc _ _).mono (by simp))
 have NB : Hid (BoxC ((w.alloc (oQ4 x.pa x.pn x.pc x.sa x.sn x.sc x.wa x.wn x.wc x.ha x.hn x.hc)).alloc (.cells #[] 3)) w.heap.size (.slice x.pa x.pn x.pc) (.slice x.sa x.sn x.sc) (.slice x.wa x.wn x.wc) (.slice x.ha x.hn x.hc)) := (BoxC.new w _ _ _ _ _).below (below_alloc _ _)
 have NO : Hid (OwnI ((w.alloc (oQ4 x.pa x.pn x.pc x.sa x.sn x.sc x.wa x.wn x.wc x.ha x.hn x.hc)).alloc (.cells #[] 3)) (w.heap.size + 1) (.slice (some ⟨w.heap.size + 1, 0, none⟩) 0 0) (flT x.y 0)) := own_emptyN (w.alloc (oQ4 x.pa x.pn x.pc x.sa x.sn x.sc x.wa x.wn x.wc x.ha x.hn x.hc)) (by simp)
 have LT : Hid (w.heap.size + 1 ≤ ((w.alloc (oQ4 x.pa x.pn x.pc x.sa x.sn x.sc x.wa x.wn x.wc x.ha x.hn x.hc)).alloc (.cells #[] 3)).heap.size) := by
  show _ ≤ _
  simp
 clear hG hL
 go_enter Tryz.func66, Tryz.ntmps66
 go_wp2_with fail
 generalize (w.alloc (oQ4 x.pa x.pn x.pc x.sa x.sn x.sc x.wa x.wn x.wc x.ha x.hn x.hc)).alloc (.cells #[] 3) = W2 at *
 go_loopw [3, 4] (fun o i wr => ∃ k : Nat, k ≤ x.hn ∧ i = .int .i64 k ∧ Hid (OwnI wr (w.heap.size + 1) o (flT x.y k) ∧ Below w.heap.size w wr ∧ BoxC wr w.heap.size (.slice x.pa x.pn x.pc) (.slice x.sa x.sn x.sc) (.slice x.wa x.wn x.wc) (.slice x.ha x.hn x.hc) ∧ w.heap.size + 1 ≤ wr.heap.size)) (fun _ i _ => x.hn - (intOf i).toNat)
 case atStart => exact ⟨0, Nat.zero_le _, rfl, NO.out, BW.out, NB.out, LT.out⟩
 case round =>
  clear BW NB NO LT
  obtain ⟨k, hk, rfl, HB⟩ := hrel
  by_cases hlt : k < x.hn
  ·have hlt' : (k : Int) < (x.hn : Int) := by omega
   obtain ⟨bh, oh, eh, ch⟩ := (HG.out.below HB.out.2.1).h.at hlt
   have b3 := HB.out.2.2.1.2.2.2
   rw [eh] at b3
   clear eh
   have hfl := flT_len x.y k
   have hlk : (x.hL k : Int) ≤ 1048576 := by have := HLh.out k hlt; omega
   have HF : Hid (flT x.y (k + 1) = flT x.y k ++ [(x.hL k : Int)]) := flT_next x.y k
   have HFl : Hid ((flT x.y k).length ≤ 1048576) := by show _ ≤ _; omega
   clear hfl
   go_wp2_with (at_builtin; refine append_one wr rfl _ _ rfl (w.heap.size + 1) u3 (flT x.y k) rfl HB.out.1 (x.hL k : Int) rfl HFl.out HB.out.2.2.2 ?_; intro v' w4 o4 b4; have H4 : Hid (OwnI w4 (w.heap.size + 1) v' (flT x.y (k + 1)) ∧ Below w.heap.size w w4 ∧ BoxC w4 w.heap.size (.slice x.pa x.pn x.pc) (.slice x.sa x.sn x.sc) (.slice x.wa x.wn x.wc) (.slice x.ha x.hn x.hc) ∧ w.heap.size + 1 ≤ w4.heap.size) := ⟨o4.to HF.out, HB.out.2.1.trans (b4.mono (by omega)), HB.out.2.2.1.belowB b4 (by omega), Nat.le_trans HB.out.2.2.2 b4.size⟩; clear o4 b4)
   go_roundw
   case rel => exact ⟨k + 1, by omega, by go_num, H4.out⟩
   case measure => simp [intOf]; omega
  ·have hkl : k = x.hn := by omega
   have H4 : Hid (OwnI wr w.heap.size u3 (flT x.y x.hn) ∧ Below w.heap.size w wr) := by
    have := HB.out
    rw [hkl] at this
    exact ⟨this.1.mono (by omega), this.2.1⟩
   have b3 := HB.out.2.2.1.2.2.2
   clear HB hkl
   go_wp2
   go_ret
   exact ⟨_, rfl, H4.out⟩
theorem specFull_any (x : SysIn) (w : World) (hG : SysG w x) (hL : x.Len) (hcap : ∀ i, i < x.hn → x.hL i ≤ x.hC i) :
  Calls Tryz.prog 25 #[x.v] w fun e w' => ∃ u, e = .returned u ∧ OwnI w' w.heap.size u (flS x.y) ∧ Below w.heap.size w w' := by
 have HG : Hid (SysG w x) := hG
 have HL : Hid x.Len := hL
 have HS : Hid (∀ wx, Below w.heap.size w wx → Calls Tryz.prog 10 #[x.v] wx fun e w' => e = .returned (.bool x.y.okB) ∧ Below wx.heap.size wx w') := fun wx hb => specSysOk_any x wx (hG.below hb) hL hcap
 have BW : Hid (Below w.heap.size w (w.alloc (oQ4 x.pa x.pn x.pc x.sa x.sn x.sc x.wa x.wn x.wc x.ha x.hn x.hc))) := below_alloc _ _
 have NB : Hid (BoxC (w.alloc (oQ4 x.pa x.pn x.pc x.sa x.sn x.sc x.wa x.wn x.wc x.ha x.hn x.hc)) w.heap.size (.slice x.pa x.pn x.pc) (.slice x.sa x.sn x.sc) (.slice x.wa x.wn x.wc) (.slice x.ha x.hn x.hc)) := BoxC.new w _ _ _ _ _
 clear hG hL hcap
 go_enter Tryz.func25, Tryz.ntmps25
 go_wp2_with fail
 generalize w.alloc (oQ4 x.pa x.pn x.pc x.sa x.sn x.sc x.wa x.wn x.wc x.ha x.hn x.hc) = W2 at *
 refine (HS.out W2 BW.out).mono ?_
 rintro e w1 ⟨rfl, q1⟩
 have B1 : Hid (Below w.heap.size w w1 ∧ BoxC w1 w.heap.size (.slice x.pa x.pn x.pc) (.slice x.sa x.sn x.sc) (.slice x.wa x.wn x.wc) (.slice x.ha x.hn x.hc)) := ⟨BW.out.trans (q1.mono BW.out.size), NB.out.below q1⟩
 clear q1 BW NB HS
 rcases Bool.eq_false_or_eq_true x.y.okB with t | t
 case inr =>
  have HV : Hid (flS x.y = []) := by
   show flS x.y = []
   rw [flS, if_neg (by rw [t]; simp)]
  have OE : Hid (OwnI (w1.alloc (.cells #[] 3)) w.heap.size (.slice (some ⟨w1.heap.size, 0, none⟩) 0 0) [] ∧ Below w.heap.size w (w1.alloc (.cells #[] 3))) := ⟨(own_empty w1).mono B1.out.1.size, B1.out.1.trans ((below_alloc _ _).mono B1.out.1.size)⟩
  rw [t]
  clear t
  go_wp2
  go_ret
  rw [HV.out]
  exact ⟨_, rfl, OE.out⟩
 have HV : Hid (flS x.y = flT x.y x.hn) := if_pos t
 rw [t]
 clear t
 obtain ⟨b0, b1, b2, b3⟩ := B1.out.2
 go_wp2_with fail
 refine (l8Full_any x w1 (HG.out.below B1.out.1) HL.out).mono ?_
 rintro e w2 ⟨u2, rfl, o2, q2⟩
 have F2 : Hid (OwnI w2 w.heap.size u2 (flS x.y) ∧ Below w.heap.size w w2) := ⟨by rw [HV.out]; exact o2.mono B1.out.1.size, B1.out.1.trans (q2.mono B1.out.1.size)⟩
 clear o2 q2
 go_wp2
 go_ret
 exact ⟨_, rfl, F2.out⟩
theorem flS_len {x : SysIn} (hs : x.size ≤ 1048576) : (flS x.y).length ≤ 1048576 := by
 have h := (SysIn.len_of (x' := x) hs rfl).h.1
 unfold flS
 split
 ·rw [List.length_map, List.length_range]
  exact h
 ·simp
theorem fullLaw_small (x : SysIn) (W : World) (hs : x.size ≤ 1048576) (hA : x.Ok W) (hV : W.cell? ⟨0, 0, none⟩ = some (.iface 177 (.agg #[.pointer (some ⟨1, 133, none⟩)]))) :
  Calls Tryz.prog 7 #[sysV x.pa x.pn x.pc x.sa x.sn x.sc x.wa x.wn x.wc x.ha x.hn x.hc] W fun e w' => e = .returned (.bool true) ∧ Below W.heap.size W w' := by
 have HS : Hid (x.size ≤ 1048576) := hs
 have HA : Hid (x.Ok W) := hA
 have HV : Hid (W.cell? ⟨0, 0, none⟩ = some (.iface 177 (.agg #[.pointer (some ⟨1, 133, none⟩)]))) := hV
 have HV0 : Hid (0 < W.heap.size) := World.block_lt_of_cell? W _ hV
 have hX : (flS x.y).length ≤ 1048576 := flS_len hs
 generalize hN : flS x.y = X at hX
 have HN : Hid (flS x.y = X) := hN
 have hX' : (X.length : Int) ≤ 1048576 := by omega
 have hsz : ¬ (1048576 - (x.size : Int) < 0) := by omega
 have X0 : Hid (Px W x (W.alloc (.cells #[.slice x.pa x.pn x.pc, .slice x.sa x.sn x.sc, .slice x.wa x.wn x.wc, .slice x.ha x.hn x.hc] 27))) := ⟨below_allocS _ _, BoxC.new W _ _ _ _ _, by simp⟩
 clear hN hs hA hV
 go_enter Tryz.func7, Tryz.ntmps7
 go_wp2_with fail
 generalize W.alloc (.cells #[.slice x.pa x.pn x.pc, .slice x.sa x.sn x.sc, .slice x.wa x.wn x.wc, .slice x.ha x.hn x.hc] 27) = wA at *
 refine (szSys_small x wA (HA.out.row.below X0.out.be) HS.out).mono ?_
 rintro e w0 ⟨rfl, b0⟩
 have X1 : Hid (Px W x w0) := X0.out.below b0
 clear b0 X0
 obtain ⟨-, ⟨p0, p1, p2, p3⟩, lt⟩ := X1.out
 go_wp2_with fail
 clear p0 p1 p2 p3 lt
 refine (toSys_any x W w0 HS.out HA.out X1.out.be).mono ?_
 rintro e w1 ⟨v1, rfl, o1, b1⟩
 obtain ⟨x1, rfl, g1, y1, cp1⟩ := o1.g2
 have O1 : Hid (SysG w1 x1 ∧ x1.y = x.y ∧ ∀ i, i < x1.hn → x1.hL i ≤ x1.hC i) := ⟨g1, y1, cp1⟩
 have X2 : Hid (Px W x w1) := X1.out.below b1
 clear b1 X1 o1 g1 y1 cp1
 go_wp2_with fail
 refine (specFull_any x1 w1 O1.out.1 (SysIn.len_of HS.out O1.out.2.1) O1.out.2.2).mono ?_
 rintro e w2 ⟨u2, rfl, o2, b2⟩
 rw [O1.out.2.1, HN.out] at o2
 obtain ⟨aw, cw, rfl, -⟩ := o2.form
 have V2 : Hid (OwnI w2 w1.heap.size (.slice aw X.length cw) X) := o2
 have X3 : Hid (Px W x w2) := X2.out.below b2
 clear b2 X2 o2 O1
 obtain ⟨-, ⟨p0, p1, p2, p3⟩, lt⟩ := X3.out
 go_wp2_with fail
 clear p0 p1 p2 p3 lt
 refine (toSys_any x W w2 HS.out HA.out X3.out.be).mono ?_
 rintro e w3 ⟨v3, rfl, o3, b3⟩
 obtain ⟨x3, rfl, g3, y3, cp3⟩ := o3.g2
 have S3 : Hid (IsSys w3 w2.heap.size w3.heap.size x x3.v) := o3
 have V3 : Hid (OwnI w3 w1.heap.size (.slice aw X.length cw) X) := V2.out.below b3
 have GW : Hid (∀ j, (Value.slice aw X.length cw).ownBlock = some j → j < w2.heap.size) := fun j hj => (V2.out.lt j hj).2
 have X4 : Hid (Px W x w3) := X3.out.below b3
 have LT : Hid (W.heap.size < w2.heap.size ∧ w2.heap.size ≤ w3.heap.size) := ⟨X3.out.lt, b3.size⟩
 have ba : Below w3.heap.size w3 (w3.alloc (oQ4 x3.pa x3.pn x3.pc x3.sa x3.sn x3.sc x3.wa x3.wn x3.wc x3.ha x3.hn x3.hc)) := below_allocS _ _
 have Sa : Hid (IsSys (w3.alloc (oQ4 x3.pa x3.pn x3.pc x3.sa x3.sn x3.sc x3.wa x3.wn x3.wc x3.ha x3.hn x3.hc)) w2.heap.size w3.heap.size x x3.v) := S3.out.below ba (Nat.le_refl _)
 have Va : Hid (OwnI (w3.alloc (oQ4 x3.pa x3.pn x3.pc x3.sa x3.sn x3.sc x3.wa x3.wn x3.wc x3.ha x3.hn x3.hc)) w1.heap.size (.slice aw X.length cw) X) := V3.out.below ba
 have Xa : Hid (Px W x (w3.alloc (oQ4 x3.pa x3.pn x3.pc x3.sa x3.sn x3.sc x3.wa x3.wn x3.wc x3.ha x3.hn x3.hc))) := X4.out.below ba
 have Ga : Hid (SysG (w3.alloc (oQ4 x3.pa x3.pn x3.pc x3.sa x3.sn x3.sc x3.wa x3.wn x3.wc x3.ha x3.hn x3.hc)) x3 ∧ x3.y = x.y) := ⟨g3.below ba, y3⟩
 have Qa : Hid (BoxC (w3.alloc (oQ4 x3.pa x3.pn x3.pc x3.sa x3.sn x3.sc x3.wa x3.wn x3.wc x3.ha x3.hn x3.hc)) w3.heap.size (.slice x3.pa x3.pn x3.pc) (.slice x3.sa x3.sn x3.sc) (.slice x3.wa x3.wn x3.wc) (.slice x3.ha x3.hn x3.hc) ∧ w3.heap.size < (w3.alloc (oQ4 x3.pa x3.pn x3.pc x3.sa x3.sn x3.sc x3.wa x3.wn x3.wc x3.ha x3.hn x3.hc)).heap.size) := ⟨BoxC.new w3 _ _ _ _ _, by simp⟩
 clear b3 X3 o3 V2 V3 X4 S3 ba g3 y3 cp3
 go_wp2_with fail
 generalize w3.alloc (oQ4 x3.pa x3.pn x3.pc x3.sa x3.sn x3.sc x3.wa x3.wn x3.wc x3.ha x3.hn x3.hc) = wB at *
 refine (implFull_any x3 wB Ga.out.1 (SysIn.len_of HS.out Ga.out.2) ((Xa.out.be.cell (p := ⟨0, 0, none⟩) HV0.out).trans HV.out)).mono ?_
 rintro e w4 ⟨u4, rfl, o4, b4⟩
 rw [Ga.out.2, HN.out] at o4
 obtain ⟨ag, cg, rfl, -⟩ := o4.form
 have G4 : Hid (OwnI w4 wB.heap.size (.slice ag X.length cg) X) := o4
 have GG : Hid (∀ j, (Value.slice ag X.length cg).ownBlock = some j → w3.heap.size < j) := fun j hj => Nat.lt_of_lt_of_le Qa.out.2 (o4.lt j hj).1
 have V4 : Hid (OwnI w4 w1.heap.size (.slice aw X.length cw) X) := Va.out.below b4
 have S4' : Hid (IsSys w4 w2.heap.size w3.heap.size x x3.v) := Sa.out.below b4 (Nat.le_of_lt Qa.out.2)
 have X5 : Hid (Px W x w4) := Xa.out.below b4
 have Q4 : Hid (BoxC w4 w3.heap.size (.slice x3.pa x3.pn x3.pc) (.slice x3.sa x3.sn x3.sc) (.slice x3.wa x3.wn x3.wc) (.slice x3.ha x3.hn x3.hc) ∧ w3.heap.size < w4.heap.size) := ⟨Qa.out.1.below b4, Nat.lt_of_lt_of_le Qa.out.2 b4.size⟩
 clear b4 Xa o4 Va Sa Qa Ga
 go_wp2_with fail
 refine (eqIntS_same ag aw cg cw X w4 hX G4.out.sl V4.out.sl).mono ?_
 rintro e w5 ⟨rfl, b5⟩
 have G5 : Hid (OwnI w5 wB.heap.size (.slice ag X.length cg) X) := G4.out.below b5
 have V5 : Hid (OwnI w5 w1.heap.size (.slice aw X.length cw) X) := V4.out.below b5
 have S5 : Hid (IsSys w5 w2.heap.size w3.heap.size x x3.v) := S4'.out.below b5 (by obtain ⟨_, _, _, _, _, _, _, _, _, _, _, q⟩ := S4'.out; exact q.hi.2.2.2.1)
 have X6 : Hid (Px W x w5) := X5.out.below b5
 have Q5 : Hid (BoxC w5 w3.heap.size (.slice x3.pa x3.pn x3.pc) (.slice x3.sa x3.sn x3.sc) (.slice x3.wa x3.wn x3.wc) (.slice x3.ha x3.hn x3.hc) ∧ w3.heap.size < w5.heap.size) := ⟨Q4.out.1.below b5, Nat.lt_of_lt_of_le Q4.out.2 b5.size⟩
 clear Q4
 clear b5 X5 G4 V4 S4'
 obtain ⟨-, ⟨p0, p1, p2, p3⟩, lt⟩ := X6.out
 obtain ⟨⟨q0, q1, q2, q3⟩, lq⟩ := Q5.out
 go_wp2_with fail
 first | (go_region_with (first | (go_at_call 11; refine (toSys_any x W _ HS.out HA.out (by exact X6.out.be.drew)).mono ?_; rintro e w6 ⟨v6, rfl, o6, b6⟩; have q6 : Below w5.heap.size w5 w6 := (Below.refl w5.heap.size w5).drew.trans b6; have T6 : Hid (∃ l, IsSys w6 l w6.heap.size x v6) := ⟨_, o6⟩; obtain ⟨r0, r1, r2, r3⟩ := Q5.out.1.below q6; have Q6 : Hid (Below w5.heap.size w5 w6) := q6; clear o6 b6 q6) | (go_at_call 13; refine (eqSys_same x w2.heap.size w3.heap.size T6.out.choose _ _ v6 w6 HS.out (S5.out.below Q6.out (by obtain ⟨_, _, _, _, _, _, _, _, _, _, _, q⟩ := S5.out; exact q.hi.2.2.2.1)) T6.out.choose_spec).mono ?_; rintro e w7 ⟨rfl, b7⟩; have Q7 : Hid (Below w5.heap.size w5 w7) := Q6.out.trans (b7.mono Q6.out.size); clear b7))) | fail
 all_goals
  clear r0 r1 r2 r3 p0 p1 p2 p3 lt q0 q1 q2 q3 lq T6 Q6
  have G7 : Hid (OwnI w7 wB.heap.size (.slice ag X.length cg) X) := G5.out.below Q7.out
  have V7 : Hid (OwnI w7 w1.heap.size (.slice aw X.length cw) X) := V5.out.below Q7.out
  have S7 : Hid (IsSys w7 w2.heap.size w3.heap.size x x3.v) := S5.out.below Q7.out (by obtain ⟨_, _, _, _, _, _, _, _, _, _, _, q⟩ := S5.out; exact q.hi.2.2.2.1)
  have X8 : Hid (Px W x w7) := X6.out.below Q7.out
  have R7 : Hid (BoxC w7 w3.heap.size (.slice x3.pa x3.pn x3.pc) (.slice x3.sa x3.sn x3.sc) (.slice x3.wa x3.wn x3.wc) (.slice x3.ha x3.hn x3.hc) ∧ w3.heap.size < w7.heap.size) := ⟨Q5.out.1.below Q7.out, Nat.lt_of_lt_of_le Q5.out.2 Q7.out.size⟩
  clear Q7 X6 G5 V5 S5 Q5
  obtain ⟨⟨q0, q1, q2, q3⟩, lq⟩ := R7.out
  go_wp2_with fail
  clear q0 q1 q2 q3 lq
  refine (markSys_any x _ _ _ w7 HS.out S7.out).mono ?_
  rintro e w8 ⟨⟨z, rfl, hz⟩, t8⟩
  have G8 : Hid (OwnI w8 wB.heap.size (.slice ag X.length cg) X) := G7.out.touch t8 fun g hg => by
   have := GG.out g hg
   omega
  have V8 : Hid (OwnI w8 w1.heap.size (.slice aw X.length cw) X) := V7.out.touch t8 fun g hg => by
   have := GW.out g hg
   omega
  have X9 : Hid (Px W x w8) := X8.out.touch t8 fun b hb => by have := LT.out; omega
  clear t8 X8 G7 V7 S7 R7
  go_wp2_with fail
  refine (eqIntS_same ag aw cg cw X w8 hX G8.out.sl V8.out.sl).mono ?_
  rintro e w9 ⟨rfl, b9⟩
  have G9 : Hid (OwnI w9 wB.heap.size (.slice ag X.length cg) X) := G8.out.below b9
  have V9 : Hid (OwnI w9 w1.heap.size (.slice aw X.length cw) X) := V8.out.below b9
  have X10 : Hid (Px W x w9) := X9.out.below b9
  clear b9 X9 G8 V8
  go_wp2_with fail
  refine (markIntS_any ag cg wB.heap.size X 1 w9 hX (by omega) (by omega) G9.out).mono ?_
  rintro e w10 ⟨rfl, m10, g10⟩
  have V10 : Hid (OwnI w10 w1.heap.size (.slice aw X.length cw) X) := V9.out.far g10 fun j hj e => by
   have := GW.out j hj
   have := GG.out j e
   have := LT.out
   omega
  have X11 : Hid (Px W x w10) := X10.out.touch (Touch.of_grown (P := fun b => (Value.slice ag X.length cg).ownBlock = some b) g10 fun b e => e) fun b e => by
   have := GG.out b e
   have := LT.out
   omega
  have M10 : Hid (OwnI w10 wB.heap.size (.slice ag X.length cg) (marks 1 X.length)) := m10
  clear g10 X10 G9 V9 m10
  go_wp2_with fail
  refine (heldIntS_marks ag cg X.length 1 w10 hX (by omega) (by omega) (by have h := M10.out; have hl := marks_length 1 X.length; obtain ⟨a1, c1, e, s⟩ := h.form; rw [hl] at e; simp only [Value.slice.injEq] at e; obtain ⟨rfl, -, -⟩ := e; exact s)).mono ?_
  rintro e w11 ⟨rfl, rfl⟩
  have hq : ¬ (1 + (X.length : Int) < 0) := by omega
  obtain ⟨-, ⟨p0, p1, p2, p3⟩, lt⟩ := X11.out
  go_wp2_with fail
  clear p0 p1 p2 p3 lt
  refine (toSys_any x W w11 HS.out HA.out X11.out.be).mono ?_
  rintro e w12 ⟨v12, rfl, o12, b12⟩
  obtain ⟨x12, rfl, g12, y12, -⟩ := o12.g2
  have S12 : Hid (SysG w12 x12 ∧ x12.y = x.y) := ⟨g12, y12⟩
  have V12 : Hid (OwnI w12 w1.heap.size (.slice aw X.length cw) X) := V10.out.below b12
  have M12 : Hid (OwnI w12 wB.heap.size (.slice ag X.length cg) (marks 1 X.length)) := M10.out.below b12
  have X13 : Hid (Px W x w12) := X11.out.below b12
  clear b12 X11 V10 M10 o12 g12 y12
  go_wp2_with fail
  refine (implFull_any x12 w12 S12.out.1 (SysIn.len_of HS.out S12.out.2) ((X13.out.be.cell (p := ⟨0, 0, none⟩) HV0.out).trans HV.out)).mono ?_
  rintro e w13 ⟨u13, rfl, o13, b13⟩
  rw [S12.out.2, HN.out] at o13
  obtain ⟨ah, ch, rfl, -⟩ := o13.form
  have H13 : Hid (OwnI w13 w12.heap.size (.slice ah X.length ch) X) := o13
  have V13 : Hid (OwnI w13 w1.heap.size (.slice aw X.length cw) X) := V12.out.below b13
  have M13 : Hid (OwnI w13 wB.heap.size (.slice ag X.length cg) (marks 1 X.length)) := M12.out.below b13
  have X14 : Hid (Px W x w13) := X13.out.below b13
  clear b13 X13 V12 M12 o13 S12
  go_wp2_with fail
  refine (eqIntS_same ah aw ch cw X w13 hX H13.out.sl V13.out.sl).mono ?_
  rintro e w14 ⟨rfl, b14⟩
  have M14 : Hid (OwnI w14 wB.heap.size (.slice ag X.length cg) (marks 1 X.length)) := M13.out.below b14
  have X15 : Hid (Px W x w14) := X14.out.below b14
  clear b14 X14 V13 H13 M13
  go_wp2_with fail
  refine (heldIntS_marks ag cg X.length 1 w14 hX (by omega) (by omega) (by have h := M14.out; have hl := marks_length 1 X.length; obtain ⟨a1, c1, e, s⟩ := h.form; rw [hl] at e; simp only [Value.slice.injEq] at e; obtain ⟨rfl, -, -⟩ := e; exact s)).mono ?_
  rintro e w15 ⟨rfl, rfl⟩
  go_wp2
  go_ret
  exact ⟨rfl, X15.out.be⟩
theorem fullLaw_great (x : SysIn) (W : World) (hr : x.Row W) (hm : x.Max) (hs : 1048576 < x.size) :
  Calls Tryz.prog 7 #[sysV x.pa x.pn x.pc x.sa x.sn x.sc x.wa x.wn x.wc x.ha x.hn x.hc] W fun e w' => e = .returned (.bool true) ∧ Below W.heap.size W w' := by
 have HR : Hid (x.Row W) := hr
 have HM : Hid x.Max := hm
 have HS : Hid (1048576 < x.size) := hs
 clear hr hm hs
 go_enter Tryz.func7, Tryz.ntmps7
 go_wp2_with fail
 refine (szSys_great x _ (HR.out.below (below_allocS _ _)) HM.out HS.out).mono ?_
 rintro e w0 ⟨rfl, b0⟩
 have B0 : Hid (Below W.heap.size W w0) := (below_allocS _ _).trans (b0.mono (by simp))
 clear b0
 go_wp2
 go_ret
 exact ⟨rfl, B0.out⟩
theorem fullLifted (os : Os) (started : os.Started) (H : Type) (enc : TypeId × Value → H) :
  ReturnsInHanded {} Tryz.checked os 7 .any (fun w args => (Rows.fnExactFullSpec.pre enc Tryz.prog Tryz.f7 [] false w args ∧ laidMetH Tryz.prog [("errors.errorType", Rows.laid_errors_errorType)] w) ∧ sizedMet enc Tryz.prog Tryz.f7 (OpenSpec.ofChange Rows.fnExactFullSpec) false w args)
   (Rows.fnExactFullSpec.post enc Tryz.prog Tryz.f7 false true false false) := by
 refine returnsInHanded_of_change_and (C := Tryz.checked) (X := fun w _ => laidMetH Tryz.prog [("errors.errorType", Rows.laid_errors_errorType)] w) (fun _ _ _ hh h => h.of_heap hh) Tryz.own started (by kernel_rfl) Tryz.func7
  (ChangeSpec.witness_at (enc := enc) (C := Tryz.checked) (os := os) (X := fun w _ => laidMetH Tryz.prog [("errors.errorType", Rows.laid_errors_errorType)] w) false (laidWorld os) #[sysV none 0 0 none 0 0 none 0 0 none 0 0] 8 rfl (by kernel_rfl) (by kernel_rfl) (by kernel_rfl) (by kernel_rfl) (by kernel_rfl) (laidWorld_met os _)) ?_
 intro W base args ds gs before hval0 hW _ _ hL _
 have hval : ∀ (j : Nat) t v, Tryz.f7.params[j]? = some t → args[j]? = some v → Value.okWide Tryz.prog W .any base t v := hval0
 have hW' := hW
 obtain ⟨p, q, hA0, hV, rfl, hfz, hnd⟩ := hW
 have hA : DataW.TrodAll enc Tryz.prog W 0 (fun _ => true) true Tryz.f7.params.toList args.toList ds p := hA0
 rw [Tryz.params7] at hA hval
 obtain ⟨v0, d0, rfl, rfl, h0⟩ := trodAll_one hA
 obtain ⟨rfl, rfl⟩ := trodVars_none hV
 have lt0 : ∀ x ∈ p, x.block < W.heap.size := by obtain ⟨m, hm⟩ := h0; exact DataW.trod_lt m _ _ _ hm
 have hg := handle_of_laid hL
 clear hA0 hval0
 have hlaw : Calls Tryz.prog 7 #[v0] W fun e w' => e = .returned (.bool true) ∧ Below W.heap.size W w' := by
  obtain ⟨x, e, hr, hm, hy⟩ := open_sys (hval 0 27 v0 rfl rfl) h0
  by_cases hs : x.size ≤ 1048576
  ·obtain ⟨y, ey, hok, hys⟩ := hy hs
   rw [ey]
   exact fullLaw_small y W hys hok hg
  ·rw [e]
   exact fullLaw_great x W hr hm (by omega)
 refine hlaw.mono fun e W' ⟨he, bel⟩ => ?_
 subst he
 exact ⟨_, rfl, _, _, _, [], _, [], hW', trodAll_mk1 (shut_bool Tryz.underlying4 _), trodAll_mk1 (Below.trod Tryz.laidOut (by kernel_rfl) (of_decide_eq_true (by kernel_rfl)) h0 bel lt0), rfl, bel.frame _, fun h => by cases h⟩
theorem fullSaid : Rows.FnExactFullSaid :=
 OpenClaim.holds_of_wide 7 Tryz.f7 rfl rfl rfl rfl rfl rfl rfl ⟨rfl, rfl, rfl, rfl, rfl⟩ rfl rfl rfl rfl rfl (by kernel_rfl) Tryz.func7 (by kernel_rfl)
  (of_decide_eq_true (by kernel_rfl)) (by unfold Func.isWrapper; first | (rw [if_pos (by decide +kernel)]; kernel_rfl) | (rw [if_neg (by decide +kernel)]; exact ⟨rfl, rfl⟩))
  (fun os started H enc _ => fullLifted os started H enc)
theorem fullPlain (f : FuncId) (fn : Func) (hf : Tryz.pinned.checked.prog.funcNamed "loop.example/g00196/laws.FnExactFull" = some f) (hfn : Tryz.pinned.checked.prog.funcs[f]? = some fn) :
  true = Tryz.pinned.checked.prog.looks [] ∧ ∀ (j : Nat) t, fn.params[j]? = some t → Tryz.pinned.checked.prog.wantsStandIn t = false := by
 obtain rfl : f = 7 := Option.some.inj ((show Tryz.prog.funcNamed "loop.example/g00196/laws.FnExactFull" = some 7 by kernel_rfl).symm.trans hf) |>.symm
 obtain rfl : fn = Tryz.f7 := (Option.some.inj (Tryz.func7.symm.trans hfn)).symm
 refine ⟨by kernel_rfl, fun j t ht => ?_⟩
 rw [Tryz.params7] at ht
 have hm := Array.mem_of_getElem? ht
 simp at hm
 obtain rfl := hm
 exact (show Tryz.prog.wantsStandIn 27 = false by kernel_rfl)
theorem full_card : Rows.FnExactFullCardSaid :=
 Claim7.holds_tied_plain_at .later [] _ _ _ _ fullSaid (fun _ h => by cases h) (by kernel_rfl) (fun _ h => by cases h) fnExactFull_row_tie rfl ⟨rfl, rfl⟩ (by kernel_rfl) rfl fullPlain (by kernel_rfl)
end Go.Proofs.YtkjeakklbgpdaaaGreatDoor
