/- The law of Close. -/
import Derived.Test.YtkjeakklbgpdaaaGreatDoorCc0
import Derived.Test.YtkjeakklbgpdaaaGreatDoorCc42
import Derived.Test.YtkjeakklbgpdaaaGreatDoorCc41
import Derived.ScopeJumps
import Derived.WalkMore
import Derived.Test.YtkjeakklbgpdaaaGreatDoorCc32
namespace Go.Proofs.YtkjeakklbgpdaaaGreatDoor
set_option maxRecDepth 100000
set_option maxHeartbeats 4000000
open Go.ChangeShapes Go.WideShapes Go.ChangeAt Go.RowKit Go.Deep
theorem cutOkLaw_small (x : SysIn) (ca : Option Addr) (cc : Nat) (c : List Int) (W : World) (hs : x.size ≤ 1048576) (hA : x.Ok W) (hcl : c.length ≤ 1048576) (hc : Sl W ca c) (hV : W.cell? ⟨0, 0, none⟩ = some (.iface 177 (.agg #[.pointer (some ⟨1, 133, none⟩)]))) :
  Calls Tryz.prog 4 #[sysV x.pa x.pn x.pc x.sa x.sn x.sc x.wa x.wn x.wc x.ha x.hn x.hc, .slice ca c.length cc] W fun e w' => e = .returned (.bool true) ∧ Below W.heap.size W w' := by
 have HS : Hid (x.size ≤ 1048576) := hs
 have HA : Hid (x.Ok W) := hA
 have HC : Hid (Sl W ca c) := hc
 have HCL : Hid (c.length ≤ 1048576) := hcl
 have hcl' : (c.length : Int) ≤ 1048576 := by omega
 have HV : Hid (W.cell? ⟨0, 0, none⟩ = some (.iface 177 (.agg #[.pointer (some ⟨1, 133, none⟩)]))) := hV
 have HV0 : Hid (0 < W.heap.size) := World.block_lt_of_cell? W _ hV
 have hsz : ¬ (1048576 - (x.size : Int) < 0) := by omega
 have X0 : Hid (Px W x (W.alloc (.cells #[.slice x.pa x.pn x.pc, .slice x.sa x.sn x.sc, .slice x.wa x.wn x.wc, .slice x.ha x.hn x.hc] 27))) := ⟨below_allocS _ _, BoxC.new W _ _ _ _ _, by simp⟩
 obtain ⟨T, hT⟩ : ∃ T, cutB x.y c = T := ⟨_, rfl⟩
 have HT : Hid (cutB x.y c = T) := hT
 clear hT
 clear hs hA hV hc hcl
 go_enter Tryz.func4, Tryz.ntmps4
 go_wp2_with fail
 generalize W.alloc (.cells #[.slice x.pa x.pn x.pc, .slice x.sa x.sn x.sc, .slice x.wa x.wn x.wc, .slice x.ha x.hn x.hc] 27) = wA at *
 refine (szSys_small x wA (HA.out.row.below X0.out.be) HS.out).mono ?_
 rintro e w0 ⟨rfl, b0⟩
 have X1 : Hid (Px W x w0) := X0.out.below b0
 clear b0 X0
 obtain ⟨-, ⟨p0, p1, p2, p3⟩, lt⟩ := X1.out
 go_wp2_with fail
 clear p0 p1 p2 p3 lt
 refine (toSys_any x W w0 HS.out HA.out X1.out.be).mono ?_
 rintro e w1 ⟨v1, rfl, o1, b1⟩
 obtain ⟨x1, rfl, g1, y1, cp1⟩ := o1.g2
 have O1 : Hid (SysG w1 x1 ∧ x1.y = x.y ∧ ∀ i, i < x1.hn → x1.hL i ≤ x1.hC i) := ⟨g1, y1, cp1⟩
 have X2 : Hid (Px W x w1) := X1.out.below b1
 clear b1 X1 o1 g1 y1 cp1
 go_wp2_with fail
 refine (toIntS_any ca cc c w1 HCL.out (HC.out.below X2.out.be)).mono ?_
 rintro e w1b ⟨rfl, oc, -, b1b⟩
 have X2b : Hid (Px W x w1b) := X2.out.below b1b
 have O1b : Hid (SysG w1b x1 ∧ x1.y = x.y ∧ (∀ i, i < x1.hn → x1.hL i ≤ x1.hC i) ∧ Sl w1b (some ⟨w1.heap.size, 0, none⟩) c) := ⟨O1.out.1.below b1b, O1.out.2.1, O1.out.2.2, oc.slOf⟩
 clear b1b oc O1 X2
 generalize w1.heap.size = N1 at *
 go_wp2_with fail
 refine (specCutOk_any x1 (some ⟨N1, 0, none⟩) c.length c w1b O1b.out.1 (SysIn.len_of HS.out O1b.out.2.1) O1b.out.2.2.1 O1b.out.2.2.2 HCL.out).mono ?_
 rintro e w2 ⟨rfl, b2⟩
 have X3 : Hid (Px W x w2) := X2b.out.below b2
 rw [O1b.out.2.1, HT.out]
 clear b2 X2b O1b
 obtain ⟨-, ⟨p0, p1, p2, p3⟩, lt⟩ := X3.out
 go_wp2_with fail
 clear p0 p1 p2 p3 lt
 refine (toSys_any x W w2 HS.out HA.out X3.out.be).mono ?_
 rintro e w3 ⟨v3, rfl, o3, b3⟩
 obtain ⟨x3, rfl, g3, y3, cp3⟩ := o3.g2
 have ba : Below w3.heap.size w3 (w3.alloc (oQ4 x3.pa x3.pn x3.pc x3.sa x3.sn x3.sc x3.wa x3.wn x3.wc x3.ha x3.hn x3.hc)) := below_allocS _ _
 have X4 : Hid (Px W x w3) := X3.out.below b3
 have Xa : Hid (Px W x (w3.alloc (oQ4 x3.pa x3.pn x3.pc x3.sa x3.sn x3.sc x3.wa x3.wn x3.wc x3.ha x3.hn x3.hc))) := X4.out.below ba
 have Sa : Hid (IsSys (w3.alloc (oQ4 x3.pa x3.pn x3.pc x3.sa x3.sn x3.sc x3.wa x3.wn x3.wc x3.ha x3.hn x3.hc)) w2.heap.size w3.heap.size x x3.v) := o3.below ba (Nat.le_refl _)
 have Ga : Hid (SysG (w3.alloc (oQ4 x3.pa x3.pn x3.pc x3.sa x3.sn x3.sc x3.wa x3.wn x3.wc x3.ha x3.hn x3.hc)) x3 ∧ x3.y = x.y ∧ ∀ i, i < x3.hn → x3.hL i ≤ x3.hC i) := ⟨g3.below ba, y3, cp3⟩
 have Qa : Hid (BoxC (w3.alloc (oQ4 x3.pa x3.pn x3.pc x3.sa x3.sn x3.sc x3.wa x3.wn x3.wc x3.ha x3.hn x3.hc)) w3.heap.size (.slice x3.pa x3.pn x3.pc) (.slice x3.sa x3.sn x3.sc) (.slice x3.wa x3.wn x3.wc) (.slice x3.ha x3.hn x3.hc) ∧ w3.heap.size < (w3.alloc (oQ4 x3.pa x3.pn x3.pc x3.sa x3.sn x3.sc x3.wa x3.wn x3.wc x3.ha x3.hn x3.hc)).heap.size) := ⟨BoxC.new w3 _ _ _ _ _, by simp⟩
 clear b3 X3 o3 X4 ba g3 y3 cp3
 go_wp2_with fail
 generalize w3.alloc (oQ4 x3.pa x3.pn x3.pc x3.sa x3.sn x3.sc x3.wa x3.wn x3.wc x3.ha x3.hn x3.hc) = wB at *
 refine (toIntS_any ca cc c wB HCL.out (HC.out.below Xa.out.be)).mono ?_
 rintro e wC ⟨rfl, oC, ltC, bC⟩
 have Xc : Hid (Px W x wC) := Xa.out.below bC
 have Sc : Hid (IsSys wC w2.heap.size w3.heap.size x x3.v) := Sa.out.below bC (Nat.le_of_lt Qa.out.2)
 have Gc : Hid (SysG wC x3 ∧ x3.y = x.y ∧ ∀ i, i < x3.hn → x3.hL i ≤ x3.hC i) := ⟨Ga.out.1.below bC, Ga.out.2⟩
 have Qc : Hid (BoxC wC w3.heap.size (.slice x3.pa x3.pn x3.pc) (.slice x3.sa x3.sn x3.sc) (.slice x3.wa x3.wn x3.wc) (.slice x3.ha x3.hn x3.hc) ∧ w3.heap.size < wC.heap.size) := ⟨Qa.out.1.below bC, Nat.lt_of_lt_of_le Qa.out.2 bC.size⟩
 have Oc : Hid (OwnI wC wB.heap.size (.slice (some ⟨wB.heap.size, 0, none⟩) c.length c.length) c ∧ wB.heap.size < wC.heap.size ∧ w3.heap.size < wB.heap.size) := ⟨oC, ltC, Qa.out.2⟩
 clear bC oC ltC Xa Sa Ga Qa
 generalize hNB : wB.heap.size = NB at *
 clear hNB
 obtain ⟨q0, q1, q2, q3⟩ := Qc.out.1
 go_wp2_with fail
 clear q0 q1 q2 q3
 refine (implCutOk_any x3 (some ⟨NB, 0, none⟩) c.length c wC Gc.out.1 (SysIn.len_of HS.out Gc.out.2.1) Oc.out.1.slOf HCL.out ((Xc.out.be.cell (p := ⟨0, 0, none⟩) HV0.out).trans HV.out)).mono ?_
 rintro e w5 ⟨rfl, b5⟩
 rw [Gc.out.2.1, HT.out]
 have S5 : Hid (IsSys w5 w2.heap.size w3.heap.size x x3.v) := Sc.out.below b5 (Nat.le_of_lt Qc.out.2)
 have X6 : Hid (Px W x w5) := Xc.out.below b5
 have Q5 : Hid (BoxC w5 w3.heap.size (.slice x3.pa x3.pn x3.pc) (.slice x3.sa x3.sn x3.sc) (.slice x3.wa x3.wn x3.wc) (.slice x3.ha x3.hn x3.hc) ∧ w3.heap.size < w5.heap.size) := ⟨Qc.out.1.below b5, Nat.lt_of_lt_of_le Qc.out.2 b5.size⟩
 have O5 : Hid (OwnI w5 NB (.slice (some ⟨NB, 0, none⟩) c.length c.length) c) := Oc.out.1.below b5
 clear b5 Xc Sc Qc Gc Oc HT
 obtain ⟨-, ⟨p0, p1, p2, p3⟩, lt⟩ := X6.out
 obtain ⟨⟨q0, q1, q2, q3⟩, lq⟩ := Q5.out
 go_wp2_with fail
 first | (go_region_with (first | (go_at_call 11; refine (toSys_any x W _ HS.out HA.out (by exact X6.out.be.drew)).mono ?_; rintro e w6 ⟨v6, rfl, o6, b6⟩; have q6 : Below w5.heap.size w5 w6 := (Below.refl w5.heap.size w5).drew.trans b6; have T6 : Hid (∃ l, IsSys w6 l w6.heap.size x v6) := ⟨_, o6⟩; obtain ⟨r0, r1, r2, r3⟩ := Q5.out.1.below q6; have Q6 : Hid (Below w5.heap.size w5 w6) := q6; clear o6 b6 q6) | (go_at_call 13; refine (eqSys_same x w2.heap.size w3.heap.size T6.out.choose _ _ v6 w6 HS.out (S5.out.below Q6.out (by obtain ⟨_, _, _, _, _, _, _, _, _, _, _, q⟩ := S5.out; exact q.hi.2.2.2.1)) T6.out.choose_spec).mono ?_; rintro e w7 ⟨rfl, b7⟩; have Q7 : Hid (Below w5.heap.size w5 w7) := Q6.out.trans (b7.mono Q6.out.size); clear b7))) | fail
 all_goals
  clear r0 r1 r2 r3 p0 p1 p2 p3 lt q0 q1 q2 q3 lq T6 Q6
  have X8 : Hid (Px W x w7) := X6.out.below Q7.out
  have O8 : Hid (OwnI w7 NB (.slice (some ⟨NB, 0, none⟩) c.length c.length) c) := O5.out.below Q7.out
  clear Q7 X6 S5 Q5 O5
  go_wp2_with fail
  refine (toIntS_any ca cc c w7 HCL.out (HC.out.below X8.out.be)).mono ?_
  rintro e w8 ⟨rfl, o8, -, b8⟩
  have X9 : Hid (Px W x w8 ∧ Sl w8 (some ⟨NB, 0, none⟩) c ∧ Sl w8 (some ⟨w7.heap.size, 0, none⟩) c) := ⟨X8.out.below b8, (O8.out.below b8).slOf, o8.slOf⟩
  clear b8 o8 X8 O8
  go_wp2_with fail
  refine (eqIntS_same _ _ _ _ c w8 HCL.out X9.out.2.1 X9.out.2.2).mono ?_
  rintro e w9 ⟨rfl, b9⟩
  have X10 : Hid (Px W x w9) := X9.out.1.below b9
  clear b9 X9
  go_wp2
  go_ret
  exact ⟨rfl, X10.out.be⟩
theorem cutOkLaw_great (x : SysIn) (ca : Option Addr) (n cc : Nat) (W : World) (hr : x.Row W) (hm : x.Max) (hs : 1048576 < x.size) (hn : n ≤ 1048576) :
  Calls Tryz.prog 4 #[sysV x.pa x.pn x.pc x.sa x.sn x.sc x.wa x.wn x.wc x.ha x.hn x.hc, .slice ca n cc] W fun e w' => e = .returned (.bool true) ∧ Below W.heap.size W w' := by
 have HR : Hid (x.Row W) := hr
 have HM : Hid x.Max := hm
 have HS : Hid (1048576 < x.size) := hs
 have hn' : (n : Int) ≤ 1048576 := by omega
 clear hr hm hs
 go_enter Tryz.func4, Tryz.ntmps4
 go_wp2_with fail
 refine (szSys_great x _ (HR.out.below (below_allocS _ _)) HM.out HS.out).mono ?_
 rintro e w0 ⟨rfl, b0⟩
 have B0 : Hid (Below W.heap.size W w0) := (below_allocS _ _).trans (b0.mono (by simp))
 clear b0
 go_wp2
 go_ret
 exact ⟨rfl, B0.out⟩
theorem cutOkLaw_long (x : SysIn) (ca : Option Addr) (n cc : Nat) (W : World) (hn : 1048576 < n) :
  Calls Tryz.prog 4 #[sysV x.pa x.pn x.pc x.sa x.sn x.sc x.wa x.wn x.wc x.ha x.hn x.hc, .slice ca n cc] W fun e w' => e = .returned (.bool true) ∧ Below W.heap.size W w' := by
 have hn' : (1048576 : Int) < (n : Int) := by omega
 go_enter Tryz.func4, Tryz.ntmps4
 go_wp2
 go_ret
 exact ⟨rfl, below_allocS _ _⟩
open Go.Sort
theorem own_blk {N n c k : Nat} (h : (Value.slice (some ⟨N, 0, none⟩) n c).ownBlock = some k) : N = k := by
 cases h
 rfl
def sm : List Int → Nat
 | [] => 0
 | x :: xs => x.toNat + sm xs
theorem sm_set : ∀ (e : List Int) (b : Nat) (k : Int), b < e.length → k < zi e b → 0 ≤ k → sm (e.set b k) < sm e
 | [], b, k, hb, _, _ => by simp at hb
 | x :: xs, 0, k, _, hk, h0 => by
  have h1 : zi (x :: xs) 0 = x := rfl
  rw [h1] at hk
  simp only [List.set_cons_zero, sm]
  omega
 | x :: xs, b + 1, k, hb, hk, h0 => by
  have h1 : zi (x :: xs) (b + 1) = zi xs b := rfl
  rw [h1] at hk
  have := sm_set xs b k (by simpa using hb) hk h0
  simp only [List.set_cons_succ, sm]
  omega
structure CW (w wr : World) (x : SysIn) (g cap : Nat) (c e : List Int) : Prop where
 ow : OwnI wr (w.heap.size + 1) (.slice (some ⟨g, 0, none⟩) c.length cap) e
 be : Below w.heap.size w wr
 bx : BoxC wr w.heap.size (.slice x.pa x.pn x.pc) (.slice x.sa x.sn x.sc) (.slice x.wa x.wn x.wc) (.slice x.ha x.hn x.hc)
 cl : x.y.Cl c e
 ln : e.length = c.length
theorem CW.g {w wr : World} {x : SysIn} {g cap : Nat} {c e : List Int} (h : CW w wr x g cap c e) : w.heap.size + 1 ≤ g ∧ g < wr.heap.size := h.ow.lt g rfl
theorem CW.below {w wr w' : World} {x : SysIn} {g cap : Nat} {c e : List Int} (h : CW w wr x g cap c e) (hb : Below wr.heap.size wr w') : CW w w' x g cap c e := ⟨h.ow.below hb, h.be.trans (hb.mono h.be.size), h.bx.below hb, h.cl, h.ln⟩
theorem CW.slOf {w wr : World} {x : SysIn} {g cap : Nat} {c e : List Int} (h : CW w wr x g cap c e) : Sl wr (some ⟨g, 0, none⟩) e := h.ow.slOf
theorem CW.cell {w wr : World} {x : SysIn} {g cap : Nat} {c e : List Int} (h : CW w wr x g cap c e) {b : Nat} (hb : b < c.length) : wr.cell? ⟨g, b, none⟩ = some (.int .i64 (zi e b)) ∧ wr.frozen? ⟨g, b, none⟩ = false := by
 have ho := h.ow
 rw [← h.ln] at ho hb
 exact ⟨ho.cell hb, ho.frozen b⟩
theorem CW.put {w wr : World} {x : SysIn} {g cap : Nat} {c e : List Int} (h : CW w wr x g cap c e) {b : Nat} {k : Int} (hn : x.y.Cl c (e.set b k)) : CW w (wr.setCell ⟨g, b, none⟩ (.int .i64 k)) x g cap c (e.set b k) := by
 have hg := h.g
 obtain ⟨h0, h1, h2, h3⟩ := h.bx
 have hc : ∀ i, (wr.setCell ⟨g, b, none⟩ (.int .i64 k)).cell? ⟨w.heap.size, i, none⟩ = wr.cell? ⟨w.heap.size, i, none⟩ := fun i => World.cell?_setCell_other _ _ _ _ (by intro e; injection e with e; omega)
 exact ⟨(h.ow.set h.ln.symm b k).1, h.be.setCell (by simp; omega) _, ⟨(hc _).trans h0, (hc _).trans h1, (hc _).trans h2, (hc _).trans h3⟩, hn, by rw [List.length_set]; exact h.ln⟩
theorem l8Close_any (x : SysIn) (ca : Option Addr) (cc : Nat) (c : List Int) (w : World) (hG : SysG w x) (hcap : ∀ i, i < x.hn → x.hL i ≤ x.hC i) (ht : cutB x.y c = true) (hc : Sl w ca c) :
  Calls Tryz.prog 59 #[x.v, .slice ca c.length cc] w fun e w' => ∃ u, e = .returned u ∧ OwnI w' w.heap.size u (clS x.y c) ∧ Below w.heap.size w w' := by
 obtain ⟨hO, hC⟩ := cutB_parts ht
 have hln : c.length = x.pn := hC.len
 have h1 : 1 ≤ x.pn := hO.cn.1.1
 have h4 : x.pn ≤ 4 := hO.cn.1.2
 have hl' : (c.length : Int) ≤ 4 := by omega
 have HQ : Hid (c.length = x.pn ∧ 0 < c.length ∧ c.length ≤ 4) := ⟨hln, by omega, by omega⟩
 have HSl : Hid (Sl w ca c) := hc
 have HWh : Hid (∀ wr g cap e, CW w wr x g cap c e → Calls Tryz.prog 56 #[x.v, .slice (some ⟨g, 0, none⟩) c.length cap] wr fun r w' => r = .returned (.bool (qB (x.y.Wh (cN e)))) ∧ Below wr.heap.size wr w') := fun wr g cap e h => by
  have := l8Whole_any x (some ⟨g, 0, none⟩) cap e wr (hG.below h.be) hcap hO (h.cl.cut hC) h.slOf
  rwa [h.ln] at this
 have HOv : Hid (∀ wr g cap e a b, CW w wr x g cap c e → a < c.length → b < c.length → Calls Tryz.prog 105 #[x.v, .slice (some ⟨g, 0, none⟩) c.length cap, .int .i64 (a : Nat), .int .i64 (b : Nat)] wr fun r w' => r = .returned (.int .i64 (ovN x.y (cN e) a b)) ∧ Below wr.heap.size wr w') := fun wr g cap e a b h ha hb => by
  have := l8Over_any x (some ⟨g, 0, none⟩) cap e a b wr (hG.below h.be) hcap hO (h.cl.cut hC) h.slOf (by omega) (by omega)
  rwa [h.ln] at this
 have HSt : Hid (x.y.Cl c c) := Sy.Cl.start hC
 have HEnd : Hid (∀ e, x.y.Cl c e → x.y.Wh (cN e) → clS x.y c = e) := fun e h h' => clS_yes ht h h'
 have BW : Hid (Below w.heap.size w (w.alloc (oQ4 x.pa x.pn x.pc x.sa x.sn x.sc x.wa x.wn x.wc x.ha x.hn x.hc))) := below_alloc _ _
 have NB : Hid (BoxC (w.alloc (oQ4 x.pa x.pn x.pc x.sa x.sn x.sc x.wa x.wn x.wc x.ha x.hn x.hc)) w.heap.size (.slice x.pa x.pn x.pc) (.slice x.sa x.sn x.sc) (.slice x.wa x.wn x.wc) (.slice x.ha x.hn x.hc)) := BoxC.new w _ _ _ _ _
 have NS : Hid ((w.alloc (oQ4 x.pa x.pn x.pc x.sa x.sn x.sc x.wa x.wn x.wc x.ha x.hn x.hc)).heap.size = w.heap.size + 1) := by show _ = _; simp
 clear hG hcap hO hC hc hln h1 h4 ht
 go_enter Tryz.func59, Tryz.ntmps59
 go_upto_region 1 with fail
 generalize w.alloc (oQ4 x.pa x.pn x.pc x.sa x.sn x.sc x.wa x.wn x.wc x.ha x.hn x.hc) = W2 at *
 have HL4 : Hid (([] : List Int).length + c.length ≤ 4000000 ∧ W2.heap.size ≤ (W2.alloc (.cells #[] 3)).heap.size ∧ Sl (W2.alloc (.cells #[] 3)) ca c) := ⟨by have := HQ.out; simp; omega, by simp, (HSl.out.below BW.out).below (below_alloc _ _)⟩
 go_wp2_with (at_builtin; refine wpList_append_ints _ rfl _ _ rfl W2.heap.size cc (.slice (some ⟨W2.heap.size, 0, none⟩) 0 0) ca [] c rfl rfl (own_empty W2) HL4.out.2.2 HL4.out.1 HL4.out.2.1 ?_; intro v4 w4 o4 g4 _; obtain ⟨g, cap, rfl, -, -⟩ := (show OwnI w4 W2.heap.size v4 c from o4).block HQ.out.2.1; have H4 : Hid (CW w w4 x g cap c c) := ⟨OwnI.mono (show OwnI w4 W2.heap.size _ c from o4) (by rw [NS.out]; omega), Below.grown (BW.out.trans ((below_alloc _ _).mono BW.out.size)) g4 (by have := BW.out.size; simp; omega) (fun k hk => by have := own_blk hk; have := NS.out; omega), NB.out.belowB (B := w.heap.size + 1) (Below.grown ((below_alloc _ _).mono (by rw [NS.out]; omega)) g4 (by have := NS.out; simp; omega) (fun k hk => by have := own_blk hk; have := NS.out; omega)) (by omega), HSt.out, rfl⟩; clear o4 g4)
 clear BW NB NS HL4 HSt
 go_loopg [6] (sm c) (fun gn _ wr => ∃ e, gn = sm e ∧ Hid (CW w wr x g cap c e))
 case atStart => exact ⟨c, rfl, H4.out⟩
 case round =>
  clear H4
  obtain ⟨e, hgn, HB⟩ := hrel
  have HGN : Hid (gk = sm e) := hgn
  clear hgn
  obtain ⟨b0, b1, b2, b3⟩ := HB.out.bx
  go_wp2_with fail
  refine (HWh.out _ g cap e HB.out).mono ?_
  rintro r w5 ⟨rfl, q5⟩
  have B5 : Hid (CW w w5 x g cap c e) := HB.out.below q5
  clear q5 b0 b1 b2 b3 HB
  by_cases hw : x.y.Wh (cN e)
  ·rw [qB_true hw]
   have HV : Hid (OwnI w5 w.heap.size (.slice (some ⟨g, 0, none⟩) c.length cap) (clS x.y c) ∧ Below w.heap.size w w5) := by
    have h := HEnd.out e B5.out.cl hw
    refine ⟨?_, B5.out.be⟩
    rw [h]
    exact B5.out.ow.mono (by omega)
   clear hw B5
   go_wp2
   go_ret
   exact ⟨_, rfl, HV.out⟩
  rw [qB_false hw]
  have HNW : Hid (¬ x.y.Wh (cN e)) := hw
  clear hw
  go_wp2_with fail
  go_loopw [6] (fun i wr => ∃ (k : Nat) (e' : List Int), k ≤ c.length ∧ i = .int .i64 k ∧ Hid (CW w wr x g cap c e' ∧ (sm e' < sm e ∨ (e' = e ∧ ∀ a, a < k → ∀ b, b < c.length → tN x.y (cN e) a b ≤ sN x.y (cN e) a b)))) (fun i _ => c.length - (intOf i).toNat)
  case atStart => exact ⟨0, e, Nat.zero_le _, rfl, B5.out, .inr ⟨rfl, fun a ha => by omega⟩⟩
  case round =>
   clear B5
   obtain ⟨k, e1, hk, rfl, HB⟩ := hrel
   by_cases hlt : k < c.length
   ·have hlt' : (k : Int) < (c.length : Int) := by omega
    go_wp2_with fail
    go_loopw [7] (fun i wr => ∃ (j : Nat) (e' : List Int), j ≤ c.length ∧ i = .int .i64 j ∧ Hid (CW w wr x g cap c e' ∧ (sm e' < sm e ∨ (e' = e ∧ (∀ a, a < k → ∀ b, b < c.length → tN x.y (cN e) a b ≤ sN x.y (cN e) a b) ∧ ∀ b, b < j → tN x.y (cN e) k b ≤ sN x.y (cN e) k b)))) (fun i _ => c.length - (intOf i).toNat)
    case atStart => exact ⟨0, e1, Nat.zero_le _, rfl, HB.out.1, HB.out.2.imp id fun h => ⟨h.1, h.2, fun b hb => by omega⟩⟩
    case round =>
     clear HB
     obtain ⟨j, e2, hj, rfl, HB⟩ := hrel
     by_cases hjt : j < c.length
     ·have hjt' : (j : Int) < (c.length : Int) := by omega
      obtain ⟨b0, b1, b2, b3⟩ := HB.out.1.bx
      go_wp2_with fail
      refine (HOv.out _ g cap e2 k j HB.out.1 hlt hjt).mono ?_
      rintro r w6 ⟨rfl, q6⟩
      have B6 : Hid (CW w w6 x g cap c e2 ∧ (sm e2 < sm e ∨ (e2 = e ∧ (∀ a, a < k → ∀ b, b < c.length → tN x.y (cN e) a b ≤ sN x.y (cN e) a b) ∧ ∀ b, b < j → tN x.y (cN e) k b ≤ sN x.y (cN e) k b))) := ⟨HB.out.1.below q6, HB.out.2⟩
      have HN : Hid (ovN x.y (cN e2) k j < 0 ↔ tN x.y (cN e2) k j ≤ sN x.y (cN e2) k j) := ovN_neg
      have HX : Hid (0 ≤ ovN x.y (cN e2) k j → x.y.Cl c (e2.set j (ovN x.y (cN e2) k j)) ∧ sm (e2.set j (ovN x.y (cN e2) k j)) < sm e2) := fun h => by
       have hq := HQ.out
       obtain ⟨h1, h2, h3⟩ := B6.out.1.cl.next (a := k) (b := j) (by show k < x.pn; omega) (by show j < x.pn; omega) h
       exact ⟨h1, sm_set e2 j _ (by rw [B6.out.1.ln]; exact hjt) h3 h2⟩
      generalize ovN x.y (cN e2) k j = ov at *
      clear q6 b0 b1 b2 b3 HB
      by_cases ho : 0 ≤ ov
      ·obtain ⟨ce, cf⟩ := B6.out.1.cell hjt
       have B7 : Hid (CW w (w6.setCell ⟨g, j, none⟩ (.int .i64 ov)) x g cap c (e2.set j ov) ∧ sm (e2.set j ov) < sm e) := ⟨B6.out.1.put (HX.out ho).1, by
        have h1 := (HX.out ho).2
        rcases B6.out.2 with h | ⟨h, -⟩
        ·omega
        ·rw [← h]; exact h1⟩
       clear HN HX B6
       go_wp2
       go_roundw
       case rel => exact ⟨j + 1, _, by omega, by go_num, B7.out.1, .inl B7.out.2⟩
       case measure => simp [intOf]; omega
      ·have HJ : Hid (sm e2 < sm e ∨ (e2 = e ∧ (∀ a, a < k → ∀ b, b < c.length → tN x.y (cN e) a b ≤ sN x.y (cN e) a b) ∧ ∀ b, b < j + 1 → tN x.y (cN e) k b ≤ sN x.y (cN e) k b)) := B6.out.2.imp id fun ⟨h1, h2, h3⟩ => ⟨h1, h2, fun b hb => by
        by_cases eb : b = j
        ·subst eb
         rw [← h1]
         exact HN.out.1 (by omega)
        ·exact h3 b (by omega)⟩
       have B7 : Hid (CW w w6 x g cap c e2) := B6.out.1
       clear HN HX B6
       go_wp2
       go_roundw
       case rel => exact ⟨j + 1, e2, by omega, by go_num, B7.out, HJ.out⟩
       case measure => simp [intOf]; omega
     ·have HK : Hid (CW w wr x g cap c e2 ∧ (sm e2 < sm e ∨ (e2 = e ∧ ∀ a, a < k + 1 → ∀ b, b < c.length → tN x.y (cN e) a b ≤ sN x.y (cN e) a b))) := ⟨HB.out.1, HB.out.2.imp id fun ⟨h1, h2, h3⟩ => ⟨h1, fun a ha b hb => by
       by_cases ea : a = k
       ·subst ea
        exact h3 b (by omega)
       ·exact h2 a (by omega) b hb⟩⟩
      clear HB
      go_wp2
      go_roundw
      case rel => exact ⟨k + 1, e2, by omega, by go_num, HK.out⟩
      case measure => simp [intOf]; omega
   ·have HK : Hid (CW w wr x g cap c e1 ∧ sm e1 < gk) := ⟨HB.out.1, by
     rw [HGN.out]
     rcases HB.out.2 with h | ⟨h1, h2⟩
     ·exact h
     ·exact absurd (fun a ha b hb => h2 a (by have := HQ.out; have h3 : a < x.pn := ha; omega) b (by have := HQ.out; have h3 : b < x.pn := hb; omega)) HNW.out⟩
    clear HB HGN HNW
    go_wp2
    go_roundg (sm e1)
    case measure => exact HK.out.2
    case rel => exact ⟨e1, rfl, HK.out.1⟩
theorem specClose_any (x : SysIn) (ca : Option Addr) (cc : Nat) (c : List Int) (w : World) (hG : SysG w x) (hL : x.Len) (hcap : ∀ i, i < x.hn → x.hL i ≤ x.hC i) (hc : Sl w ca c) (hcl : c.length ≤ 1048576) :
  Calls Tryz.prog 20 #[x.v, .slice ca c.length cc] w fun e w' => ∃ u, e = .returned u ∧ OwnI w' w.heap.size u (clS x.y c) ∧ Below w.heap.size w w' := by
 have HS : Hid (∀ wx, Below w.heap.size w wx → Calls Tryz.prog 14 #[x.v, .slice ca c.length cc] wx fun e w' => e = .returned (.bool (cutB x.y c)) ∧ Below wx.heap.size wx w') := fun wx hb => specCutOk_any x ca cc c wx (hG.below hb) hL hcap (hc.below hb) hcl
 have HU : Hid (cutB x.y c = true → ∀ wx, Below w.heap.size w wx → Calls Tryz.prog 59 #[x.v, .slice ca c.length cc] wx fun e w' => ∃ u, e = .returned u ∧ OwnI w' wx.heap.size u (clS x.y c) ∧ Below wx.heap.size wx w') := fun t wx hb => l8Close_any x ca cc c wx (hG.below hb) hcap t (hc.below hb)
 have HX : Hid (cutB x.y c = false → clS x.y c = []) := clS_no
 have BW : Hid (Below w.heap.size w (w.alloc (oQ4 x.pa x.pn x.pc x.sa x.sn x.sc x.wa x.wn x.wc x.ha x.hn x.hc))) := below_alloc _ _
 have NB : Hid (BoxC (w.alloc (oQ4 x.pa x.pn x.pc x.sa x.sn x.sc x.wa x.wn x.wc x.ha x.hn x.hc)) w.heap.size (.slice x.pa x.pn x.pc) (.slice x.sa x.sn x.sc) (.slice x.wa x.wn x.wc) (.slice x.ha x.hn x.hc)) := BoxC.new w _ _ _ _ _
 generalize clS x.y c = R at *
 generalize cutB x.y c = T at *
 clear hG hL hcap hc
 go_enter Tryz.func20, Tryz.ntmps20
 go_wp2_with fail
 generalize w.alloc (oQ4 x.pa x.pn x.pc x.sa x.sn x.sc x.wa x.wn x.wc x.ha x.hn x.hc) = W2 at *
 refine (HS.out W2 BW.out).mono ?_
 rintro e w1 ⟨rfl, q1⟩
 have B1 : Hid (Below w.heap.size w w1 ∧ BoxC w1 w.heap.size (.slice x.pa x.pn x.pc) (.slice x.sa x.sn x.sc) (.slice x.wa x.wn x.wc) (.slice x.ha x.hn x.hc)) := ⟨BW.out.trans (q1.mono BW.out.size), NB.out.below q1⟩
 clear q1 BW NB HS
 cases T with
 | false =>
  have HV : Hid (R = []) := HX.out rfl
  have OE : Hid (OwnI (w1.alloc (.cells #[] 3)) w.heap.size (.slice (some ⟨w1.heap.size, 0, none⟩) 0 0) [] ∧ Below w.heap.size w (w1.alloc (.cells #[] 3))) := ⟨(own_empty w1).mono B1.out.1.size, B1.out.1.trans ((below_alloc _ _).mono B1.out.1.size)⟩
  clear HU HX
  go_wp2
  go_ret
  rw [HV.out]
  exact ⟨_, rfl, OE.out⟩
 | true =>
  have HU' := HU.out rfl
  have HU2 : Hid (∀ wx, Below w.heap.size w wx → Calls Tryz.prog 59 #[x.v, .slice ca c.length cc] wx fun e w' => ∃ u, e = .returned u ∧ OwnI w' wx.heap.size u R ∧ Below wx.heap.size wx w') := HU'
  clear HX HU HU'
  obtain ⟨b0, b1, b2, b3⟩ := B1.out.2
  go_wp2_with fail
  refine (HU2.out w1 B1.out.1).mono ?_
  rintro e w2 ⟨u2, rfl, o2, q2⟩
  have F2 : Hid (OwnI w2 w.heap.size u2 R ∧ Below w.heap.size w w2) := ⟨o2.mono B1.out.1.size, B1.out.1.trans (q2.mono B1.out.1.size)⟩
  clear q2 o2 b0 b1 b2 b3 B1 HU2
  go_wp2
  go_ret
  exact ⟨_, rfl, F2.out⟩
section
variable {P : Program} {a : Act} {w : World} {Q : Exit → Act → World → Prop}
def two (J0 J1 : Act → World → Prop) (Q : Exit → Act → World → Prop) : Exit → Act → World → Prop
 | .goto 0, a, w => J0 a w
 | .goto 1, a, w => J1 a w
 | .goto (_ + 2), _, _ => False
 | e, a, w => Q e a w
theorem two_ret {J0 J1 : Act → World → Prop} : two J0 J1 Q .ret a w = Q .ret a w := rfl
theorem two_mono {J0 J1 K0 K1 : Act → World → Prop} (h0 : ∀ a w, J0 a w → K0 a w) (h1 : ∀ a w, J1 a w → K1 a w) {e : Exit} {a : Act} {w : World} (h : two J0 J1 Q e a w) : two K0 K1 Q e a w := by
 match e, h with
 | .goto 0, h => exact h0 _ _ h
 | .goto 1, h => exact h1 _ _ h
 | .goto (_ + 2), h => exact h.elim
 | .normal, h => exact h
 | .exit _, h => exact h
 | .ret, h => exact h
 | .panic _, h => exact h
 | .outgrown, h => exact h
theorem wp_post {c : Code} {Q' : Exit → Act → World → Prop} (h : c.wp P Q a w) (hq : ∀ e a w, Q e a w → Q' e a w) : c.wp P Q' a w := fun b k cs => by
 obtain ⟨e, a', w', h1, h2⟩ := h b k cs
 exact ⟨e, a', w', hq _ _ _ h1, h2⟩
theorem wp_scope_two {c r0 r1 : Code} (J0 J1 : Nat → Act → World → Prop) (f0 : findLabel c 0 = some (.seq .skip r0)) (f1 : findLabel c 1 = some (.seq .skip r1))
  (first : (∀ k a w, J0 k a w → r0.wp P (two (fun a w => ∃ k, J0 k a w) (fun a w => ∃ k, J1 k a w) Q) a w) → c.wp P (two (fun a w => ∃ k, J0 k a w) (fun a w => ∃ k, J1 k a w) Q) a w)
  (pass0 : ∀ k, (∀ i a w, i ≤ k → J1 i a w → r1.wp P (two (fun a w => ∃ j, j < k ∧ J0 j a w) (fun a w => ∃ j, j < k ∧ J1 j a w) Q) a w) → ∀ a w, J0 k a w → r0.wp P (two (fun a w => ∃ j, j < k ∧ J0 j a w) (fun a w => ∃ j, j < k ∧ J1 j a w) Q) a w)
  (pass1 : ∀ k a w, J1 k a w → r1.wp P (two (fun a w => ∃ j, j < k ∧ J0 j a w) (fun a w => ∃ j, j < k ∧ J1 j a w) Q) a w) : (Code.scope c).wp P Q a w := by
 have p0 : ∀ k a w, J0 k a w → r0.wp P (two (fun a w => ∃ j, j < k ∧ J0 j a w) (fun a w => ∃ j, j < k ∧ J1 j a w) Q) a w := fun k a w hJ =>
  pass0 k (fun i a w hi h => wp_post (pass1 i a w h) fun _ _ _ h => two_mono (fun _ _ ⟨j, hj, h⟩ => ⟨j, by omega, h⟩) (fun _ _ ⟨j, hj, h⟩ => ⟨j, by omega, h⟩) h) a w hJ
 have fst := first fun k a w hJ => wp_post (p0 k a w hJ) fun _ _ _ h => two_mono (fun _ _ ⟨j, _, h⟩ => ⟨j, h⟩) (fun _ _ ⟨j, _, h⟩ => ⟨j, h⟩) h
 intro b k cs
 have g0 : gotoIn 0 (.inScope c :: k) = some (.code (.seq .skip r0) :: .inScope c :: k) := by simp [gotoIn, f0]
 have g1 : gotoIn 1 (.inScope c :: k) = some (.code (.seq .skip r1) :: .inScope c :: k) := by simp [gotoIn, f1]
 have key : ∀ n, (∀ a w, J0 n a w → ∃ e a' w', Q e a' w' ∧ Arrives P (lone (b.at a (.code (.seq .skip r0) :: .inScope c :: k)) cs w) b k cs e a' w') ∧ (∀ a w, J1 n a w → ∃ e a' w', Q e a' w' ∧ Arrives P (lone (b.at a (.code (.seq .skip r1) :: .inScope c :: k)) cs w) b k cs e a' w') := by
  intro n
  induction n using Nat.strongRecOn with
  | _ n ih =>
   have both : ∀ r : Code, (∀ a w, r.wp P (two (fun a w => ∃ j, j < n ∧ J0 j a w) (fun a w => ∃ j, j < n ∧ J1 j a w) Q) a w → ∃ e a' w', Q e a' w' ∧ Arrives P (lone (b.at a (.code r :: .inScope c :: k)) cs w) b k cs e a' w') := by
    intro r a w hr
    obtain ⟨e, a₁, w₁, hq, harr⟩ := hr b (.inScope c :: k) cs
    match e, hq, harr with
    | .normal, hq, harr => exact ⟨.normal, a₁, w₁, hq, Steps.trans harr (.one step_inScope)⟩
    | .exit id, hq, harr => exact ⟨.exit id, a₁, w₁, hq, fun k' hk => harr k' (by simp [exitTo, hk])⟩
    | .goto 0, ⟨j, hj, hJ⟩, harr =>
     obtain ⟨e₂, a₂, w₂, hq₂, harr₂⟩ := (ih j hj).1 a₁ w₁ hJ
     exact ⟨e₂, a₂, w₂, hq₂, .of_steps (harr _ g0) harr₂⟩
    | .goto 1, ⟨j, hj, hJ⟩, harr =>
     obtain ⟨e₂, a₂, w₂, hq₂, harr₂⟩ := (ih j hj).2 a₁ w₁ hJ
     exact ⟨e₂, a₂, w₂, hq₂, .of_steps (harr _ g1) harr₂⟩
    | .goto (_ + 2), hq, _ => exact hq.elim
    | .ret, hq, harr => exact ⟨_, a₁, w₁, hq, harr⟩
    | .panic ch, hq, harr => exact ⟨_, a₁, w₁, hq, harr⟩
    | .outgrown, hq, harr => exact ⟨_, a₁, w₁, hq, harr⟩
   exact ⟨fun a w h => both _ a w (wp_seq (wp_skip (p0 n a w h))), fun a w h => both _ a w (wp_seq (wp_skip (pass1 n a w h)))⟩
 obtain ⟨e, a₁, w₁, hq, harr⟩ := fst b (.inScope c :: k) cs
 match e, hq, harr with
 | .normal, hq, harr => exact ⟨.normal, a₁, w₁, hq, .head step_scope (Steps.trans harr (.one step_inScope))⟩
 | .exit id, hq, harr => exact ⟨.exit id, a₁, w₁, hq, fun k' hk => .head step_scope (harr k' (by simp [exitTo, hk]))⟩
 | .goto 0, ⟨j, hJ⟩, harr =>
  obtain ⟨e₂, a₂, w₂, hq₂, harr₂⟩ := (key j).1 a₁ w₁ hJ
  exact ⟨e₂, a₂, w₂, hq₂, .of_steps (.head step_scope (harr _ g0)) harr₂⟩
 | .goto 1, ⟨j, hJ⟩, harr =>
  obtain ⟨e₂, a₂, w₂, hq₂, harr₂⟩ := (key j).2 a₁ w₁ hJ
  exact ⟨e₂, a₂, w₂, hq₂, .of_steps (.head step_scope (harr _ g1)) harr₂⟩
 | .goto (_ + 2), hq, _ => exact hq.elim
 | .ret, hq, harr => exact ⟨_, a₁, w₁, hq, .of_steps (.one step_scope) harr⟩
 | .panic ch, hq, harr => exact ⟨_, a₁, w₁, hq, .of_steps (.one step_scope) harr⟩
 | .outgrown, hq, harr => exact ⟨_, a₁, w₁, hq, .of_steps (.one step_scope) harr⟩
end
theorem run_copy_ints (w : World) (b off cc : Nat) (c : List Int) (h : Sl w (some ⟨b, off, none⟩) c) (z : Array Value) (hz : z.size = c.length) :
  (Builtin.copy_ #[39, 39] 3 #[.slice (some ⟨w.heap.size, 0, none⟩) c.length c.length, .slice (some ⟨b, off, none⟩) c.length cc]).run Tryz.prog (w.alloc (.cells z 3)) = .ok (goInt c.length) (w.alloc (.cells (c.map (Value.int .i64)).toArray 3)) := by
 have hl : (c.map (Value.int .i64)).length = c.length := by simp
 have h2 := run_copy_row (P := Tryz.prog) (w.alloc (.cells z 3)) 39 39 3 3 w.heap.size 0 c.length c.length ⟨b, off, none⟩ c.length cc z 3 (c.map (Value.int .i64)) Tryz.underlying39 sizeInt (heap_alloc_new w _) (by rw [hl]; exact (Nat.min_self _).symm) (src_of_sl h (below_alloc _ _)) (by rw [hl, hz]; omega) (one_ints c)
 rw [h2, setRow_alloc, hl]
 simp only [List.take_zero, List.nil_append, Nat.zero_add]
 rw [List.drop_of_length_le (by simp [hz]), List.append_nil]
theorem copyOfInt_any (ca : Option Addr) (cc : Nat) (c : List Int) (w : World) (hn : 0 < c.length) (hl : c.length ≤ 1048576) (hc : Sl w ca c) :
  Calls Tryz.prog 60 #[.slice ca c.length cc] w fun e w' => e = .returned (.slice (some ⟨w.heap.size, 0, none⟩) c.length c.length) ∧ OwnI w' w.heap.size (.slice (some ⟨w.heap.size, 0, none⟩) c.length c.length) c ∧ Below w.heap.size w w' := by
 obtain ⟨b, off, rfl, -, -⟩ := hc.all hn
 have hl' : (c.length : Int) ≤ 1048576 := by omega
 have hmk := run_make_int c.length hl
 have hcp := run_copy_ints w b off cc c hc (madeCells #[.int .i64 0] c.length) (by simp [size_madeCells])
 have HO : Hid (OwnI (w.alloc (.cells (c.map (Value.int .i64)).toArray 3)) w.heap.size (.slice (some ⟨w.heap.size, 0, none⟩) c.length c.length) c ∧ Below w.heap.size w (w.alloc (.cells (c.map (Value.int .i64)).toArray 3))) := by
  refine ⟨?_, below_alloc _ _⟩
  have := World.ownsRow_lit (base := w.heap.size) (e := 3) (size := 1) w (c.map (Value.int .i64)).toArray c.length (Nat.le_refl _) (by unfold maxLen; omega) (by simp)
  exact this
 clear hc
 go_enter Tryz.func60, Tryz.ntmps60
 go_wp2
 go_ret
 exact ⟨rfl, HO.out⟩
def CJ0 (w : World) (x : SysIn) (ca : Option Addr) (cc : Nat) (c : List Int) (k : Nat) (a : Act) (wr : World) : Prop := ∃ (g : Nat) (e : List Int) (u3 u7 u8 u9 u10 u11 u12 u13 u14 u15 u16 u17 u18 u19 u20 u21 u22 u23 u24 u25 u26 u27 u28 u29 u30 u31 u32 u33 u34 u35 u36 u37 u38 u39 u40 u41 u42 u43 u44 : Value), a = { tmps := #[x.v, .slice ca c.length cc, .pointer (some ⟨w.heap.size, 0, none⟩), u3, .slice none 0 0, .slice (some ⟨g, 0, none⟩) c.length c.length, .int .i64 (c.length : Nat), u7, u8, u9, u10, u11, u12, u13, u14, u15, u16, u17, u18, u19, u20, u21, u22, u23, u24, u25, u26, u27, u28, u29, u30, u31, u32, u33, u34, u35, u36, u37, u38, u39, u40, u41, u42, u43, u44], defers := [] } ∧ Hid (CW w wr x g c.length c e ∧ k = sm e * 40 + 20)
structure CH (wr : World) (x : SysIn) (X m : Nat) (c e : List Int) : Prop where
 c0 : ∃ ea ec, wr.cell? ⟨X, 0, none⟩ = some (.slice ea c.length ec) ∧ RowS wr ea c.length fun i => .slice (x.hA i) (cN e i) (cN e i)
 lt : m ≤ c.length * c.length
 ok : ∀ i, i < m → tN x.y (cN e) (i / c.length) (i % c.length) ≤ sN x.y (cN e) (i / c.length) (i % c.length)
theorem CH.below {wr w' : World} {x : SysIn} {X m : Nat} {c e : List Int} (h : CH wr x X m c e) (hb : Below wr.heap.size wr w') : CH w' x X m c e := by
 obtain ⟨ea, ec, h0, h1⟩ := h.c0
 exact ⟨⟨ea, ec, (hb.cell (p := ⟨X, 0, none⟩) (World.block_lt_of_cell? wr _ h0)).trans h0, h1.below hb⟩, h.lt, h.ok⟩
def CJ1 (w : World) (x : SysIn) (ca : Option Addr) (cc : Nat) (c : List Int) (k : Nat) (a : Act) (wr : World) : Prop := ∃ (g X m : Nat) (e : List Int) (u3 u9 u10 u11 u12 u13 u14 u15 u16 u17 u18 u19 u20 u21 u22 u23 u24 u25 u26 u27 u28 u29 u30 u31 u32 u33 u34 u35 u36 u37 u38 u39 u40 u41 u42 u43 u44 : Value), a = { tmps := #[x.v, .slice ca c.length cc, .pointer (some ⟨w.heap.size, 0, none⟩), u3, .slice none 0 0, .slice (some ⟨g, 0, none⟩) c.length c.length, .int .i64 (c.length : Nat), .pointer (some ⟨X, 0, none⟩), .int .i64 (m : Nat), u9, u10, u11, u12, u13, u14, u15, u16, u17, u18, u19, u20, u21, u22, u23, u24, u25, u26, u27, u28, u29, u30, u31, u32, u33, u34, u35, u36, u37, u38, u39, u40, u41, u42, u43, u44], defers := [] } ∧ Hid (CW w wr x g c.length c e ∧ CH wr x X m c e ∧ k = sm e * 40 + (16 - m))
theorem CJ0.mk {w : World} {x : SysIn} {ca : Option Addr} {cc : Nat} {c : List Int} {k g : Nat} {e : List Int} {wr : World} {u3 u7 u8 u9 u10 u11 u12 u13 u14 u15 u16 u17 u18 u19 u20 u21 u22 u23 u24 u25 u26 u27 u28 u29 u30 u31 u32 u33 u34 u35 u36 u37 u38 u39 u40 u41 u42 u43 u44 : Value} (h : CW w wr x g c.length c e) (hk : k = sm e * 40 + 20) : CJ0 w x ca cc c k { tmps := #[x.v, .slice ca c.length cc, .pointer (some ⟨w.heap.size, 0, none⟩), u3, .slice none 0 0, .slice (some ⟨g, 0, none⟩) c.length c.length, .int .i64 (c.length : Nat), u7, u8, u9, u10, u11, u12, u13, u14, u15, u16, u17, u18, u19, u20, u21, u22, u23, u24, u25, u26, u27, u28, u29, u30, u31, u32, u33, u34, u35, u36, u37, u38, u39, u40, u41, u42, u43, u44], defers := [] } wr := ⟨g, e, u3, u7, u8, u9, u10, u11, u12, u13, u14, u15, u16, u17, u18, u19, u20, u21, u22, u23, u24, u25, u26, u27, u28, u29, u30, u31, u32, u33, u34, u35, u36, u37, u38, u39, u40, u41, u42, u43, u44, rfl, h, hk⟩
theorem CJ1.mk {w : World} {x : SysIn} {ca : Option Addr} {cc : Nat} {c : List Int} {k g X m : Nat} {e : List Int} {wr : World} {u3 u9 u10 u11 u12 u13 u14 u15 u16 u17 u18 u19 u20 u21 u22 u23 u24 u25 u26 u27 u28 u29 u30 u31 u32 u33 u34 u35 u36 u37 u38 u39 u40 u41 u42 u43 u44 : Value} (h : CW w wr x g c.length c e) (hh : CH wr x X m c e) (hk : k = sm e * 40 + (16 - m)) : CJ1 w x ca cc c k { tmps := #[x.v, .slice ca c.length cc, .pointer (some ⟨w.heap.size, 0, none⟩), u3, .slice none 0 0, .slice (some ⟨g, 0, none⟩) c.length c.length, .int .i64 (c.length : Nat), .pointer (some ⟨X, 0, none⟩), .int .i64 (m : Nat), u9, u10, u11, u12, u13, u14, u15, u16, u17, u18, u19, u20, u21, u22, u23, u24, u25, u26, u27, u28, u29, u30, u31, u32, u33, u34, u35, u36, u37, u38, u39, u40, u41, u42, u43, u44], defers := [] } wr := ⟨g, X, m, e, u3, u9, u10, u11, u12, u13, u14, u15, u16, u17, u18, u19, u20, u21, u22, u23, u24, u25, u26, u27, u28, u29, u30, u31, u32, u33, u34, u35, u36, u37, u38, u39, u40, u41, u42, u43, u44, rfl, h, hh, hk⟩
theorem implClose_any (x : SysIn) (ca : Option Addr) (cc : Nat) (c : List Int) (w : World) (hG : SysG w x) (hL : x.Len) (hcap : ∀ i, i < x.hn → x.hL i ≤ x.hC i) (hc : Sl w ca c) (hcl : c.length ≤ 1048576) (hV : w.cell? ⟨0, 0, none⟩ = some (.iface 177 (.agg #[.pointer (some ⟨1, 133, none⟩)]))) :
  Calls Tryz.prog 21 #[x.v, .slice ca c.length cc] w fun e w' => ∃ u, e = .returned u ∧ OwnI w' w.heap.size u (clS x.y c) ∧ Below w.heap.size w w' := by
 have HS : Hid (∀ wx, Below w.heap.size w wx → Calls Tryz.prog 16 #[x.v, .slice ca c.length cc] wx fun e w' => e = .returned (.bool (cutB x.y c)) ∧ Below wx.heap.size wx w') := fun wx hb => implCutOk_any x ca cc c wx (hG.below hb) hL (hc.below hb) hcl ((hb.cell (p := ⟨0, 0, none⟩) (World.block_lt_of_cell? w _ hV)).trans hV)
 have BW : Hid (Below w.heap.size w (w.alloc (oQ4 x.pa x.pn x.pc x.sa x.sn x.sc x.wa x.wn x.wc x.ha x.hn x.hc))) := below_alloc _ _
 have NB : Hid (BoxC (w.alloc (oQ4 x.pa x.pn x.pc x.sa x.sn x.sc x.wa x.wn x.wc x.ha x.hn x.hc)) w.heap.size (.slice x.pa x.pn x.pc) (.slice x.sa x.sn x.sc) (.slice x.wa x.wn x.wc) (.slice x.ha x.hn x.hc) ∧ w.heap.size < (w.alloc (oQ4 x.pa x.pn x.pc x.sa x.sn x.sc x.wa x.wn x.wc x.ha x.hn x.hc)).heap.size) := ⟨BoxC.new w _ _ _ _ _, by simp⟩
 rcases Bool.eq_false_or_eq_true (cutB x.y c) with ht | ht
 case inr =>
  have HV : Hid (clS x.y c = []) := clS_no ht
  rw [ht] at HS
  clear hG hL hcap hc hV ht
  go_enter Tryz.func21, Tryz.ntmps21
  go_wp2_with fail
  go_step3
  go_wp2_with fail
  generalize w.alloc (oQ4 x.pa x.pn x.pc x.sa x.sn x.sc x.wa x.wn x.wc x.ha x.hn x.hc) = W2 at *
  refine (HS.out W2 BW.out).mono ?_
  rintro e w1 ⟨rfl, q1⟩
  have OE : Hid (OwnI (w1.alloc (.cells #[] 3)) w.heap.size (.slice (some ⟨w1.heap.size, 0, none⟩) 0 0) [] ∧ Below w.heap.size w (w1.alloc (.cells #[] 3))) := by
   have h := BW.out.trans (q1.mono BW.out.size)
   exact ⟨(own_empty w1).mono h.size, h.trans ((below_alloc _ _).mono h.size)⟩
  clear q1 BW NB HS
  go_wp2
  rw [Exit.noGoto_ret]
  go_ret
  rw [HV.out]
  exact ⟨_, rfl, OE.out⟩
 obtain ⟨hO, hC⟩ := cutB_parts ht
 have hln : c.length = x.pn := hC.len
 have h1 : 1 ≤ x.pn := hO.cn.1.1
 have h4 : x.pn ≤ 4 := hO.cn.1.2
 have hl' : (c.length : Int) ≤ 4 := by omega
 have hl1 : (1 : Int) ≤ (c.length : Int) := by omega
 have hl0 : ¬ (c.length : Int) = 0 := by omega
 have hm0 : 0 ≤ (c.length : Int) * (c.length : Int) := Int.mul_nonneg (by omega) (by omega)
 have hm16 : (c.length : Int) * (c.length : Int) ≤ 16 := by
  have := Int.mul_le_mul (show (c.length : Int) ≤ 4 by omega) (show (c.length : Int) ≤ 4 by omega) (by omega) (by omega)
  omega
 have HQ : Hid (c.length = x.pn ∧ 0 < c.length ∧ c.length ≤ 4) := ⟨hln, by omega, by omega⟩
 have HSl : Hid (Sl w ca c) := hc
 have HSt : Hid (x.y.Cl c c) := Sy.Cl.start hC
 have HEnd : Hid (∀ e, x.y.Cl c e → x.y.Wh (cN e) → clS x.y c = e) := fun e h h' => clS_yes ht h h'
 have HH : Hid (∀ wr g e, CW w wr x g c.length c e → Calls Tryz.prog 57 #[x.v, .slice (some ⟨g, 0, none⟩) c.length c.length] wr fun r w' => ∃ ha hc, r = .returned (.agg (hcL ha c.length hc).toArray) ∧ RowS w' ha c.length (fun i => .slice (x.hA i) (cN e i) (cN e i)) ∧ Below wr.heap.size wr w') := fun wr g e h => by
  have := historyAt_any x (some ⟨g, 0, none⟩) c.length e wr (hG.below h.be) hcap hO.cn.2.2.1 h4 (h.cl.cut hC) h.slOf
  rwa [h.ln] at this
 have HU : Hid (∀ wr g X m e a b, CW w wr x g c.length c e → CH wr x X m c e → a < c.length → b < c.length → Calls Tryz.prog 61 #[.pointer (some ⟨X, 0, none⟩), .int .i64 (a : Nat), .int .i64 (b : Nat)] wr fun r w' => r = .returned (.int .i64 (ovN x.y (cN e) a b)) ∧ Below wr.heap.size wr w') := fun wr g X m e a b h hh ha hb => by
  obtain ⟨ea, ec, c0, hr⟩ := hh.c0
  have hCe := h.cl.cut hC
  rw [← h.ln] at c0 hr ha hb
  have hn : e.length = x.pn := hCe.len
  exact unsentH_any X ec ea x.hA (cN e) (x.y.at e) a b wr c0 (hisE_at hG h.be hCe hO.cn.2.2.1 hr) (fun i hi => Nat.le_trans (hCe.leN (by have h2 : i < e.length := hi; show i < x.pn; omega)) (hO.hl200 (by have h2 : i < e.length := hi; show i < x.pn; omega))) ha hb
 have HNx : Hid (∀ wr g e a b, CW w wr x g c.length c e → a < c.length → b < c.length → 0 ≤ ovN x.y (cN e) a b → x.y.Cl c (e.set b (ovN x.y (cN e) a b)) ∧ sm (e.set b (ovN x.y (cN e) a b)) < sm e) := fun wr g e a b h ha hb h0 => by
  obtain ⟨q1, q2, q3⟩ := h.cl.next (a := a) (b := b) (by show a < x.pn; omega) (by show b < x.pn; omega) h0
  exact ⟨q1, sm_set e b _ (by rw [h.ln]; exact hb) q3 q2⟩
 rw [ht] at HS
 clear hG hL hcap hc hV ht hO hC hln h1 h4
 go_enter Tryz.func21, Tryz.ntmps21
 go_wp2_with fail
 refine wp_scope_two (CJ0 w x ca cc c) (CJ1 w x ca cc c) rfl rfl ?first ?pass0 ?pass1
 case first =>
  intro hyp
  go_wp2_with fail
  generalize w.alloc (oQ4 x.pa x.pn x.pc x.sa x.sn x.sc x.wa x.wn x.wc x.ha x.hn x.hc) = W2 at *
  refine (HS.out W2 BW.out).mono ?_
  rintro e w1 ⟨rfl, q1⟩
  have B1 : Hid (Below w.heap.size w w1 ∧ BoxC w1 w.heap.size (.slice x.pa x.pn x.pc) (.slice x.sa x.sn x.sc) (.slice x.wa x.wn x.wc) (.slice x.ha x.hn x.hc) ∧ w.heap.size < w1.heap.size) := ⟨BW.out.trans (q1.mono BW.out.size), NB.out.1.below q1, Nat.lt_of_lt_of_le NB.out.2 q1.size⟩
  clear q1 BW NB HS
  go_wp2_with fail
  refine (copyOfInt_any ca cc c w1 HQ.out.2.1 (by have := HQ.out; omega) (HSl.out.below B1.out.1)).mono ?_
  rintro e w2 ⟨rfl, o2, q2⟩
  have B2 : Hid (CW w w2 x w1.heap.size c.length c c) := ⟨o2.mono B1.out.2.2, B1.out.1.trans (q2.mono B1.out.1.size), B1.out.2.1.below q2, HSt.out, rfl⟩
  clear q2 o2 B1
  generalize w1.heap.size = g at *
  go_wp2_with fail
  go_step3
  rename_i K hK
  exact hK _ _ (hyp _ _ _ (CJ0.mk B2.out rfl))
 case pass0 =>
  intro k hyp a' wr hJ
  obtain ⟨g, e, u3, u7, u8, u9, u10, u11, u12, u13, u14, u15, u16, u17, u18, u19, u20, u21, u22, u23, u24, u25, u26, u27, u28, u29, u30, u31, u32, u33, u34, u35, u36, u37, u38, u39, u40, u41, u42, u43, u44, rfl, HB⟩ := hJ
  obtain ⟨b0, b1, b2, b3⟩ := HB.out.1.bx
  clear HS BW NB HSl HSt
  go_wp2_with fail
  refine (HH.out wr g e HB.out.1).mono ?_
  rintro r w2 ⟨ea, ec, rfl, r2, q2⟩
  have B2 : Hid (CW w w2 x g c.length c e ∧ RowS w2 ea c.length (fun i => .slice (x.hA i) (cN e i) (cN e i)) ∧ k = sm e * 40 + 20) := ⟨HB.out.1.below q2, r2, HB.out.2⟩
  clear q2 r2 b0 b1 b2 b3 HB HH
  have hl := hcL_len ea c.length ec
  have ho := hcL_one ea c.length ec
  generalize hcs : hcL ea c.length ec = cl at *
  have hs : cl.toArray.size = 21 := by simpa using hl
  have HI : Hid ((Tryz.prog.info? 75).map (·.size) = some cl.toArray.size) := by show _ = _; rw [hs]; exact infoHistory
  have HO : Hid (cl.toArray.all (·.oneCell') = true) := all_oneCell_toArray ho
  have HT : Hid ((w2.alloc (zQ2)).there w2.heap.size 0 cl.toArray.size) := there_new _ _ _ _ _ (by rw [hs]; rfl) rfl
  have BE : Hid (Below w2.heap.size w2 ((w2.alloc (zQ2)).setCells w2.heap.size 0 cl)) := (Touch.sets (P := fun b => b = w2.heap.size) rfl _ _ (Touch.of_below (below_alloc _ _))).below (Nat.le_refl _) fun b e => by omega
  have HR : ((w2.alloc (zQ2)).setCells w2.heap.size 0 cl).rangeAt w2.heap.size 0 cl := World.rangeAt_setCells_same _ _ _ _ (by simpa using HT.out)
  have HCe : Hid (((w2.alloc (zQ2)).setCells w2.heap.size 0 cl).cell? ⟨w2.heap.size, 0, none⟩ = some (.slice ea c.length ec)) := his_cell HR hcs
  clear hl ho hs HR hcs
  go_wp2_with (refine wpList_store_mid rfl 75 (.tmp 7) (.tmp 22) rfl w2.heap.size 0 cl.toArray rfl rfl HT.out HI.out HO.out ?_)
  clear HT HI HO
  generalize (w2.alloc (zQ2)).setCells w2.heap.size 0 cl = w3 at *
  have B3 : Hid (CW w w3 x g c.length c e ∧ CH w3 x w2.heap.size 0 c e ∧ k = sm e * 40 + 20) := ⟨B2.out.1.below BE.out, ⟨⟨ea, ec, HCe.out, B2.out.2.1.below BE.out⟩, Nat.zero_le _, fun i hi => by omega⟩, B2.out.2.2⟩
  clear BE B2 HCe
  generalize w2.heap.size = X at *
  go_step3
  rename_i K hK
  exact hK _ _ (hyp (sm e * 40 + 16) _ _ (by have := B3.out.2.2; omega) (CJ1.mk (m := 0) B3.out.1 B3.out.2.1 rfl))
 case pass1 =>
  intro k a' wr hJ
  obtain ⟨g, X, m, e, u3, u9, u10, u11, u12, u13, u14, u15, u16, u17, u18, u19, u20, u21, u22, u23, u24, u25, u26, u27, u28, u29, u30, u31, u32, u33, u34, u35, u36, u37, u38, u39, u40, u41, u42, u43, u44, rfl, HB⟩ := hJ
  clear HS BW NB HSl HSt HH
  rcases Bool.eq_false_or_eq_true ((m : Int) == (c.length : Int) * (c.length : Int)) with t | t
  ·have HM : Hid (m = c.length * c.length) := by
    have h : (m : Int) = (c.length : Int) * (c.length : Int) := by simpa using t
    rw [← Int.natCast_mul] at h
    show m = _
    omega
   have HV : Hid (OwnI wr w.heap.size (.slice (some ⟨g, 0, none⟩) c.length c.length) (clS x.y c) ∧ Below w.heap.size w wr) := by
    have hw : x.y.Wh (cN e) := fun a ha b hb => by
     have hq := HQ.out
     have ha' : a < c.length := by have h3 : a < x.pn := ha; omega
     have hb' : b < c.length := by have h3 : b < x.pn := hb; omega
     have h := HB.out.2.1.ok (a * c.length + b) (by
      rw [HM.out]
      have h5 : (a + 1) * c.length ≤ c.length * c.length := Nat.mul_le_mul_right _ ha'
      rw [Nat.add_mul, Nat.one_mul] at h5
      omega)
     rw [Nat.mul_add_mod' a c.length b, Nat.mod_eq_of_lt hb', Nat.mul_comm a, Nat.mul_add_div (by omega), Nat.div_eq_of_lt hb', Nat.add_zero] at h
     exact h
    rw [HEnd.out e HB.out.1.cl hw]
    exact ⟨HB.out.1.ow.mono (by omega), HB.out.1.be⟩
   clear HB HM
   go_wp2
   rw [two_ret]
   go_ret
   exact ⟨_, rfl, HV.out⟩
  have hmlt : m < c.length * c.length := by
   have h := HB.out.2.1.lt
   have h2 : m ≠ c.length * c.length := fun h => by
    rw [h, Int.natCast_mul] at t
    simp at t
   omega
  have hm16' : c.length * c.length ≤ 16 := by
   have hq := HQ.out
   exact Nat.mul_le_mul hq.2.2 hq.2.2
  have hmi : (m : Int) ≤ 16 := by omega
  have eq1 : Int.tdiv (m : Int) (c.length : Int) = ((m / c.length : Nat) : Int) := (Int.ofNat_tdiv m c.length).symm
  have eq2 : Int.tmod (m : Int) (c.length : Int) = ((m % c.length : Nat) : Int) := (Int.ofNat_tmod m c.length).symm
  have HM : Hid (m < c.length * c.length ∧ m < 16 ∧ m / c.length < c.length ∧ m % c.length < c.length) := ⟨hmlt, by omega, Nat.div_lt_of_lt_mul hmlt, Nat.mod_lt _ HQ.out.2.1⟩
  have ha4 : ((m / c.length : Nat) : Int) ≤ 4 := by have := HM.out; have := HQ.out; omega
  have hb4 : ((m % c.length : Nat) : Int) < (c.length : Int) := by have := HM.out; omega
  clear hmlt hm16'
  generalize hA' : m / c.length = A at *
  generalize hB' : m % c.length = B at *
  have HAB : Hid (m / c.length = A ∧ m % c.length = B) := ⟨hA', hB'⟩
  clear hA' hB'
  go_wp2_with fail
  refine (HU.out wr g X m e (A) (B) HB.out.1 HB.out.2.1 HM.out.2.2.1 HM.out.2.2.2).mono ?_
  rintro r w3 ⟨rfl, q3⟩
  have B3 : Hid (CW w w3 x g c.length c e ∧ CH w3 x X m c e ∧ k = sm e * 40 + (16 - m)) := ⟨HB.out.1.below q3, HB.out.2.1.below q3, HB.out.2.2⟩
  have HN : Hid (ovN x.y (cN e) (A) (B) < 0 ↔ tN x.y (cN e) (A) (B) ≤ sN x.y (cN e) (A) (B)) := ovN_neg
  have HX : Hid (0 ≤ ovN x.y (cN e) (A) (B) → x.y.Cl c (e.set (B) (ovN x.y (cN e) (A) (B))) ∧ sm (e.set (B) (ovN x.y (cN e) (A) (B))) < sm e) := fun h => HNx.out w3 g e _ _ B3.out.1 HM.out.2.2.1 HM.out.2.2.2 h
  generalize ovN x.y (cN e) (A) (B) = ov at *
  clear q3 HB HU HNx
  by_cases ho : ov < 0
  ·have B4 : Hid (CW w w3 x g c.length c e ∧ CH w3 x X (m + 1) c e ∧ sm e * 40 + (16 - (m + 1)) < k) := ⟨B3.out.1, ⟨B3.out.2.1.c0, HM.out.1, fun i hi => by
    by_cases ei : i = m
    ·subst ei
     rw [HAB.out.1, HAB.out.2]
     exact HN.out.1 ho
    ·exact B3.out.2.1.ok i (by omega)⟩, by
    rw [B3.out.2.2]
    have := HM.out.2.1
    omega⟩
   clear B3 HN HX
   go_wp2_with fail
   go_step3
   have e8 : (m : Int) + 1 = ((m + 1 : Nat) : Int) := by omega
   rw [e8]
   exact ⟨_, B4.out.2.2, CJ1.mk (m := m + 1) B4.out.1 B4.out.2.1 rfl⟩
  ·obtain ⟨ce, cf⟩ := B3.out.1.cell HM.out.2.2.2
   have B4 : Hid (CW w (w3.setCell ⟨g, B, none⟩ (.int .i64 ov)) x g c.length c (e.set (B) ov) ∧ sm (e.set (B) ov) * 40 + 20 < k) := ⟨B3.out.1.put (HX.out (by omega)).1, by
    rw [B3.out.2.2]
    have := (HX.out (by omega)).2
    omega⟩
   clear B3 HN HX
   go_wp2_with fail
   go_step3
   exact ⟨_, B4.out.2, CJ0.mk B4.out.1 rfl⟩
theorem closeLaw_small (x : SysIn) (ca : Option Addr) (cc : Nat) (c : List Int) (W : World) (hs : x.size ≤ 1048576) (hA : x.Ok W) (hcl : c.length ≤ 1048576) (hc : Sl W ca c) (hV : W.cell? ⟨0, 0, none⟩ = some (.iface 177 (.agg #[.pointer (some ⟨1, 133, none⟩)]))) :
  Calls Tryz.prog 6 #[sysV x.pa x.pn x.pc x.sa x.sn x.sc x.wa x.wn x.wc x.ha x.hn x.hc, .slice ca c.length cc] W fun e w' => e = .returned (.bool true) ∧ Below W.heap.size W w' := by
 have HS : Hid (x.size ≤ 1048576) := hs
 have HA : Hid (x.Ok W) := hA
 have HC : Hid (Sl W ca c) := hc
 have HCL : Hid (c.length ≤ 1048576) := hcl
 have hcl' : (c.length : Int) ≤ 1048576 := by omega
 have HV : Hid (W.cell? ⟨0, 0, none⟩ = some (.iface 177 (.agg #[.pointer (some ⟨1, 133, none⟩)]))) := hV
 have HV0 : Hid (0 < W.heap.size) := World.block_lt_of_cell? W _ hV
 have hsz : ¬ (1048576 - (x.size : Int) < 0) := by omega
 have X0 : Hid (Px W x (W.alloc (.cells #[.slice x.pa x.pn x.pc, .slice x.sa x.sn x.sc, .slice x.wa x.wn x.wc, .slice x.ha x.hn x.hc] 27))) := ⟨below_allocS _ _, BoxC.new W _ _ _ _ _, by simp⟩
 have hX : (clS x.y c).length ≤ 1048576 := Nat.le_trans (clS_len x.y c) (by omega)
 generalize hN : clS x.y c = X at hX
 have HN : Hid (clS x.y c = X) := hN
 have hX' : (X.length : Int) ≤ 1048576 := by omega
 clear hN
 clear hs hA hV hc hcl
 go_enter Tryz.func6, Tryz.ntmps6
 go_wp2_with fail
 generalize W.alloc (.cells #[.slice x.pa x.pn x.pc, .slice x.sa x.sn x.sc, .slice x.wa x.wn x.wc, .slice x.ha x.hn x.hc] 27) = wA at *
 refine (szSys_small x wA (HA.out.row.below X0.out.be) HS.out).mono ?_
 rintro e w0 ⟨rfl, b0⟩
 have X1 : Hid (Px W x w0) := X0.out.below b0
 clear b0 X0
 obtain ⟨-, ⟨p0, p1, p2, p3⟩, lt⟩ := X1.out
 go_wp2_with fail
 clear p0 p1 p2 p3 lt
 refine (toSys_any x W w0 HS.out HA.out X1.out.be).mono ?_
 rintro e w1 ⟨v1, rfl, o1, b1⟩
 obtain ⟨x1, rfl, g1, y1, cp1⟩ := o1.g2
 have O1 : Hid (SysG w1 x1 ∧ x1.y = x.y ∧ ∀ i, i < x1.hn → x1.hL i ≤ x1.hC i) := ⟨g1, y1, cp1⟩
 have X2 : Hid (Px W x w1) := X1.out.below b1
 clear b1 X1 o1 g1 y1 cp1
 go_wp2_with fail
 refine (toIntS_any ca cc c w1 HCL.out (HC.out.below X2.out.be)).mono ?_
 rintro e w1b ⟨rfl, oc, -, b1b⟩
 have X2b : Hid (Px W x w1b) := X2.out.below b1b
 have O1b : Hid (SysG w1b x1 ∧ x1.y = x.y ∧ (∀ i, i < x1.hn → x1.hL i ≤ x1.hC i) ∧ Sl w1b (some ⟨w1.heap.size, 0, none⟩) c) := ⟨O1.out.1.below b1b, O1.out.2.1, O1.out.2.2, oc.slOf⟩
 clear b1b oc O1 X2
 generalize w1.heap.size = N1 at *
 go_wp2_with fail
 refine (specClose_any x1 (some ⟨N1, 0, none⟩) c.length c w1b O1b.out.1 (SysIn.len_of HS.out O1b.out.2.1) O1b.out.2.2.1 O1b.out.2.2.2 HCL.out).mono ?_
 rintro e w2 ⟨u2, rfl, o2, b2⟩
 rw [O1b.out.2.1, HN.out] at o2
 obtain ⟨aw, cw, rfl, -⟩ := o2.form
 have V2 : Hid (OwnI w2 w1b.heap.size (.slice aw X.length cw) X) := o2
 have X3 : Hid (Px W x w2) := X2b.out.below b2
 have GW : Hid (∀ j, (Value.slice aw X.length cw).ownBlock = some j → j < w2.heap.size) := fun j hj => (V2.out.lt j hj).2
 clear b2 X2b O1b o2
 obtain ⟨-, ⟨p0, p1, p2, p3⟩, lt⟩ := X3.out
 go_wp2_with fail
 clear p0 p1 p2 p3 lt
 refine (toSys_any x W w2 HS.out HA.out X3.out.be).mono ?_
 rintro e w3 ⟨v3, rfl, o3, b3⟩
 obtain ⟨x3, rfl, g3, y3, cp3⟩ := o3.g2
 have ba : Below w3.heap.size w3 (w3.alloc (oQ4 x3.pa x3.pn x3.pc x3.sa x3.sn x3.sc x3.wa x3.wn x3.wc x3.ha x3.hn x3.hc)) := below_allocS _ _
 have X4 : Hid (Px W x w3) := X3.out.below b3
 have LT : Hid (W.heap.size < w2.heap.size ∧ w2.heap.size ≤ w3.heap.size) := ⟨X3.out.lt, b3.size⟩
 have Va : Hid (OwnI (w3.alloc (oQ4 x3.pa x3.pn x3.pc x3.sa x3.sn x3.sc x3.wa x3.wn x3.wc x3.ha x3.hn x3.hc)) w1b.heap.size (.slice aw X.length cw) X) := (V2.out.below b3).below ba
 have Xa : Hid (Px W x (w3.alloc (oQ4 x3.pa x3.pn x3.pc x3.sa x3.sn x3.sc x3.wa x3.wn x3.wc x3.ha x3.hn x3.hc))) := X4.out.below ba
 have Sa : Hid (IsSys (w3.alloc (oQ4 x3.pa x3.pn x3.pc x3.sa x3.sn x3.sc x3.wa x3.wn x3.wc x3.ha x3.hn x3.hc)) w2.heap.size w3.heap.size x x3.v) := o3.below ba (Nat.le_refl _)
 have Ga : Hid (SysG (w3.alloc (oQ4 x3.pa x3.pn x3.pc x3.sa x3.sn x3.sc x3.wa x3.wn x3.wc x3.ha x3.hn x3.hc)) x3 ∧ x3.y = x.y ∧ ∀ i, i < x3.hn → x3.hL i ≤ x3.hC i) := ⟨g3.below ba, y3, cp3⟩
 have Qa : Hid (BoxC (w3.alloc (oQ4 x3.pa x3.pn x3.pc x3.sa x3.sn x3.sc x3.wa x3.wn x3.wc x3.ha x3.hn x3.hc)) w3.heap.size (.slice x3.pa x3.pn x3.pc) (.slice x3.sa x3.sn x3.sc) (.slice x3.wa x3.wn x3.wc) (.slice x3.ha x3.hn x3.hc) ∧ w3.heap.size < (w3.alloc (oQ4 x3.pa x3.pn x3.pc x3.sa x3.sn x3.sc x3.wa x3.wn x3.wc x3.ha x3.hn x3.hc)).heap.size) := ⟨BoxC.new w3 _ _ _ _ _, by simp⟩
 clear b3 X3 o3 X4 ba g3 y3 cp3 V2
 go_wp2_with fail
 generalize w3.alloc (oQ4 x3.pa x3.pn x3.pc x3.sa x3.sn x3.sc x3.wa x3.wn x3.wc x3.ha x3.hn x3.hc) = wB at *
 refine (toIntS_any ca cc c wB HCL.out (HC.out.below Xa.out.be)).mono ?_
 rintro e wC ⟨rfl, oC, ltC, bC⟩
 have Xc : Hid (Px W x wC) := Xa.out.below bC
 have Sc : Hid (IsSys wC w2.heap.size w3.heap.size x x3.v) := Sa.out.below bC (Nat.le_of_lt Qa.out.2)
 have Gc : Hid (SysG wC x3 ∧ x3.y = x.y ∧ ∀ i, i < x3.hn → x3.hL i ≤ x3.hC i) := ⟨Ga.out.1.below bC, Ga.out.2⟩
 have Qc : Hid (BoxC wC w3.heap.size (.slice x3.pa x3.pn x3.pc) (.slice x3.sa x3.sn x3.sc) (.slice x3.wa x3.wn x3.wc) (.slice x3.ha x3.hn x3.hc) ∧ w3.heap.size < wC.heap.size) := ⟨Qa.out.1.below bC, Nat.lt_of_lt_of_le Qa.out.2 bC.size⟩
 have Oc : Hid (OwnI wC wB.heap.size (.slice (some ⟨wB.heap.size, 0, none⟩) c.length c.length) c ∧ wB.heap.size < wC.heap.size ∧ w3.heap.size < wB.heap.size) := ⟨oC, ltC, Qa.out.2⟩
 have Vc : Hid (OwnI wC w1b.heap.size (.slice aw X.length cw) X) := Va.out.below bC
 clear bC oC ltC Xa Sa Ga Qa Va
 generalize hNB : wB.heap.size = NB at *
 clear hNB
 obtain ⟨q0, q1, q2, q3⟩ := Qc.out.1
 go_wp2_with fail
 clear q0 q1 q2 q3
 refine (implClose_any x3 (some ⟨NB, 0, none⟩) c.length c wC Gc.out.1 (SysIn.len_of HS.out Gc.out.2.1) Gc.out.2.2 Oc.out.1.slOf HCL.out ((Xc.out.be.cell (p := ⟨0, 0, none⟩) HV0.out).trans HV.out)).mono ?_
 rintro e w4 ⟨u4, rfl, o4, b4⟩
 rw [Gc.out.2.1, HN.out] at o4
 obtain ⟨ag, cg, rfl, -⟩ := o4.form
 have G4 : Hid (OwnI w4 wC.heap.size (.slice ag X.length cg) X) := o4
 have GG : Hid (∀ j, (Value.slice ag X.length cg).ownBlock = some j → NB < j) := fun j hj => Nat.lt_of_lt_of_le Oc.out.2.1 (o4.lt j hj).1
 have V4 : Hid (OwnI w4 w1b.heap.size (.slice aw X.length cw) X) := Vc.out.below b4
 have S4' : Hid (IsSys w4 w2.heap.size w3.heap.size x x3.v) := Sc.out.below b4 (Nat.le_of_lt Qc.out.2)
 have X5 : Hid (Px W x w4) := Xc.out.below b4
 have Q4 : Hid (BoxC w4 w3.heap.size (.slice x3.pa x3.pn x3.pc) (.slice x3.sa x3.sn x3.sc) (.slice x3.wa x3.wn x3.wc) (.slice x3.ha x3.hn x3.hc) ∧ w3.heap.size < w4.heap.size) := ⟨Qc.out.1.below b4, Nat.lt_of_lt_of_le Qc.out.2 b4.size⟩
 have O4 : Hid (OwnI w4 NB (.slice (some ⟨NB, 0, none⟩) c.length c.length) c ∧ w3.heap.size < NB) := ⟨Oc.out.1.below b4, Oc.out.2.2⟩
 clear b4 Xc o4 Vc Sc Qc Gc Oc
 go_wp2_with fail
 refine (eqIntS_same ag aw cg cw X w4 hX G4.out.sl V4.out.sl).mono ?_
 rintro e w5 ⟨rfl, b5⟩
 have G5 : Hid (OwnI w5 wC.heap.size (.slice ag X.length cg) X) := G4.out.below b5
 have V5 : Hid (OwnI w5 w1b.heap.size (.slice aw X.length cw) X) := V4.out.below b5
 have S5 : Hid (IsSys w5 w2.heap.size w3.heap.size x x3.v) := S4'.out.below b5 (by obtain ⟨_, _, _, _, _, _, _, _, _, _, _, q⟩ := S4'.out; exact q.hi.2.2.2.1)
 have X6 : Hid (Px W x w5) := X5.out.below b5
 have Q5 : Hid (BoxC w5 w3.heap.size (.slice x3.pa x3.pn x3.pc) (.slice x3.sa x3.sn x3.sc) (.slice x3.wa x3.wn x3.wc) (.slice x3.ha x3.hn x3.hc) ∧ w3.heap.size < w5.heap.size) := ⟨Q4.out.1.below b5, Nat.lt_of_lt_of_le Q4.out.2 b5.size⟩
 have O5 : Hid (OwnI w5 NB (.slice (some ⟨NB, 0, none⟩) c.length c.length) c ∧ w3.heap.size < NB) := ⟨O4.out.1.below b5, O4.out.2⟩
 clear b5 X5 G4 V4 S4' Q4 O4
 obtain ⟨-, ⟨p0, p1, p2, p3⟩, lt⟩ := X6.out
 obtain ⟨⟨q0, q1, q2, q3⟩, lq⟩ := Q5.out
 go_wp2_with fail
 first | (go_region_with (first | (go_at_call 11; refine (toSys_any x W _ HS.out HA.out (by exact X6.out.be.drew)).mono ?_; rintro e w6 ⟨v6, rfl, o6, b6⟩; have q6 : Below w5.heap.size w5 w6 := (Below.refl w5.heap.size w5).drew.trans b6; have T6 : Hid (∃ l, IsSys w6 l w6.heap.size x v6) := ⟨_, o6⟩; obtain ⟨r0, r1, r2, r3⟩ := Q5.out.1.below q6; have Q6 : Hid (Below w5.heap.size w5 w6) := q6; clear o6 b6 q6) | (go_at_call 13; refine (eqSys_same x w2.heap.size w3.heap.size T6.out.choose _ _ v6 w6 HS.out (S5.out.below Q6.out (by obtain ⟨_, _, _, _, _, _, _, _, _, _, _, q⟩ := S5.out; exact q.hi.2.2.2.1)) T6.out.choose_spec).mono ?_; rintro e w7 ⟨rfl, b7⟩; have Q7 : Hid (Below w5.heap.size w5 w7) := Q6.out.trans (b7.mono Q6.out.size); clear b7))) | fail
 all_goals
  clear r0 r1 r2 r3 p0 p1 p2 p3 lt q0 q1 q2 q3 lq T6 Q6
  have G7 : Hid (OwnI w7 wC.heap.size (.slice ag X.length cg) X) := G5.out.below Q7.out
  have V7 : Hid (OwnI w7 w1b.heap.size (.slice aw X.length cw) X) := V5.out.below Q7.out
  have S7 : Hid (IsSys w7 w2.heap.size w3.heap.size x x3.v) := S5.out.below Q7.out (by obtain ⟨_, _, _, _, _, _, _, _, _, _, _, q⟩ := S5.out; exact q.hi.2.2.2.1)
  have X8 : Hid (Px W x w7) := X6.out.below Q7.out
  have R7 : Hid (BoxC w7 w3.heap.size (.slice x3.pa x3.pn x3.pc) (.slice x3.sa x3.sn x3.sc) (.slice x3.wa x3.wn x3.wc) (.slice x3.ha x3.hn x3.hc) ∧ w3.heap.size < w7.heap.size) := ⟨Q5.out.1.below Q7.out, Nat.lt_of_lt_of_le Q5.out.2 Q7.out.size⟩
  have O7 : Hid (OwnI w7 NB (.slice (some ⟨NB, 0, none⟩) c.length c.length) c ∧ w3.heap.size < NB) := ⟨O5.out.1.below Q7.out, O5.out.2⟩
  clear Q7 X6 G5 V5 S5 Q5 O5
  go_wp2_with fail
  refine (toIntS_any ca cc c w7 HCL.out (HC.out.below X8.out.be)).mono ?_
  rintro e wD ⟨rfl, oD, -, bD⟩
  have SD : Hid (Sl wD (some ⟨NB, 0, none⟩) c ∧ Sl wD (some ⟨w7.heap.size, 0, none⟩) c) := ⟨(O7.out.1.below bD).slOf, oD.slOf⟩
  go_wp2_with fail
  refine (eqIntS_same _ _ _ _ c wD HCL.out SD.out.1 SD.out.2).mono ?_
  rintro e wE ⟨rfl, bE⟩
  have bDE : Below w7.heap.size w7 wE := bD.trans (bE.mono bD.size)
  have GE : Hid (OwnI wE wC.heap.size (.slice ag X.length cg) X) := G7.out.below bDE
  have VE : Hid (OwnI wE w1b.heap.size (.slice aw X.length cw) X) := V7.out.below bDE
  have SE : Hid (IsSys wE w2.heap.size w3.heap.size x x3.v) := S7.out.below bDE (by obtain ⟨_, _, _, _, _, _, _, _, _, _, _, q⟩ := S7.out; exact q.hi.2.2.2.1)
  have XE : Hid (Px W x wE) := X8.out.below bDE
  have RE : Hid (BoxC wE w3.heap.size (.slice x3.pa x3.pn x3.pc) (.slice x3.sa x3.sn x3.sc) (.slice x3.wa x3.wn x3.wc) (.slice x3.ha x3.hn x3.hc) ∧ w3.heap.size < wE.heap.size) := ⟨R7.out.1.below bDE, Nat.lt_of_lt_of_le R7.out.2 bDE.size⟩
  have OE : Hid (OwnI wE NB (.slice (some ⟨NB, 0, none⟩) c.length c.length) c ∧ w3.heap.size < NB) := ⟨O7.out.1.below bDE, O7.out.2⟩
  clear bD bE bDE oD SD G7 V7 S7 X8 R7 O7
  obtain ⟨⟨q0, q1, q2, q3⟩, lq⟩ := RE.out
  go_wp2_with fail
  clear q0 q1 q2 q3 lq
  refine (markSys_le x _ _ _ wE HS.out SE.out).mono ?_
  rintro e w8 ⟨⟨z, rfl, hz, hz9⟩, t8⟩
  have G8 : Hid (OwnI w8 wC.heap.size (.slice ag X.length cg) X) := GE.out.touch t8 fun g hg => by
   have := GG.out g hg
   have := OE.out.2
   omega
  have V8 : Hid (OwnI w8 w1b.heap.size (.slice aw X.length cw) X) := VE.out.touch t8 fun g hg => by
   have := GW.out g hg
   omega
  have O8 : Hid (OwnI w8 NB (.slice (some ⟨NB, 0, none⟩) c.length c.length) c ∧ w3.heap.size < NB) := ⟨OE.out.1.touch t8 fun g hg => by
   have := (OE.out.1.lt g hg).1
   have := OE.out.2
   omega, OE.out.2⟩
  have X9 : Hid (Px W x w8) := XE.out.touch t8 fun b hb => by have := LT.out; omega
  clear t8 XE GE VE SE RE OE
  go_wp2_with fail
  refine (markIntS_any (some ⟨NB, 0, none⟩) c.length NB c z w8 HCL.out (by omega) (by omega) O8.out.1).mono ?_
  rintro e w8b ⟨rfl, -, g8⟩
  have hzc : ¬ (z + (c.length : Int) < 0) := by have := HCL.out; omega
  have G8b : Hid (OwnI w8b wC.heap.size (.slice ag X.length cg) X) := G8.out.far g8 fun j hj e => by
   have := GG.out j hj
   have e2 : NB = j := by cases e; rfl
   omega
  have V8b : Hid (OwnI w8b w1b.heap.size (.slice aw X.length cw) X) := V8.out.far g8 fun j hj e => by
   have := GW.out j hj
   have := LT.out
   have := O8.out.2
   have e2 : NB = j := by cases e; rfl
   omega
  have X9b : Hid (Px W x w8b) := X9.out.touch (Touch.of_grown (P := fun b => (Value.slice (some ⟨NB, 0, none⟩) c.length c.length).ownBlock = some b) g8 fun b e => e) fun b e => by
   have := LT.out
   have := O8.out.2
   have e2 : NB = b := by cases e; rfl
   omega
  clear g8 G8 V8 X9
  go_wp2_with fail
  refine (eqIntS_same ag aw cg cw X w8b hX G8b.out.sl V8b.out.sl).mono ?_
  rintro e w9 ⟨rfl, b9⟩
  have G9 : Hid (OwnI w9 wC.heap.size (.slice ag X.length cg) X) := G8b.out.below b9
  have V9 : Hid (OwnI w9 w1b.heap.size (.slice aw X.length cw) X) := V8b.out.below b9
  have X10 : Hid (Px W x w9) := X9b.out.below b9
  have GL : Hid (∀ j, (Value.slice ag X.length cg).ownBlock = some j → w3.heap.size < j) := fun j hj => by have := GG.out j hj; have := O8.out.2; omega
  clear b9 X9b G8b V8b O8
  go_wp2_with fail
  refine (markIntS_any ag cg wC.heap.size X 1 w9 hX (by omega) (by omega) G9.out).mono ?_
  rintro e w10 ⟨rfl, m10, g10⟩
  have V10 : Hid (OwnI w10 w1b.heap.size (.slice aw X.length cw) X) := V9.out.far g10 fun j hj e => by
   have := GW.out j hj
   have := GL.out j e
   have := LT.out
   omega
  have X11 : Hid (Px W x w10) := X10.out.touch (Touch.of_grown (P := fun b => (Value.slice ag X.length cg).ownBlock = some b) g10 fun b e => e) fun b e => by
   have := GL.out b e
   have := LT.out
   omega
  have M10 : Hid (OwnI w10 wC.heap.size (.slice ag X.length cg) (marks 1 X.length)) := m10
  clear g10 X10 G9 V9 m10
  go_wp2_with fail
  refine (heldIntS_marks ag cg X.length 1 w10 hX (by omega) (by omega) (by have h := M10.out; have hl := marks_length 1 X.length; obtain ⟨a1, c1, e, s⟩ := h.form; rw [hl] at e; simp only [Value.slice.injEq] at e; obtain ⟨rfl, -, -⟩ := e; exact s)).mono ?_
  rintro e w11 ⟨rfl, rfl⟩
  have hq : ¬ (1 + (X.length : Int) < 0) := by omega
  obtain ⟨-, ⟨p0, p1, p2, p3⟩, lt⟩ := X11.out
  go_wp2_with fail
  clear p0 p1 p2 p3 lt
  refine (toSys_any x W w11 HS.out HA.out X11.out.be).mono ?_
  rintro e w12 ⟨v12, rfl, o12, b12⟩
  obtain ⟨x12, rfl, g12, y12, cp12⟩ := o12.g2
  have S12 : Hid (SysG w12 x12 ∧ x12.y = x.y ∧ ∀ i, i < x12.hn → x12.hL i ≤ x12.hC i) := ⟨g12, y12, cp12⟩
  have V12 : Hid (OwnI w12 w1b.heap.size (.slice aw X.length cw) X) := V10.out.below b12
  have M12 : Hid (OwnI w12 wC.heap.size (.slice ag X.length cg) (marks 1 X.length)) := M10.out.below b12
  have X13 : Hid (Px W x w12) := X11.out.below b12
  clear b12 X11 V10 M10 o12 g12 y12 cp12
  go_wp2_with fail
  refine (toIntS_any ca cc c w12 HCL.out (HC.out.below X13.out.be)).mono ?_
  rintro e wF ⟨rfl, oF, -, bF⟩
  have SF : Hid (SysG wF x12 ∧ x12.y = x.y ∧ (∀ i, i < x12.hn → x12.hL i ≤ x12.hC i) ∧ Sl wF (some ⟨w12.heap.size, 0, none⟩) c) := ⟨S12.out.1.below bF, S12.out.2.1, S12.out.2.2, oF.slOf⟩
  have VF : Hid (OwnI wF w1b.heap.size (.slice aw X.length cw) X) := V12.out.below bF
  have MF : Hid (OwnI wF wC.heap.size (.slice ag X.length cg) (marks 1 X.length)) := M12.out.below bF
  have XF : Hid (Px W x wF) := X13.out.below bF
  clear bF oF S12 V12 M12 X13
  generalize w12.heap.size = N12 at *
  go_wp2_with fail
  refine (implClose_any x12 (some ⟨N12, 0, none⟩) c.length c wF SF.out.1 (SysIn.len_of HS.out SF.out.2.1) SF.out.2.2.1 SF.out.2.2.2 HCL.out ((XF.out.be.cell (p := ⟨0, 0, none⟩) HV0.out).trans HV.out)).mono ?_
  rintro e w13 ⟨u13, rfl, o13, b13⟩
  rw [SF.out.2.1, HN.out] at o13
  obtain ⟨ah, ch, rfl, -⟩ := o13.form
  have H13 : Hid (OwnI w13 wF.heap.size (.slice ah X.length ch) X) := o13
  have V13 : Hid (OwnI w13 w1b.heap.size (.slice aw X.length cw) X) := VF.out.below b13
  have M13 : Hid (OwnI w13 wC.heap.size (.slice ag X.length cg) (marks 1 X.length)) := MF.out.below b13
  have X14 : Hid (Px W x w13) := XF.out.below b13
  clear b13 XF VF MF o13 SF
  go_wp2_with fail
  refine (eqIntS_same ah aw ch cw X w13 hX H13.out.sl V13.out.sl).mono ?_
  rintro e w14 ⟨rfl, b14⟩
  have M14 : Hid (OwnI w14 wC.heap.size (.slice ag X.length cg) (marks 1 X.length)) := M13.out.below b14
  have X15 : Hid (Px W x w14) := X14.out.below b14
  clear b14 X14 V13 H13 M13
  go_wp2_with fail
  refine (heldIntS_marks ag cg X.length 1 w14 hX (by omega) (by omega) (by have h := M14.out; have hl := marks_length 1 X.length; obtain ⟨a1, c1, e, s⟩ := h.form; rw [hl] at e; simp only [Value.slice.injEq] at e; obtain ⟨rfl, -, -⟩ := e; exact s)).mono ?_
  rintro e w15 ⟨rfl, rfl⟩
  go_wp2
  go_ret
  exact ⟨rfl, X15.out.be⟩
theorem closeLaw_great (x : SysIn) (ca : Option Addr) (n cc : Nat) (W : World) (hr : x.Row W) (hm : x.Max) (hs : 1048576 < x.size) (hn : n ≤ 1048576) :
  Calls Tryz.prog 6 #[sysV x.pa x.pn x.pc x.sa x.sn x.sc x.wa x.wn x.wc x.ha x.hn x.hc, .slice ca n cc] W fun e w' => e = .returned (.bool true) ∧ Below W.heap.size W w' := by
 have HR : Hid (x.Row W) := hr
 have HM : Hid x.Max := hm
 have HS : Hid (1048576 < x.size) := hs
 have hn' : (n : Int) ≤ 1048576 := by omega
 clear hr hm hs
 go_enter Tryz.func6, Tryz.ntmps6
 go_wp2_with fail
 refine (szSys_great x _ (HR.out.below (below_allocS _ _)) HM.out HS.out).mono ?_
 rintro e w0 ⟨rfl, b0⟩
 have B0 : Hid (Below W.heap.size W w0) := (below_allocS _ _).trans (b0.mono (by simp))
 clear b0
 go_wp2
 go_ret
 exact ⟨rfl, B0.out⟩
theorem closeLaw_long (x : SysIn) (ca : Option Addr) (n cc : Nat) (W : World) (hn : 1048576 < n) :
  Calls Tryz.prog 6 #[sysV x.pa x.pn x.pc x.sa x.sn x.sc x.wa x.wn x.wc x.ha x.hn x.hc, .slice ca n cc] W fun e w' => e = .returned (.bool true) ∧ Below W.heap.size W w' := by
 have hn' : (1048576 : Int) < (n : Int) := by omega
 go_enter Tryz.func6, Tryz.ntmps6
 go_wp2
 go_ret
 exact ⟨rfl, below_allocS _ _⟩
end Go.Proofs.YtkjeakklbgpdaaaGreatDoor
