/- The law of Whole. -/
import Derived.Test.YtkjeakklbgpdaaaGreatDoorCc0
import Derived.Test.YtkjeakklbgpdaaaGreatDoorCc40
import Derived.Test.YtkjeakklbgpdaaaGreatDoorCc41
namespace Go.Proofs.YtkjeakklbgpdaaaGreatDoor
set_option maxRecDepth 100000
set_option maxHeartbeats 4000000
open Go.ChangeShapes Go.WideShapes Go.ChangeAt Go.RowKit Go.Deep
theorem OwnI.far {w w' : World} {B : Nat} {v : Value} {xs : List Int} {row : Option Nat} (h : OwnI w B v xs) (hg : w.grownBy w' row) (hne : ∀ j, v.ownBlock = some j → row ≠ some j) : OwnI w' B v xs := by
 refine h.kept hg ?_
 cases hv : v.ownBlock with
 | none => exact .inl rfl
 | some k => exact .inr (fun e => hne k hv e.symm)
theorem OwnI.sl {w : World} {B : Nat} {a0 : Option Addr} {cap : Nat} {xs : List Int} (h : OwnI w B (.slice a0 xs.length cap) xs) : Sl w a0 xs := by
 obtain ⟨a1, c1, e, s⟩ := h.form
 simp only [Value.slice.injEq] at e
 obtain ⟨rfl, -, -⟩ := e
 exact s
theorem OwnI.touch {w w' : World} {B : Nat} {v : Value} {xs : List Int} {P : Nat → Prop} (o : OwnI w B v xs) (ht : Touch P w w') (hp : ∀ g, v.ownBlock = some g → ¬ P g) : OwnI w' B v xs := o.blk fun k hk => ht.block k (o.lt k hk).2 (hp k hk)
theorem Px.touch {W : World} {x : SysIn} {w w' : World} {P : Nat → Prop} (h : Px W x w) (ht : Touch P w w') (hp : ∀ b, P b → W.heap.size < b) : Px W x w' := by
 have hc : ∀ i, w'.cell? ⟨W.heap.size, i, none⟩ = w.cell? ⟨W.heap.size, i, none⟩ := fun i => ht.cell h.lt (fun e => by have := hp _ e; omega) i
 obtain ⟨h0, h1, h2, h3⟩ := h.bx
 exact ⟨h.be.trans (ht.below (Nat.le_of_lt h.lt) fun b e => by have := hp b e; omega), ⟨(hc _).trans h0, (hc _).trans h1, (hc _).trans h2, (hc _).trans h3⟩, Nat.lt_of_lt_of_le h.lt ht.size⟩
theorem wholeLaw_small (x : SysIn) (ca : Option Addr) (cc : Nat) (c : List Int) (W : World) (hs : x.size ≤ 1048576) (hA : x.Ok W) (hcl : c.length ≤ 1048576) (hc : Sl W ca c) (hV : W.cell? ⟨0, 0, none⟩ = some (.iface 177 (.agg #[.pointer (some ⟨1, 133, none⟩)]))) :
  Calls Tryz.prog 5 #[sysV x.pa x.pn x.pc x.sa x.sn x.sc x.wa x.wn x.wc x.ha x.hn x.hc, .slice ca c.length cc] W fun e w' => e = .returned (.bool true) ∧ Below W.heap.size W w' := by
 have HS : Hid (x.size ≤ 1048576) := hs
 have HA : Hid (x.Ok W) := hA
 have HC : Hid (Sl W ca c) := hc
 have HCL : Hid (c.length ≤ 1048576) := hcl
 have hcl' : (c.length : Int) ≤ 1048576 := by omega
 have HV : Hid (W.cell? ⟨0, 0, none⟩ = some (.iface 177 (.agg #[.pointer (some ⟨1, 133, none⟩)]))) := hV
 have HV0 : Hid (0 < W.heap.size) := World.block_lt_of_cell? W _ hV
 have hsz : ¬ (1048576 - (x.size : Int) < 0) := by omega
 have X0 : Hid (Px W x (W.alloc (.cells #[.slice x.pa x.pn x.pc, .slice x.sa x.sn x.sc, .slice x.wa x.wn x.wc, .slice x.ha x.hn x.hc] 27))) := ⟨below_allocS _ _, BoxC.new W _ _ _ _ _, by simp⟩
 obtain ⟨T, hT⟩ : ∃ T, whB x.y c = T := ⟨_, rfl⟩
 have HT : Hid (whB x.y c = T) := hT
 clear hT
 clear hs hA hV hc hcl
 go_enter Tryz.func5, Tryz.ntmps5
 go_wp2_with fail
 generalize W.alloc (.cells #[.slice x.pa x.pn x.pc, .slice x.sa x.sn x.sc, .slice x.wa x.wn x.wc, .slice x.ha x.hn x.hc] 27) = wA at *
 refine (szSys_small x wA (HA.out.row.below X0.out.be) HS.out).mono ?_
 rintro e w0 ⟨rfl, b0⟩
 have X1 : Hid (Px W x w0) := X0.out.below b0
 clear b0 X0
 obtain ⟨-, ⟨p0, p1, p2, p3⟩, lt⟩ := X1.out
 go_wp2_with fail
 clear p0 p1 p2 p3 lt
 refine (toSys_any x W w0 HS.out HA.out X1.out.be).mono ?_
 rintro e w1 ⟨v1, rfl, o1, b1⟩
 obtain ⟨x1, rfl, g1, y1, cp1⟩ := o1.g2
 have O1 : Hid (SysG w1 x1 ∧ x1.y = x.y ∧ ∀ i, i < x1.hn → x1.hL i ≤ x1.hC i) := ⟨g1, y1, cp1⟩
 have X2 : Hid (Px W x w1) := X1.out.below b1
 clear b1 X1 o1 g1 y1 cp1
 go_wp2_with fail
 refine (toIntS_any ca cc c w1 HCL.out (HC.out.below X2.out.be)).mono ?_
 rintro e w1b ⟨rfl, oc, -, b1b⟩
 have X2b : Hid (Px W x w1b) := X2.out.below b1b
 have O1b : Hid (SysG w1b x1 ∧ x1.y = x.y ∧ (∀ i, i < x1.hn → x1.hL i ≤ x1.hC i) ∧ Sl w1b (some ⟨w1.heap.size, 0, none⟩) c) := ⟨O1.out.1.below b1b, O1.out.2.1, O1.out.2.2, oc.slOf⟩
 clear b1b oc O1 X2
 generalize w1.heap.size = N1 at *
 go_wp2_with fail
 refine (specWhole_any x1 (some ⟨N1, 0, none⟩) c.length c w1b O1b.out.1 (SysIn.len_of HS.out O1b.out.2.1) O1b.out.2.2.1 O1b.out.2.2.2 HCL.out).mono ?_
 rintro e w2 ⟨rfl, b2⟩
 have X3 : Hid (Px W x w2) := X2b.out.below b2
 rw [O1b.out.2.1, HT.out]
 clear b2 X2b O1b
 obtain ⟨-, ⟨p0, p1, p2, p3⟩, lt⟩ := X3.out
 go_wp2_with fail
 clear p0 p1 p2 p3 lt
 refine (toSys_any x W w2 HS.out HA.out X3.out.be).mono ?_
 rintro e w3 ⟨v3, rfl, o3, b3⟩
 obtain ⟨x3, rfl, g3, y3, cp3⟩ := o3.g2
 have ba : Below w3.heap.size w3 (w3.alloc (oQ4 x3.pa x3.pn x3.pc x3.sa x3.sn x3.sc x3.wa x3.wn x3.wc x3.ha x3.hn x3.hc)) := below_allocS _ _
 have X4 : Hid (Px W x w3) := X3.out.below b3
 have Xa : Hid (Px W x (w3.alloc (oQ4 x3.pa x3.pn x3.pc x3.sa x3.sn x3.sc x3.wa x3.wn x3.wc x3.ha x3.hn x3.hc))) := X4.out.below ba
 have Sa : Hid (IsSys (w3.alloc (oQ4 x3.pa x3.pn x3.pc x3.sa x3.sn x3.sc x3.wa x3.wn x3.wc x3.ha x3.hn x3.hc)) w2.heap.size w3.heap.size x x3.v) := o3.below ba (Nat.le_refl _)
 have Ga : Hid (SysG (w3.alloc (oQ4 x3.pa x3.pn x3.pc x3.sa x3.sn x3.sc x3.wa x3.wn x3.wc x3.ha x3.hn x3.hc)) x3 ∧ x3.y = x.y ∧ ∀ i, i < x3.hn → x3.hL i ≤ x3.hC i) := ⟨g3.below ba, y3, cp3⟩
 have Qa : Hid (BoxC (w3.alloc (oQ4 x3.pa x3.pn x3.pc x3.sa x3.sn x3.sc x3.wa x3.wn x3.wc x3.ha x3.hn x3.hc)) w3.heap.size (.slice x3.pa x3.pn x3.pc) (.slice x3.sa x3.sn x3.sc) (.slice x3.wa x3.wn x3.wc) (.slice x3.ha x3.hn x3.hc) ∧ w3.heap.size < (w3.alloc (oQ4 x3.pa x3.pn x3.pc x3.sa x3.sn x3.sc x3.wa x3.wn x3.wc x3.ha x3.hn x3.hc)).heap.size) := ⟨BoxC.new w3 _ _ _ _ _, by simp⟩
 clear b3 X3 o3 X4 ba g3 y3 cp3
 go_wp2_with fail
 generalize w3.alloc (oQ4 x3.pa x3.pn x3.pc x3.sa x3.sn x3.sc x3.wa x3.wn x3.wc x3.ha x3.hn x3.hc) = wB at *
 refine (toIntS_any ca cc c wB HCL.out (HC.out.below Xa.out.be)).mono ?_
 rintro e wC ⟨rfl, oC, ltC, bC⟩
 have Xc : Hid (Px W x wC) := Xa.out.below bC
 have Sc : Hid (IsSys wC w2.heap.size w3.heap.size x x3.v) := Sa.out.below bC (Nat.le_of_lt Qa.out.2)
 have Gc : Hid (SysG wC x3 ∧ x3.y = x.y ∧ ∀ i, i < x3.hn → x3.hL i ≤ x3.hC i) := ⟨Ga.out.1.below bC, Ga.out.2⟩
 have Qc : Hid (BoxC wC w3.heap.size (.slice x3.pa x3.pn x3.pc) (.slice x3.sa x3.sn x3.sc) (.slice x3.wa x3.wn x3.wc) (.slice x3.ha x3.hn x3.hc) ∧ w3.heap.size < wC.heap.size) := ⟨Qa.out.1.below bC, Nat.lt_of_lt_of_le Qa.out.2 bC.size⟩
 have Oc : Hid (OwnI wC wB.heap.size (.slice (some ⟨wB.heap.size, 0, none⟩) c.length c.length) c ∧ wB.heap.size < wC.heap.size ∧ w3.heap.size < wB.heap.size) := ⟨oC, ltC, Qa.out.2⟩
 clear bC oC ltC Xa Sa Ga Qa
 generalize hNB : wB.heap.size = NB at *
 clear hNB
 obtain ⟨q0, q1, q2, q3⟩ := Qc.out.1
 go_wp2_with fail
 clear q0 q1 q2 q3
 refine (implWhole_any x3 (some ⟨NB, 0, none⟩) c.length c wC Gc.out.1 (SysIn.len_of HS.out Gc.out.2.1) Gc.out.2.2 Oc.out.1.slOf HCL.out ((Xc.out.be.cell (p := ⟨0, 0, none⟩) HV0.out).trans HV.out)).mono ?_
 rintro e w5 ⟨rfl, b5⟩
 rw [Gc.out.2.1, HT.out]
 have S5 : Hid (IsSys w5 w2.heap.size w3.heap.size x x3.v) := Sc.out.below b5 (Nat.le_of_lt Qc.out.2)
 have X6 : Hid (Px W x w5) := Xc.out.below b5
 have Q5 : Hid (BoxC w5 w3.heap.size (.slice x3.pa x3.pn x3.pc) (.slice x3.sa x3.sn x3.sc) (.slice x3.wa x3.wn x3.wc) (.slice x3.ha x3.hn x3.hc) ∧ w3.heap.size < w5.heap.size) := ⟨Qc.out.1.below b5, Nat.lt_of_lt_of_le Qc.out.2 b5.size⟩
 have O5 : Hid (OwnI w5 NB (.slice (some ⟨NB, 0, none⟩) c.length c.length) c) := Oc.out.1.below b5
 clear b5 Xc Sc Qc Gc Oc HT
 obtain ⟨-, ⟨p0, p1, p2, p3⟩, lt⟩ := X6.out
 obtain ⟨⟨q0, q1, q2, q3⟩, lq⟩ := Q5.out
 go_wp2_with fail
 first | (go_region_with (first | (go_at_call 11; refine (toSys_any x W _ HS.out HA.out (by exact X6.out.be.drew)).mono ?_; rintro e w6 ⟨v6, rfl, o6, b6⟩; have q6 : Below w5.heap.size w5 w6 := (Below.refl w5.heap.size w5).drew.trans b6; have T6 : Hid (∃ l, IsSys w6 l w6.heap.size x v6) := ⟨_, o6⟩; obtain ⟨r0, r1, r2, r3⟩ := Q5.out.1.below q6; have Q6 : Hid (Below w5.heap.size w5 w6) := q6; clear o6 b6 q6) | (go_at_call 13; refine (eqSys_same x w2.heap.size w3.heap.size T6.out.choose _ _ v6 w6 HS.out (S5.out.below Q6.out (by obtain ⟨_, _, _, _, _, _, _, _, _, _, _, q⟩ := S5.out; exact q.hi.2.2.2.1)) T6.out.choose_spec).mono ?_; rintro e w7 ⟨rfl, b7⟩; have Q7 : Hid (Below w5.heap.size w5 w7) := Q6.out.trans (b7.mono Q6.out.size); clear b7))) | fail
 all_goals
  clear r0 r1 r2 r3 p0 p1 p2 p3 lt q0 q1 q2 q3 lq T6 Q6
  have X8 : Hid (Px W x w7) := X6.out.below Q7.out
  have O8 : Hid (OwnI w7 NB (.slice (some ⟨NB, 0, none⟩) c.length c.length) c) := O5.out.below Q7.out
  clear Q7 X6 S5 Q5 O5
  go_wp2_with fail
  refine (toIntS_any ca cc c w7 HCL.out (HC.out.below X8.out.be)).mono ?_
  rintro e w8 ⟨rfl, o8, -, b8⟩
  have X9 : Hid (Px W x w8 ∧ Sl w8 (some ⟨NB, 0, none⟩) c ∧ Sl w8 (some ⟨w7.heap.size, 0, none⟩) c) := ⟨X8.out.below b8, (O8.out.below b8).slOf, o8.slOf⟩
  clear b8 o8 X8 O8
  go_wp2_with fail
  refine (eqIntS_same _ _ _ _ c w8 HCL.out X9.out.2.1 X9.out.2.2).mono ?_
  rintro e w9 ⟨rfl, b9⟩
  have X10 : Hid (Px W x w9) := X9.out.1.below b9
  clear b9 X9
  go_wp2
  go_ret
  exact ⟨rfl, X10.out.be⟩
theorem wholeLaw_great (x : SysIn) (ca : Option Addr) (n cc : Nat) (W : World) (hr : x.Row W) (hm : x.Max) (hs : 1048576 < x.size) (hn : n ≤ 1048576) :
  Calls Tryz.prog 5 #[sysV x.pa x.pn x.pc x.sa x.sn x.sc x.wa x.wn x.wc x.ha x.hn x.hc, .slice ca n cc] W fun e w' => e = .returned (.bool true) ∧ Below W.heap.size W w' := by
 have HR : Hid (x.Row W) := hr
 have HM : Hid x.Max := hm
 have HS : Hid (1048576 < x.size) := hs
 have hn' : (n : Int) ≤ 1048576 := by omega
 clear hr hm hs
 go_enter Tryz.func5, Tryz.ntmps5
 go_wp2_with fail
 refine (szSys_great x _ (HR.out.below (below_allocS _ _)) HM.out HS.out).mono ?_
 rintro e w0 ⟨rfl, b0⟩
 have B0 : Hid (Below W.heap.size W w0) := (below_allocS _ _).trans (b0.mono (by simp))
 clear b0
 go_wp2
 go_ret
 exact ⟨rfl, B0.out⟩
theorem wholeLaw_long (x : SysIn) (ca : Option Addr) (n cc : Nat) (W : World) (hn : 1048576 < n) :
  Calls Tryz.prog 5 #[sysV x.pa x.pn x.pc x.sa x.sn x.sc x.wa x.wn x.wc x.ha x.hn x.hc, .slice ca n cc] W fun e w' => e = .returned (.bool true) ∧ Below W.heap.size W w' := by
 have hn' : (1048576 : Int) < (n : Int) := by omega
 go_enter Tryz.func5, Tryz.ntmps5
 go_wp2
 go_ret
 exact ⟨rfl, below_allocS _ _⟩
end Go.Proofs.YtkjeakklbgpdaaaGreatDoor
