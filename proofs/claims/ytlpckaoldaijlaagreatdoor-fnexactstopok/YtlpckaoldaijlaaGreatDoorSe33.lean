/- Proved: called with whatever system and stop, the program's StopOk answers as the model's StopOk, and writes into no argument. One condition, tied to the program's text: errors.errorType holds what its text lays. -/
import Derived.Test.YtlpckaoldaijlaaGreatDoorSe0
import Derived.Test.YtlpckaoldaijlaaGreatDoorSe31
import Derived.Test.YtlpckaoldaijlaaGreatDoorSe32
import Derived.Deep.Cut
import Derived.Test.YtlpckaoldaijlaaGreatDoorSe13
import Derived.Test.YtlpckaoldaijlaaGreatDoorCards
import Derived.SevenTiedAt
namespace Go.Proofs.YtlpckaoldaijlaaGreatDoor
set_option maxRecDepth 100000
set_option maxHeartbeats 4000000
open Go.ChangeShapes Go.WideShapes Go.ChangeAt Go.RowKit Go.Deep
theorem stopOkLaw_small (x:SysIn) (p k v:Int) (W:World) (hs:x.size<=1048576) (hA:x.Ok W) (hV:W.cell? ⟨0,0,none⟩=some (.iface 294 (.agg #[.pointer (some ⟨1,179,none⟩)]))):
  Calls Tryz.prog 4 #[sysV x.pa x.pn x.pc x.sa x.sn x.sc x.wa x.wn x.wc x.ha x.hn x.hc,spV p k v] W fun e w'=>e=.returned (.bool true)/\Below W.heap.size W w':=by
 have HS:Hid (x.size<=1048576):=hs
 have HA:Hid (x.Ok W):=hA
 have HV:Hid (W.cell? ⟨0,0,none⟩=some (.iface 294 (.agg #[.pointer (some ⟨1,179,none⟩)]))):=hV
 have HV0:Hid (0<W.heap.size):=zJ W _ hV
 have hsz:¬ (1048576 - (x.size:Int)<0):=by omega
 have X0:Hid (Hx W x p k v ((W.alloc (oQ5 x.pa x.pn x.pc x.sa x.sn x.sc x.wa x.wn x.wc x.ha x.hn x.hc)).alloc (.cells #[.int .i64 p,.int .i64 k,.int .i64 v] 45))):=Hx.new W x p k v _ _
 clear hs hA hV
 generalize hT:spB x.y p k=T
 have HT:Hid (spB x.y p k=T):=hT
 clear hT
 have hTT:(T != T)=false:=by cases T <;> rfl
 go_enter Tryz.func4,Tryz.ntmps4
 go_wp2_with fail
 generalize (W.alloc (oQ5 x.pa x.pn x.pc x.sa x.sn x.sc x.wa x.wn x.wc x.ha x.hn x.hc)).alloc (.cells #[.int .i64 p,.int .i64 k,.int .i64 v] 45)=wA at *
 refine (szSys_small x wA (HA.out.row.below X0.out.be) HS.out).mono ?_
 rintro e w0 ⟨rfl,b0⟩
 have X1:Hid (Hx W x p k v w0):=X0.out.below b0
 clear b0 X0
 go_upto_region 5 with fail
 go_cut [6] from 14 to 18 (fun t wx=>t=.bool T/\Hid (Hx W x p k v wx))
 case first=>
  obtain ⟨-,⟨p0,p1,p2,p3⟩,⟨s0,s1,s2,-⟩,lt⟩:=X1.out
  first|(go_region_with (first|(go_at_call 22;refine (toSys_any x W _ HS.out HA.out (by exact X1.out.be.drew)).mono ?_;rintro e w1 ⟨v1,rfl,o1,b1⟩;obtain ⟨x1,rfl,g1,y1,cp1⟩:=o1.g2;have q1:Below w0.heap.size w0 w1:=(Below.refl w0.heap.size w0).drew.trans b1;have O1:Hid (SysG w1 x1/\x1.y=x.y/\∀ i,i<x1.hn->x1.hL i<=x1.hC i):=⟨g1,y1,cp1⟩;have X2:Hid (Hx W x p k v w1):=X1.out.below q1;obtain ⟨-,-,⟨r0,r1,r2,-⟩,-⟩:=X2.out;clear o1 b1 q1 g1 y1 cp1)|(go_at_call 23;refine (toStop_any p k v _).mono ?_;rintro e w1b ⟨rfl,b1b⟩;have X2b:Hid (Hx W x p k v w1b):=X2.out.below b1b;have O1b:Hid (SysG w1b x1/\x1.y=x.y/\∀ i,i<x1.hn->x1.hL i<=x1.hC i):=⟨O1.out.1.below b1b,O1.out.2⟩;clear b1b)|(go_at_call 21;refine (specStopOk_any x1 p k v w1b O1b.out.1 (SysIn.len_of HS.out O1b.out.2.1) O1b.out.2.2).mono ?_;rintro e w2 ⟨rfl,b2⟩;have X3:Hid (Hx W x p k v w2):=X2b.out.below b2;clear b2;rw [O1b.out.2.1,HT.out]))) | fail
  all_goals
   go_wp2_with fail
   go_meet
   case rel=>exact ⟨rfl,X3⟩
 case rest=>
 obtain ⟨rfl,X3⟩:=hcut
 rename World=>w2
 clear X1
 obtain ⟨-,⟨p0,p1,p2,p3⟩,⟨s0,s1,s2,-⟩,lt⟩:=X3.out
 go_wp2_with fail
 clear p0 p1 p2 p3 lt s0 s1 s2
 refine (toSys_any x W w2 HS.out HA.out X3.out.be).mono ?_
 rintro e w3 ⟨v3,rfl,o3,b3⟩
 obtain ⟨x3,rfl,g3,y3,cp3⟩:=o3.g2
 have ba:Below w3.heap.size w3 (w3.alloc (oQ4 x3.pa x3.pn x3.pc x3.sa x3.sn x3.sc x3.wa x3.wn x3.wc x3.ha x3.hn x3.hc)):=below_allocS _ _
 have X4:Hid (Hx W x p k v w3):=X3.out.below b3
 have Xa:Hid (Hx W x p k v (w3.alloc (oQ4 x3.pa x3.pn x3.pc x3.sa x3.sn x3.sc x3.wa x3.wn x3.wc x3.ha x3.hn x3.hc))):=X4.out.below ba
 have Sa:Hid (IsSys (w3.alloc (oQ4 x3.pa x3.pn x3.pc x3.sa x3.sn x3.sc x3.wa x3.wn x3.wc x3.ha x3.hn x3.hc)) w2.heap.size w3.heap.size x x3.v):=o3.below ba (Nat.le_refl _)
 have Ga:Hid (SysG (w3.alloc (oQ4 x3.pa x3.pn x3.pc x3.sa x3.sn x3.sc x3.wa x3.wn x3.wc x3.ha x3.hn x3.hc)) x3/\x3.y=x.y/\∀ i,i<x3.hn->x3.hL i<=x3.hC i):=⟨g3.below ba,y3,cp3⟩
 have Qa:Hid (BoxC (w3.alloc (oQ4 x3.pa x3.pn x3.pc x3.sa x3.sn x3.sc x3.wa x3.wn x3.wc x3.ha x3.hn x3.hc)) w3.heap.size (.slice x3.pa x3.pn x3.pc) (.slice x3.sa x3.sn x3.sc) (.slice x3.wa x3.wn x3.wc) (.slice x3.ha x3.hn x3.hc)/\w3.heap.size<(w3.alloc (oQ4 x3.pa x3.pn x3.pc x3.sa x3.sn x3.sc x3.wa x3.wn x3.wc x3.ha x3.hn x3.hc)).heap.size):=⟨BoxC.new w3 _ _ _ _ _,by simp⟩
 clear b3 X3 o3 X4 ba g3 y3 cp3
 go_upto_region 7 with fail
 generalize w3.alloc (oQ4 x3.pa x3.pn x3.pc x3.sa x3.sn x3.sc x3.wa x3.wn x3.wc x3.ha x3.hn x3.hc)=wB at *
 go_cut [8] from 21 to 24 (fun t wx=>t=.bool T/\Hid (Hx W x p k v wx/\IsSys wx w2.heap.size w3.heap.size x x3.v/\BoxC wx w3.heap.size (.slice x3.pa x3.pn x3.pc) (.slice x3.sa x3.sn x3.sc) (.slice x3.wa x3.wn x3.wc) (.slice x3.ha x3.hn x3.hc)/\w3.heap.size<wx.heap.size))
 case first=>
  obtain ⟨-,-,⟨s0,s1,s2,-⟩,lt⟩:=Xa.out
  obtain ⟨⟨q0,q1,q2,q3⟩,lq⟩:=Qa.out
  first|(go_region_with (first|(go_at_call 23;refine (toStop_any p k v _).mono ?_;rintro e w4 ⟨rfl,b4⟩;have d4:Below wB.heap.size wB w4:=(Below.refl wB.heap.size wB).drew.trans b4;have D4:Hid (Below wB.heap.size wB w4):=d4;obtain ⟨r0,r1,r2,r3⟩:=Qa.out.1.below d4;clear b4 d4)|(go_at_call 24;refine (implStopOk_any x3 p k v w4 (Ga.out.1.below D4.out) (SysIn.len_of HS.out Ga.out.2.1) (((Xa.out.below D4.out).be.cell (p:=⟨0,0,none⟩) HV0.out).trans HV.out)).mono ?_;rintro e w5 ⟨rfl,b5⟩;have D5:Hid (Below wB.heap.size wB w5):=D4.out.trans (b5.mono D4.out.size);clear b5;rw [Ga.out.2.1,HT.out]))) | fail
  all_goals
   go_wp2_with fail
   go_meet
   case rel=>exact ⟨rfl,Xa.out.below D5.out,Sa.out.below D5.out (Nat.le_of_lt Qa.out.2),Qa.out.1.below D5.out,zL Qa.out.2 D5.out.size⟩
 case rest=>
 obtain ⟨rfl,HH⟩:=hcut
 rename World=>w5
 have X6:Hid (Hx W x p k v w5):=HH.out.1
 have S5:Hid (IsSys w5 w2.heap.size w3.heap.size x x3.v):=HH.out.2.1
 have Q5:Hid (BoxC w5 w3.heap.size (.slice x3.pa x3.pn x3.pc) (.slice x3.sa x3.sn x3.sc) (.slice x3.wa x3.wn x3.wc) (.slice x3.ha x3.hn x3.hc)/\w3.heap.size<w5.heap.size):=HH.out.2.2
 clear Xa Sa Qa Ga HT HH
 obtain ⟨-,⟨p0,p1,p2,p3⟩,-,lt⟩:=X6.out
 obtain ⟨⟨q0,q1,q2,q3⟩,lq⟩:=Q5.out
 go_wp2_with fail
 first|(go_region_with (first|(go_at_call 22;refine (toSys_any x W _ HS.out HA.out (by exact X6.out.be.drew)).mono ?_;rintro e w6 ⟨v6,rfl,o6,b6⟩;have q6:Below w5.heap.size w5 w6:=(Below.refl w5.heap.size w5).drew.trans b6;have T6:Hid (∃ l,IsSys w6 l w6.heap.size x v6):=⟨_,o6⟩;obtain ⟨r0,r1,r2,r3⟩:=Q5.out.1.below q6;have Q6:Hid (Below w5.heap.size w5 w6):=q6;clear o6 b6 q6)|(go_at_call 25;refine (eqSys_same x w2.heap.size w3.heap.size T6.out.choose _ _ v6 w6 HS.out (S5.out.below Q6.out (by obtain ⟨_,_,_,_,_,_,_,_,_,_,_,q⟩:=S5.out;exact q.hi.2.2.2.1)) T6.out.choose_spec).mono ?_;rintro e w7 ⟨rfl,b7⟩;have Q7:Hid (Below w5.heap.size w5 w7):=Q6.out.trans (b7.mono Q6.out.size);clear b7))) | fail
 all_goals
  clear r0 r1 r2 r3 p0 p1 p2 p3 lt q0 q1 q2 q3 lq T6 Q6
  have X8:Hid (Hx W x p k v w7):=X6.out.below Q7.out
  clear Q7 X6 S5 Q5
  go_wp2
  go_ret
  exact ⟨rfl,X8.out.be⟩
theorem stopOkLaw_great (x:SysIn) (p k v:Int) (W:World) (hr:x.Row W) (hm:x.Max) (hs:1048576<x.size):
  Calls Tryz.prog 4 #[sysV x.pa x.pn x.pc x.sa x.sn x.sc x.wa x.wn x.wc x.ha x.hn x.hc,spV p k v] W fun e w'=>e=.returned (.bool true)/\Below W.heap.size W w':=by
 have HR:Hid (x.Row W):=hr
 have HM:Hid x.Max:=hm
 have HS:Hid (1048576<x.size):=hs
 have X0:Hid (Hx W x p k v ((W.alloc (oQ5 x.pa x.pn x.pc x.sa x.sn x.sc x.wa x.wn x.wc x.ha x.hn x.hc)).alloc (.cells #[.int .i64 p,.int .i64 k,.int .i64 v] 45))):=Hx.new W x p k v _ _
 clear hr hm hs
 go_enter Tryz.func4,Tryz.ntmps4
 go_wp2_with fail
 generalize (W.alloc (oQ5 x.pa x.pn x.pc x.sa x.sn x.sc x.wa x.wn x.wc x.ha x.hn x.hc)).alloc (.cells #[.int .i64 p,.int .i64 k,.int .i64 v] 45)=wA at *
 refine (szSys_great x wA (HR.out.below X0.out.be) HM.out HS.out).mono ?_
 rintro e w0 ⟨rfl,b0⟩
 have B0:Hid (Below W.heap.size W w0):=(X0.out.below b0).be
 clear b0
 go_wp2
 go_ret
 exact ⟨rfl,B0.out⟩
theorem stopOkLifted (os:Os) (started:os.Started) (H:Type) (enc:TypeId × Value->H):
  ReturnsInHanded {} Tryz.checked os 4 .any (fun w args => (Rows.fnExactStopOkSpec.pre enc Tryz.prog Tryz.f4 [] false w args /\ laidMetH Tryz.prog [("errors.errorType", Rows.laid_errors_errorType)] w) /\ sizedMet enc Tryz.prog Tryz.f4 (OpenSpec.ofChange Rows.fnExactStopOkSpec) false w args)
   (Rows.fnExactStopOkSpec.post enc Tryz.prog Tryz.f4 false true false false):=by
 refine returnsInHanded_of_change_and (C := Tryz.checked) (X := fun w _ => laidMetH Tryz.prog [("errors.errorType", Rows.laid_errors_errorType)] w) (fun _ _ _ hh h => h.of_heap hh) Tryz.own started (by kernel_rfl) Tryz.func4
  (ChangeSpec.witness_at (enc := enc) (C := Tryz.checked) (os := os) (X := fun w _ => laidMetH Tryz.prog [("errors.errorType", Rows.laid_errors_errorType)] w) false (laidWorld os) #[sysV none 0 0 none 0 0 none 0 0 none 0 0, spV 0 0 0] 8 rfl (by kernel_rfl) (by kernel_rfl) (by kernel_rfl) (by kernel_rfl) (by kernel_rfl) (laidWorld_met os _)) ?_
 intro W base args ds gs before hval0 hW _ _ hL _
 have hval:∀ (j:Nat) t v,Tryz.f4.params[j]? = some t->args[j]? = some v->Value.okWide Tryz.prog W .any base t v:=hval0
 have hW':=hW
 obtain ⟨p,q,hA0,hV,rfl,hfz,hnd⟩:=hW
 have hA:DataW.TrodAll enc Tryz.prog W 0 (fun _=>true) true Tryz.f4.params.toList args.toList ds p:=hA0
 rw [Tryz.params4] at hA hval
 obtain ⟨v0,v1,d0,d1,p0,p1,rfl,rfl,rfl,h0,h1⟩:=trodAll_two hA
 obtain ⟨rfl,rfl⟩:=trodVars_none hV
 obtain ⟨z1,z2,z3,rfl⟩:=open_stop (hval 1 45 v1 rfl rfl) h1
 have lt0:∀ x ∈ p0,x.block<W.heap.size:=by obtain ⟨m,hm⟩:=h0;exact DataW.trod_lt m _ _ _ hm
 have lt1:∀ x ∈ p1,x.block<W.heap.size:=by obtain ⟨m,hm⟩:=h1;exact DataW.trod_lt m _ _ _ hm
 have hg:=handle_of_laid hL
 clear hA0 hval0
 have hlaw:Calls Tryz.prog 4 #[v0,spV z1 z2 z3] W fun e w'=>e=.returned (.bool true)/\Below W.heap.size W w':=by
  obtain ⟨x,e,hr,hm,hy⟩:=open_sys (hval 0 43 v0 rfl rfl) h0
  by_cases hs:x.size<=1048576
  ·obtain ⟨y,ey,hok,hys⟩:=hy hs
   rw [ey]
   exact stopOkLaw_small y z1 z2 z3 W hys hok hg
  ·rw [e]
   exact stopOkLaw_great x z1 z2 z3 W hr hm (by omega)
 refine hlaw.mono fun e W' ⟨he,bel⟩=>?_
 subst he
 exact ⟨_,rfl,_,_,_,[],_,[],hW',trodAll_mk1 (shut_bool Tryz.underlying4 _),(trodAll_cons_mk (Below.trod Tryz.laidOut (by kernel_rfl) (of_decide_eq_true (by kernel_rfl)) h0 bel lt0) (trodAll_cons_mk (Below.trod Tryz.laidOut (by kernel_rfl) (of_decide_eq_true (by kernel_rfl)) h1 bel lt1) trodAll_mk0)),rfl,bel.frame _,fun h=>by cases h⟩
theorem stopOkSaid:Rows.FnExactStopOkSaid:=
 OpenClaim.holds_of_wide 4 Tryz.f4 rfl rfl rfl rfl rfl rfl rfl ⟨rfl,rfl,rfl,rfl,rfl⟩ rfl rfl rfl rfl rfl (by kernel_rfl) Tryz.func4 (by kernel_rfl)
  (of_decide_eq_true (by kernel_rfl)) (by unfold Func.isWrapper;first|(rw [if_pos (by decide +kernel)];kernel_rfl)|(rw [if_neg (by decide +kernel)];exact ⟨rfl,rfl⟩))
  (fun os started H enc _=>stopOkLifted os started H enc)
theorem stopOkPlain (f : FuncId) (fn : Func) (hf : Tryz.pinned.checked.prog.funcNamed "loop.example/g00196/laws.FnExactStopOk" = some f) (hfn : Tryz.pinned.checked.prog.funcs[f]? = some fn) :
  true=Tryz.pinned.checked.prog.looks []/\∀ (j:Nat) t,fn.params[j]? = some t->Tryz.pinned.checked.prog.wantsStandIn t=false:=by
 obtain rfl : f = 4 := Option.some.inj ((show Tryz.prog.funcNamed "loop.example/g00196/laws.FnExactStopOk" = some 4 by kernel_rfl).symm.trans hf) |>.symm
 obtain rfl:fn=Tryz.f4:=(Option.some.inj (Tryz.func4.symm.trans hfn)).symm
 refine ⟨by kernel_rfl,fun j t ht=>?_⟩
 rw [Tryz.params4] at ht
 have hm:=Array.mem_of_getElem? ht
 simp at hm
 rcases hm with rfl | rfl
 ·exact (show Tryz.prog.wantsStandIn 43=false by kernel_rfl)
 ·exact (show Tryz.prog.wantsStandIn 45=false by kernel_rfl)
theorem stopOk_card:Rows.FnExactStopOkCardSaid:=
 Claim7.holds_tied_plain_at .later [] _ _ _ _ stopOkSaid (fun _ h=>by cases h) (by kernel_rfl) (fun _ h=>by cases h) fnExactStopOk_row_tie rfl ⟨rfl,rfl⟩ (by kernel_rfl) rfl stopOkPlain (by kernel_rfl)
