/- Proved: whatever bytes the draw is made of, what is told of the cuts of a drawn system is right, and the greater and the lesser of two whole cuts, place by place, are whole. One condition, tied to the program's text: errors.errorType holds what its text lays. -/
import Derived.Test.YtlpckaoldaijlaaGreatDoorSe0
import Derived.Test.YtlpckaoldaijlaaGreatDoorSe40
import Derived.Test.YtlpckaoldaijlaaGreatDoorSe47
import Derived.Test.YtlpckaoldaijlaaGreatDoorSe39
import Derived.Test.YtlpckaoldaijlaaGreatDoorSe48
import Derived.Deep.Cut
import Derived.Test.YtlpckaoldaijlaaGreatDoorSe13
import Derived.Test.YtlpckaoldaijlaaGreatDoorCards
import Derived.SevenTiedAt
namespace Go.Proofs.YtlpckaoldaijlaaGreatDoor
set_option maxRecDepth 100000
set_option maxHeartbeats 8000000
open Go.RowKit Go.Deep
theorem kndZ:Kind 30 3 1 8:=by
 refine ⟨Tryz.underlying30,?_,by omega,by omega⟩
 have hinfo:=infoInt
 cases hi:Tryz.prog.info? 3 with
 | none=>rw [hi] at hinfo;cases hinfo
 | some i=>
  rw [hi] at hinfo
  simp only [Option.map_some,Option.some.injEq,Prod.mk.injEq] at hinfo
  exact ⟨i,_,rfl,hinfo.1,hinfo.2.1,hinfo.2.2,rfl⟩
theorem flS_len (y:Sy) (h:y.hn<=1048576):(flS y).length<=1048576:=by
 unfold flS
 split
 ·simpa using h
 ·exact Nat.zero_le _
structure CQ (w wr:World) (X:Nat) (x:SysIn) (aa:Option Addr) (xs:List Int) (ab:Option Addr) (ys:List Int):Prop where
 j:WJ w wr X x
 a:Sl wr aa xs
 b:Sl wr ab ys
theorem CQ.below {w wr w':World} {X:Nat} {x:SysIn} {aa ab:Option Addr} {xs ys:List Int} (h:CQ w wr X x aa xs ab ys) (hb:Below wr.heap.size wr w'):CQ w w' X x aa xs ab ys:=⟨h.j.below hb,h.a.below hb,h.b.below hb⟩
structure G2 (M:Nat) (wr:World) (v u:Value) (xs ys:List Int):Prop where
 ov:OwnI wr M v xs
 ou:OwnI wr M u ys
 ne:∀ k,v.ownBlock=some k->u.ownBlock≠some k
theorem G2.more {M:Nat} {wM wr w1:World} {v u v':Value} {xs ys:List Int} {x:Int} {n:Nat} (hn:n=xs.length) (h:G2 M wr v u xs ys) (hb:Below M wM wr) (hM:M<=wr.heap.size) (o1:w1.ownsRow M 3 1 v' (n+1) (xs.map (Value.int .i64) ++ #[Value.int .i64 x].toList)) (g1:wr.grownBy w1 v.ownBlock) (q1:∀ j,v'.ownBlock=some j->v.ownBlock=some j\/wr.heap.size<=j):Below M wM w1/\G2 M w1 v' u (xs ++ [x]) ys:=by
 subst hn
 refine ⟨Below.grown hb g1 hM fun j hj=>(h.ov.lt j hj).1,?_,own_apart h.ou g1 h.ne,fun k hk hk'=>?_⟩
 ·unfold OwnI
  rw [List.length_append,List.map_append]
  exact o1
 ·rcases q1 k hk with a | a
  ·exact h.ne k a hk'
  ·have:=(h.ou.lt k hk').2
   omega
theorem G2.less {M:Nat} {wM wr w1:World} {v u u':Value} {xs ys:List Int} {x:Int} {n:Nat} (hn:n=ys.length) (h:G2 M wr v u xs ys) (hb:Below M wM wr) (hM:M<=wr.heap.size) (o1:w1.ownsRow M 3 1 u' (n+1) (ys.map (Value.int .i64) ++ #[Value.int .i64 x].toList)) (g1:wr.grownBy w1 u.ownBlock) (q1:∀ j,u'.ownBlock=some j->u.ownBlock=some j\/wr.heap.size<=j):Below M wM w1/\G2 M w1 v u' xs (ys ++ [x]):=by
 subst hn
 refine ⟨Below.grown hb g1 hM fun j hj=>(h.ou.lt j hj).1,own_apart h.ov g1 (fun k hk hk'=>h.ne k hk' hk),?_,fun k hk hk'=>?_⟩
 ·unfold OwnI
  rw [List.length_append,List.map_append]
  exact o1
 ·rcases q1 k hk' with a | a
  ·exact h.ne k hk a
  ·have:=(h.ov.lt k hk).2
   omega
theorem G2.below {M:Nat} {wr w1:World} {v u:Value} {xs ys:List Int} (h:G2 M wr v u xs ys) (hb:Below wr.heap.size wr w1):G2 M w1 v u xs ys:=⟨h.ov.below hb,h.ou.below hb,h.ne⟩
theorem sliceZ {w:World} {B:Nat} {e:TypeId} {sz:Nat} {v:Value} {n:Nat} {xs:List Value} (h:w.ownsRow B e sz v n xs):∃ a c,v=.slice a n c:=by
 rcases h.2 with ⟨rfl,rfl⟩ | ⟨g,cap,cur,rfl,_⟩
 ·exact ⟨none,0,rfl⟩
 ·exact ⟨_,_,rfl⟩
theorem row_of {w:World} {M n:Nat} {v:Value} {xs:List Int} (h:OwnI w M v xs) (hn:xs.length=n):w.ownsRow M 3 1 v n (xs.map (Value.int .i64)):=by
 subst hn
 exact h
theorem cutsLaw_small (a0:Option Addr) (len cap:Nat) (w:World) (hl:len<=1048576) (hB:BytesAt w w.heap.size a0 len) (hV:w.cell? ⟨0,0,none⟩=some (.iface 294 (.agg #[.pointer (some ⟨1,179,none⟩)]))):
  Calls Tryz.prog 3 #[.slice a0 len cap] w fun e w'=>e=.returned (.bool true)/\Below w.heap.size w w':=by
 have HB:Hid (BytesAt w w.heap.size a0 len):=hB
 have HV:Hid (∀ wx,Below w.heap.size w wx->wx.cell? ⟨0,0,none⟩=some (.iface 294 (.agg #[.pointer (some ⟨1,179,none⟩)]))):=fun wx hb=>(hb.cell (p:=⟨0,0,none⟩) (zJ w _ hV)).trans hV
 clear hB hV
 go_enter Tryz.func3,Tryz.ntmps3
 go_wp2_with fail
 refine (big_any a0 len cap w).mono ?_
 rintro e w1 ⟨rfl,rfl⟩
 rw [decide_eq_false (show ¬ (1048576:Int)<(len:Int) by omega)]
 go_wp2_with fail
 refine (DrawWhole_any w1.heap.size len cap a0 w1 HB.out (Nat.le_refl _) hl).mono ?_
 rintro e w2 ⟨x,aa,ca,xs,B,T,rfl,hm,hX,-,-,b2,oa,la⟩
 have HM:Hid (x.Len/\(∀ i,i<x.hn->x.hL i<=x.hC i)):=⟨hm.inLen,hX.cap⟩
 have HSa:Hid (Sl w2 aa xs/\xs.length<=20):=by
  obtain ⟨a',c',e,s⟩:=oa.form
  simp only [Value.slice.injEq] at e
  rw [e.1]
  exact ⟨s,la⟩
 have K2:Hid (WJ w1 (w2.alloc (oQ4 x.pa x.pn x.pc x.sa x.sn x.sc x.wa x.wn x.wc x.ha x.hn x.hc)) w2.heap.size x/\Sl (w2.alloc (oQ4 x.pa x.pn x.pc x.sa x.sn x.sc x.wa x.wn x.wc x.ha x.hn x.hc)) aa xs):=⟨⟨hX.self.below (zQ _ _),BoxC.new _ _ _ _ _ _,b2.trans ((zQ _ _).mono b2.size)⟩,HSa.out.1.below (zQ _ _)⟩
 have HLa:Hid (xs.length<=20):=la
 clear hX b2 hm oa la HSa
 go_wp2_with fail
 generalize w2.alloc (oQ4 x.pa x.pn x.pc x.sa x.sn x.sc x.wa x.wn x.wc x.ha x.hn x.hc)=W2 at *
 generalize w2.heap.size=X at *
 clear w2
 refine (DrawCutOk_any w1.heap.size len cap a0 W2 (HB.out.kept fun b hb=>K2.out.1.be.block b hb) K2.out.1.be.size hl).mono ?_
 rintro e w3 ⟨x5,ab,cb,ys,rfl,b3,ob,lb⟩
 have Q3:Hid (CQ w1 (w3.alloc (oQ4 x5.pa x5.pn x5.pc x5.sa x5.sn x5.sc x5.wa x5.wn x5.wc x5.ha x5.hn x5.hc)) X x aa xs ab ys):=by
  obtain ⟨a',c',e,s⟩:=ob.form
  simp only [Value.slice.injEq] at e
  have s':Sl w3 ab ys:=by rw [e.1];exact s
  exact CQ.below ⟨K2.out.1.below b3,K2.out.2.below b3,s'⟩ (zQ _ _)
 have HLb:Hid (ys.length<=20):=lb
 clear b3 ob lb K2 HB
 go_upto_region 5 with fail
 generalize w3.alloc (oQ4 x5.pa x5.pn x5.pc x5.sa x5.sn x5.sc x5.wa x5.wn x5.wc x5.ha x5.hn x5.hc)=W3 at *
 generalize w3.heap.size=Y at *
 clear w3
 have WI:Hid (∀ wx (ca:Option Addr) (cc:Nat) (c:List Int),CQ w1 wx X x aa xs ab ys->Sl wx ca c->c.length<=1048576->Calls Tryz.prog 11 #[x.v,.slice ca c.length cc] wx fun e w'=>e=.returned (.bool (whB x.y c))/\Below wx.heap.size wx w'):=fun wx ca cc c q s h=>implWhole_any x ca cc c wx q.j.g HM.out.1 HM.out.2 s h (HV.out _ q.j.be)
 have CW:Hid (∀ wx,CQ w1 wx X x aa xs ab ys->Calls Tryz.prog 12 #[x.v,.slice aa xs.length ca] wx fun e w'=>e=.returned (.bool (whB x.y xs))/\Below wx.heap.size wx w'):=fun wx q=>specWhole_any x aa ca xs wx q.j.g HM.out.1 HM.out.2 q.a (by have:=HLa.out;omega)
 have CI:Hid (∀ wx,CQ w1 wx X x aa xs ab ys->Calls Tryz.prog 13 #[x.v,.slice aa xs.length ca] wx fun e w'=>e=.returned (.bool (cutB x.y xs))/\Below wx.heap.size wx w'):=fun wx q=>implCutOk_any x aa ca xs wx q.j.g HM.out.1 q.a (by have:=HLa.out;omega) (HV.out _ q.j.be)
 have CS:Hid (∀ wx,CQ w1 wx X x aa xs ab ys->Calls Tryz.prog 14 #[x.v,.slice aa xs.length ca] wx fun e w'=>e=.returned (.bool (cutB x.y xs))/\Below wx.heap.size wx w'):=fun wx q=>specCutOk_any x aa ca xs wx q.j.g HM.out.1 HM.out.2 q.a (by have:=HLa.out;omega)
 have FI:Hid (∀ wx,CQ w1 wx X x aa xs ab ys->Calls Tryz.prog 16 #[x.v] wx fun e w'=>∃ u,e=.returned u/\OwnI w' wx.heap.size u (flS x.y)/\Below wx.heap.size wx w'):=fun wx q=>implFull_any x wx q.j.g HM.out.1 (HV.out _ q.j.be)
 have FS:Hid (∀ wx,CQ w1 wx X x aa xs ab ys->Calls Tryz.prog 17 #[x.v] wx fun e w'=>∃ u,e=.returned u/\OwnI w' wx.heap.size u (flS x.y)/\Below wx.heap.size wx w'):=fun wx q=>specFull_any x wx q.j.g HM.out.1 HM.out.2
 have HFL:Hid ((flS x.y).length<=1048576):=flS_len x.y HM.out.1.h.1
 obtain ⟨T1,hT1⟩:∃ T1,whB x.y xs=T1:=⟨_,rfl⟩
 have HT1:Hid (whB x.y xs=T1):=hT1
 obtain ⟨T2,hT2⟩:∃ T2,cutB x.y xs=T2:=⟨_,rfl⟩
 have HT2:Hid (cutB x.y xs=T2):=hT2
 have t1:(T1 != T1)=false:=by simp
 have t2:(T2 != T2)=false:=by simp
 clear hT1 hT2
 obtain ⟨k0,k1,k2,k3⟩:=Q3.out.j.bx
 go_wp2_with fail
 clear k0 k1 k2 k3
 refine (WI.out W3 aa ca xs Q3.out Q3.out.a (by have:=HLa.out;omega)).mono ?_
 rintro e wr0 ⟨rfl,b0⟩
 rw [HT1.out]
 have Q0:Hid (CQ w1 wr0 X x aa xs ab ys):=Q3.out.below b0
 clear b0 Q3
 go_upto_region 6 with fail
 go_cut [50] from 29 to 49 (fun t wx=>t=.bool false/\Hid (CQ w1 wx X x aa xs ab ys))
 case first=>
  have q0:Below wr0.heap.size wr0 wr0.drew:=(Below.refl wr0.heap.size wr0).drew
  have L0:=Q0.out.below q0
  refine wp_region_G (fun w'=>BoxC w' X (.slice x.pa x.pn x.pc) (.slice x.sa x.sn x.sc) (.slice x.wa x.wn x.wc) (.slice x.ha x.hn x.hc)) (fun _=>false) (by kernel_rfl) ?_
  have hHeld:(fun w':World=>BoxC w' X (.slice x.pa x.pn x.pc) (.slice x.sa x.sn x.sc) (.slice x.wa x.wn x.wc) (.slice x.ha x.hn x.hc)) wr0.drew:=L0.j.bx
  refine wpG_take 0 rfl hHeld ?_
  apply Exists.intro
  refine ⟨fun wq hSw=>?_,?_⟩
  ·obtain ⟨h0,h1,h2,h3⟩:=hSw
   go_simp
   try with_reducible rfl
  (try simp only [Act.put,zD,zE,zF])
  refine wpG_take 1 rfl hHeld ?_
  apply Exists.intro
  refine ⟨fun wq hSw=>?_,?_⟩
  ·obtain ⟨h0,h1,h2,h3⟩:=hSw
   go_simp
   try with_reducible rfl
  (try simp only [Act.put,zD,zE,zF])
  refine wpG_take 2 rfl hHeld ?_
  apply Exists.intro
  refine ⟨fun wq hSw=>?_,?_⟩
  ·obtain ⟨h0,h1,h2,h3⟩:=hSw
   go_simp
   try with_reducible rfl
  (try simp only [Act.put,zD,zE,zF])
  refine wpG_one 3 rfl (by kernel_rfl) (fun K hK=>?_)
  refine stepR_call rfl 12 _ _ rfl #[x.v,.slice aa xs.length ca] (by simp [Act.eval,SysIn.v,sysV]) (yA Tryz.func12 (by kernel_rfl) rfl) (CW.out _ L0) ?_
  rintro e v1 ⟨rfl,b1⟩
  refine ⟨_,rfl,?_⟩
  have L1:=L0.below b1
  rw [HT1.out]
  refine hK.out _ _ (fun _=>L1.j.bx) ?_
  clear hK K hHeld
  have hHeld:(fun w':World=>BoxC w' X (.slice x.pa x.pn x.pc) (.slice x.sa x.sn x.sc) (.slice x.wa x.wn x.wc) (.slice x.ha x.hn x.hc)) v1:=L1.j.bx
  (try simp only [Act.put,zD,zE,zF])
  refine wpG_take 4 rfl hHeld ?_
  apply Exists.intro
  refine ⟨fun wq hSw=>?_,?_⟩
  ·obtain ⟨h0,h1,h2,h3⟩:=hSw
   go_simp
   try with_reducible rfl
  (try simp only [Act.put,zD,zE,zF])
  refine wpG_take 5 rfl hHeld ?_
  apply Exists.intro
  refine ⟨fun wq hSw=>?_,?_⟩
  ·obtain ⟨h0,h1,h2,h3⟩:=hSw
   go_simp
   try with_reducible rfl
  (try simp only [Act.put,zD,zE,zF])
  refine wpG_take 6 rfl hHeld ?_
  apply Exists.intro
  refine ⟨fun wq hSw=>?_,?_⟩
  ·obtain ⟨h0,h1,h2,h3⟩:=hSw
   go_simp
   try with_reducible rfl
  (try simp only [Act.put,zD,zE,zF])
  refine wpG_take 7 rfl hHeld ?_
  apply Exists.intro
  refine ⟨fun wq hSw=>?_,?_⟩
  ·obtain ⟨h0,h1,h2,h3⟩:=hSw
   go_simp
   try with_reducible rfl
  (try simp only [Act.put,zD,zE,zF])
  refine wpG_take 9 rfl hHeld ?_
  apply Exists.intro
  refine ⟨fun wq hSw=>?_,?_⟩
  ·obtain ⟨h0,h1,h2,h3⟩:=hSw
   go_simp
   try with_reducible rfl
  (try simp only [Act.put,zD,zE,zF])
  refine wpG_take 10 rfl hHeld ?_
  apply Exists.intro
  refine ⟨fun wq hSw=>?_,?_⟩
  ·obtain ⟨h0,h1,h2,h3⟩:=hSw
   go_simp
   try with_reducible rfl
  (try simp only [Act.put,zD,zE,zF])
  refine wpG_one 8 rfl (by kernel_rfl) (fun K hK=>?_)
  refine stepR_callD (by rfl) 13 _ _ rfl #[x.v,.slice aa xs.length ca] (by simp [Act.eval,SysIn.v,sysV]) (yA Tryz.func13 (by kernel_rfl) rfl) (CI.out _ L1) ?_
  rintro e v2 ⟨rfl,b2⟩
  refine ⟨_,rfl,?_⟩
  have L2:=L1.below b2
  rw [HT2.out]
  refine hK.out _ _ (fun _=>L2.j.bx) ?_
  clear hK K hHeld
  have hHeld:(fun w':World=>BoxC w' X (.slice x.pa x.pn x.pc) (.slice x.sa x.sn x.sc) (.slice x.wa x.wn x.wc) (.slice x.ha x.hn x.hc)) v2:=L2.j.bx
  (try simp only [Act.put,zD,zE,zF])
  refine wpG_one 11 rfl (by kernel_rfl) (fun K hK=>?_)
  refine stepR_callD (by rfl) 14 _ _ rfl #[x.v,.slice aa xs.length ca] (by simp [Act.eval,SysIn.v,sysV]) (yA Tryz.func14 (by kernel_rfl) rfl) (CS.out _ L2) ?_
  rintro e v3 ⟨rfl,b3⟩
  refine ⟨_,rfl,?_⟩
  have L3:=L2.below b3
  rw [HT2.out]
  refine hK.out _ _ (fun _=>L3.j.bx) ?_
  clear hK K hHeld
  have hHeld:(fun w':World=>BoxC w' X (.slice x.pa x.pn x.pc) (.slice x.sa x.sn x.sc) (.slice x.wa x.wn x.wc) (.slice x.ha x.hn x.hc)) v3:=L3.j.bx
  (try simp only [Act.put,zD,zE,zF])
  refine wpG_take 12 rfl hHeld ?_
  apply Exists.intro
  refine ⟨fun wq hSw=>?_,?_⟩
  ·obtain ⟨h0,h1,h2,h3⟩:=hSw
   go_simp
   try with_reducible rfl
  (try simp only [Act.put,zD,zE,zF])
  refine wpG_take 13 rfl hHeld ?_
  apply Exists.intro
  refine ⟨fun wq hSw=>?_,?_⟩
  ·obtain ⟨h0,h1,h2,h3⟩:=hSw
   go_simp
   try with_reducible rfl
  (try simp only [Act.put,zD,zE,zF])
  refine wpG_take 14 rfl hHeld ?_
  apply Exists.intro
  refine ⟨fun wq hSw=>?_,?_⟩
  ·obtain ⟨h0,h1,h2,h3⟩:=hSw
   go_simp
   try with_reducible rfl
  (try simp only [Act.put,zD,zE,zF])
  refine wpG_take 15 rfl hHeld ?_
  apply Exists.intro
  refine ⟨fun wq hSw=>?_,?_⟩
  ·obtain ⟨h0,h1,h2,h3⟩:=hSw
   go_simp
   try with_reducible rfl
  (try simp only [Act.put,zD,zE,zF])
  refine wpG_take 17 rfl hHeld ?_
  apply Exists.intro
  refine ⟨fun wq hSw=>?_,?_⟩
  ·obtain ⟨h0,h1,h2,h3⟩:=hSw
   go_simp
   try with_reducible rfl
  (try simp only [Act.put,zD,zE,zF])
  refine wpG_one 16 rfl (by kernel_rfl) (fun K hK=>?_)
  refine stepR_callD (by rfl) 16 _ _ rfl #[x.v] (by simp [Act.eval,SysIn.v,sysV]) (yA Tryz.func16 (by kernel_rfl) rfl) (FI.out _ L3) ?_
  rintro e v4 ⟨u4,rfl,o4,b4⟩
  obtain ⟨a4,c4,rfl,s4⟩:=o4.form
  refine ⟨_,rfl,?_⟩
  have L4:=L3.below b4
  refine hK.out _ _ (fun _=>L4.j.bx) ?_
  clear hK K hHeld
  have hHeld:(fun w':World=>BoxC w' X (.slice x.pa x.pn x.pc) (.slice x.sa x.sn x.sc) (.slice x.wa x.wn x.wc) (.slice x.ha x.hn x.hc)) v4:=L4.j.bx
  (try simp only [Act.put,zD,zE,zF])
  refine wpG_one 18 rfl (by kernel_rfl) (fun K hK=>?_)
  refine stepR_callD (by rfl) 17 _ _ rfl #[x.v] (by simp [Act.eval,SysIn.v,sysV]) (yA Tryz.func17 (by kernel_rfl) rfl) (FS.out _ L4) ?_
  rintro e v5 ⟨u5,rfl,o5,b5⟩
  obtain ⟨a5,c5,rfl,s5⟩:=o5.form
  refine ⟨_,rfl,?_⟩
  have L5:=L4.below b5
  refine hK.out _ _ (fun _=>L5.j.bx) ?_
  clear hK K hHeld
  have hHeld:(fun w':World=>BoxC w' X (.slice x.pa x.pn x.pc) (.slice x.sa x.sn x.sc) (.slice x.wa x.wn x.wc) (.slice x.ha x.hn x.hc)) v5:=L5.j.bx
  (try simp only [Act.put,zD,zE,zF])
  refine wpG_one 19 rfl (by kernel_rfl) (fun K hK=>?_)
  refine stepR_callD (by rfl) 15 _ _ rfl #[.slice a4 (flS x.y).length c4,.slice a5 (flS x.y).length c5] (by simp [Act.eval,SysIn.v,sysV]) (yA Tryz.func15 (by kernel_rfl) rfl) (sameInts_same a4 a5 c4 c5 (flS x.y) v5 HFL.out (s4.below b5) s5) ?_
  rintro e v6 ⟨rfl,b6⟩
  refine ⟨_,rfl,?_⟩
  have L6:=L5.below b6
  refine hK.out _ _ (fun _=>L6.j.bx) ?_
  clear hK K hHeld
  have hHeld:(fun w':World=>BoxC w' X (.slice x.pa x.pn x.pc) (.slice x.sa x.sn x.sc) (.slice x.wa x.wn x.wc) (.slice x.ha x.hn x.hc)) v6:=L6.j.bx
  (try simp only [Act.put,zD,zE,zF])
  refine wpG_take 20 rfl hHeld ?_
  apply Exists.intro
  refine ⟨fun wq hSw=>?_,?_⟩
  ·obtain ⟨h0,h1,h2,h3⟩:=hSw
   go_simp
   try with_reducible rfl
  (try simp only [Act.put,zD,zE,zF])
  refine wpG_take 21 rfl hHeld ?_
  apply Exists.intro
  refine ⟨fun wq hSw=>?_,?_⟩
  ·obtain ⟨h0,h1,h2,h3⟩:=hSw
   go_simp
   try with_reducible rfl
  (try simp only [Act.put,zD,zE,zF])
  refine wpG_done (by kernel_rfl) ?_ _
  go_wp2_with fail
  go_meet
  case rel=>exact ⟨by with_reducible rfl,L6⟩
 case rest=>
  obtain ⟨rfl,Q6⟩:=hcut
  clear Q0 CW CI CS FS t2 HT2
  obtain ⟨k0,k1,k2,k3⟩:=Q6.out.j.bx
  go_wp2_with fail
  clear k0 k1 k2 k3
  refine (specSysOk_any x _ Q6.out.j.g HM.out.1 HM.out.2).mono ?_
  rintro e w7 ⟨rfl,b7⟩
  have Q7:Hid (CQ w1 w7 X x aa xs ab ys):=Q6.out.below b7
  clear b7 Q6
  generalize ht:x.y.okB=T9
  cases T9
  ·have e1:T1=false:=by
    rw [<- HT1.out]
    rcases zK (whB x.y xs) with h | h
    ·have:=(whB_iff.1 h).1
     rw [Sy.okB_true this] at ht
     cases ht
    ·exact h
   have e2:flS x.y=[]:=by
    unfold flS
    rw [if_neg (by rw [ht];simp)]
   subst e1
   clear ht
   obtain ⟨k0,k1,k2,k3⟩:=Q7.out.j.bx
   go_wp2_with fail
   clear k0 k1 k2 k3
   refine (FI.out w7 Q7.out).mono ?_
   rintro e w8 ⟨u8,rfl,o8,b8⟩
   rw [e2] at o8
   obtain ⟨a8,c8,rfl,-⟩:=o8.form
   have BE:Hid (Below w1.heap.size w1 w8):=(Q7.out.below b8).j.be
   clear o8 b8 Q7
   go_wp2
   go_ret
   exact ⟨rfl,BE.out⟩
  have HOK:Hid x.y.Ok:=Sy.ok_of ht
  clear ht
  have Q0:Hid (CQ w1 w7 X x aa xs ab ys):=Q7.out
  clear Q7
  obtain ⟨wr0,hwr⟩:∃ wr0,wr0=w7:=⟨_,rfl⟩
  subst hwr
  go_upto_region 10 with fail
  have hn':(x.hn:Int)<=1048576:=by have:=HM.out.1.h.1;omega
  go_cut [75] from 62 to 74 (fun t wx=>t=.bool false/\Hid (CQ w1 wx X x aa xs ab ys))
  case first=>
   have q0:Below wr0.heap.size wr0 wr0.drew:=(Below.refl wr0.heap.size wr0).drew
   have L0:=Q0.out.below q0
   refine wp_region_G (fun w'=>BoxC w' X (.slice x.pa x.pn x.pc) (.slice x.sa x.sn x.sc) (.slice x.wa x.wn x.wc) (.slice x.ha x.hn x.hc)) (fun _=>false) (by kernel_rfl) ?_
   have hHeld:(fun w':World=>BoxC w' X (.slice x.pa x.pn x.pc) (.slice x.sa x.sn x.sc) (.slice x.wa x.wn x.wc) (.slice x.ha x.hn x.hc)) wr0.drew:=L0.j.bx
   refine wpG_take 0 rfl hHeld ?_
   apply Exists.intro
   refine ⟨fun wq hSw=>?_,?_⟩
   ·obtain ⟨h0,h1,h2,h3⟩:=hSw
    go_simp
    try with_reducible rfl
   (try simp only [Act.put,zD,zE,zF])
   refine wpG_take 1 rfl hHeld ?_
   apply Exists.intro
   refine ⟨fun wq hSw=>?_,?_⟩
   ·obtain ⟨h0,h1,h2,h3⟩:=hSw
    go_simp
    try with_reducible rfl
   (try simp only [Act.put,zD,zE,zF])
   refine wpG_one 2 rfl (by kernel_rfl) (fun K hK=>?_)
   refine stepR_call rfl 16 _ _ rfl #[x.v] (by simp [Act.eval,SysIn.v,sysV]) (yA Tryz.func16 (by kernel_rfl) rfl) (FI.out _ L0) ?_
   rintro e v1 ⟨u1,rfl,o1,b1⟩
   obtain ⟨a1,c1,rfl,s1⟩:=o1.form
   refine ⟨_,rfl,?_⟩
   have L1:=L0.below b1
   refine hK.out _ _ (fun _=>L1.j.bx) ?_
   clear hK K hHeld
   have hHeld:(fun w':World=>BoxC w' X (.slice x.pa x.pn x.pc) (.slice x.sa x.sn x.sc) (.slice x.wa x.wn x.wc) (.slice x.ha x.hn x.hc)) v1:=L1.j.bx
   (try simp only [Act.put,zD,zE,zF])
   refine wpG_one 3 rfl (by kernel_rfl) (fun K hK=>?_)
   refine stepR_call rfl 11 _ _ rfl #[x.v,.slice a1 (flS x.y).length c1] (by simp [Act.eval,SysIn.v,sysV]) (yA Tryz.func11 (by kernel_rfl) rfl) (WI.out _ a1 c1 (flS x.y) L1 s1 HFL.out) ?_
   rintro e v2 ⟨rfl,b2⟩
   refine ⟨_,rfl,?_⟩
   have L2:=L1.below b2
   rw [wh_all HOK.out]
   refine hK.out _ _ (fun _=>L2.j.bx) ?_
   clear hK K hHeld
   have hHeld:(fun w':World=>BoxC w' X (.slice x.pa x.pn x.pc) (.slice x.sa x.sn x.sc) (.slice x.wa x.wn x.wc) (.slice x.ha x.hn x.hc)) v2:=L2.j.bx
   (try simp only [Act.put,zD,zE,zF])
   refine wpG_take 4 rfl hHeld ?_
   apply Exists.intro
   refine ⟨fun wq hSw=>?_,?_⟩
   ·obtain ⟨h0,h1,h2,h3⟩:=hSw
    go_simp
    try with_reducible rfl
   (try simp only [Act.put,zD,zE,zF])
   refine wpG_take 5 rfl hHeld ?_
   apply Exists.intro
   refine ⟨fun wq hSw=>?_,?_⟩
   ·obtain ⟨h0,h1,h2,h3⟩:=hSw
    go_simp
    try with_reducible rfl
   (try simp only [Act.put,zD,zE,zF])
   refine wpG_take 6 rfl hHeld ?_
   apply Exists.intro
   refine ⟨fun wq hSw=>?_,?_⟩
   ·obtain ⟨h0,h1,h2,h3⟩:=hSw
    go_simp
    try with_reducible rfl
   (try simp only [Act.put,zD,zE,zF])
   refine wpG_take 7 rfl hHeld ?_
   apply Exists.intro
   refine ⟨fun wq hSw=>?_,?_⟩
   ·obtain ⟨h0,h1,h2,h3⟩:=hSw
    go_simp
    try with_reducible rfl
   (try simp only [Act.put,zD,zE,zF])
   refine wpG_take 8 rfl hHeld ?_
   apply Exists.intro
   refine ⟨fun wq hSw=>?_,?_⟩
   ·obtain ⟨h0,h1,h2,h3⟩:=hSw
    go_simp
    try with_reducible rfl
   (try simp only [Act.put,zD,zE,zF])
   refine wpG_take 9 rfl hHeld ?_
   apply Exists.intro
   refine ⟨fun wq hSw=>?_,?_⟩
   ·obtain ⟨h0,h1,h2,h3⟩:=hSw
    go_simp
    try with_reducible rfl
   (try simp only [Act.put,zD,zE,zF])
   have hmk:=run_make_int x.hn (by have:=HM.out.1.h.1;omega) v2
   refine wpG_one 10 rfl (by kernel_rfl) (fun K hK=>?_)
   go_simp
   have b3:=zQ v2 (.cells (madeCells #[.int .i64 0] x.hn) 3)
   have L3:=L2.below b3
   have o3:=made_own v2 x.hn (by have:=HM.out.1.h.1;omega)
   refine hK.out _ _ (fun _=>L3.j.bx) ?_
   clear hK K hHeld hmk
   (try simp only [Act.put,zD,zE,zF])
   have s3:Sl (v2.alloc (.cells (madeCells #[.int .i64 0] x.hn) 3)) (some ⟨v2.heap.size,0,none⟩) (List.replicate x.hn 0):=by
    obtain ⟨a9,c9,e9,s9⟩:=o3.form
    simp only [Value.slice.injEq] at e9
    rw [e9.1]
    exact s9
   generalize v2.alloc (.cells (madeCells #[.int .i64 0] x.hn) 3)=v3 at *
   have hHeld:(fun w':World=>BoxC w' X (.slice x.pa x.pn x.pc) (.slice x.sa x.sn x.sc) (.slice x.wa x.wn x.wc) (.slice x.ha x.hn x.hc)) v3:=L3.j.bx
   refine wpG_one 11 rfl (by kernel_rfl) (fun K hK=>?_)
   refine stepR_callD (by rfl) 11 _ _ rfl #[x.v,.slice (some ⟨v2.heap.size,0,none⟩) x.hn x.hn] (by simp [Act.eval,SysIn.v,sysV]) (yA Tryz.func11 (by kernel_rfl) rfl) (by have h9:=WI.out v3 (some ⟨v2.heap.size,0,none⟩) x.hn (List.replicate x.hn 0) L3 s3 (by rw [List.length_replicate];have:=HM.out.1.h.1;omega);rw [List.length_replicate] at h9;exact h9) ?_
   rintro e v4 ⟨rfl,b4⟩
   refine ⟨_,rfl,?_⟩
   have L4:=L3.below b4
   rw [show List.replicate x.hn (0:Int)=List.replicate x.y.hn 0 from rfl,wh_none HOK.out]
   refine hK.out _ _ (fun _=>L4.j.bx) ?_
   clear hK K hHeld
   have hHeld:(fun w':World=>BoxC w' X (.slice x.pa x.pn x.pc) (.slice x.sa x.sn x.sc) (.slice x.wa x.wn x.wc) (.slice x.ha x.hn x.hc)) v4:=L4.j.bx
   (try simp only [Act.put,zD,zE,zF])
   refine wpG_take 12 rfl hHeld ?_
   apply Exists.intro
   refine ⟨fun wq hSw=>?_,?_⟩
   ·obtain ⟨h0,h1,h2,h3⟩:=hSw
    go_simp
    try with_reducible rfl
   (try simp only [Act.put,zD,zE,zF])
   refine wpG_take 13 rfl hHeld ?_
   apply Exists.intro
   refine ⟨fun wq hSw=>?_,?_⟩
   ·obtain ⟨h0,h1,h2,h3⟩:=hSw
    go_simp
    try with_reducible rfl
   (try simp only [Act.put,zD,zE,zF])
   refine wpG_done (by kernel_rfl) ?_ _
   go_wp2_with fail
   go_meet
   case rel=>exact ⟨by with_reducible rfl,L4⟩
  case rest=>
   obtain ⟨rfl,Q8⟩:=hcut
   clear Q0 FI
   obtain ⟨k0,k1,k2,k3⟩:=Q8.out.j.bx
   go_wp2_with fail
   clear k0 k1 k2 k3
   refine (implClose_any x ab cb ys _ Q8.out.j.g HM.out.1 HM.out.2 Q8.out.b (by have:=HLb.out;omega) (HV.out _ Q8.out.j.be)).mono ?_
   rintro e w9 ⟨u9,rfl,o9,b9⟩
   obtain ⟨a9,c9,rfl,s9⟩:=o9.form
   have Q9:Hid (CQ w1 w9 X x aa xs ab ys/\Sl w9 a9 (clS x.y ys)):=⟨Q8.out.below b9,s9⟩
   clear o9 b9 s9 Q8
   have HCL:Hid (T1=true->(clS x.y ys).length=xs.length->whB x.y (mxL xs (clS x.y ys) xs.length)=true/\whB x.y (mnL xs (clS x.y ys) xs.length)=true):=fun h1 h2=>by
    have hw:whB x.y xs=true:=by rw [HT1.out];exact h1
    have h3:=(whB_iff.1 hw).2.1.len
    have h4:=HOK.out.cn.1.1
    refine wh_more hw (clS_wh ?_)
    rcases zK (cutB x.y ys) with h | h
    ·exact h
    ·rw [clS_no h] at h2
     simp at h2
     omega
   have hcl:=clS_len x.y ys
   generalize clS x.y ys=zs at *
   have hzl:(zs.length:Int)<=4:=by omega
   have hxl:(xs.length:Int)<=20:=by have:=HLa.out;omega
   cases T1
   ·have BE:Hid (Below w1.heap.size w1 w9):=Q9.out.1.j.be
    clear Q9
    go_wp2
    go_ret
    exact ⟨rfl,BE.out⟩
   by_cases hlz:zs.length=xs.length
   case neg=>
    have hlz':((zs.length:Int) != (xs.length:Int))=true:=by simp;omega
    have BE:Hid (Below w1.heap.size w1 w9):=Q9.out.1.j.be
    clear Q9 hlz
    go_wp2
    go_ret
    exact ⟨rfl,BE.out⟩
   have hlz':((zs.length:Int) != (xs.length:Int))=false:=by simp;omega
   have HWh:=HCL.out rfl hlz
   have HW:Hid (whB x.y (mxL xs zs xs.length)=true/\whB x.y (mnL xs zs xs.length)=true):=HWh
   have HZ:Hid (zs.length=xs.length):=hlz
   clear HCL HWh hlz hcl
   have HQ:Hid (CQ w1 w9 X x aa xs ab ys/\Sl w9 a9 zs):=Q9.out
   clear Q9
   have G0:Hid (Below w9.heap.size w9 ((w9.alloc (.cells #[] 3)).alloc (.cells #[] 3))/\G2 w9.heap.size ((w9.alloc (.cells #[] 3)).alloc (.cells #[] 3)) (.slice (some ⟨w9.heap.size,0,none⟩) 0 0) (.slice (some ⟨w9.heap.size+1,0,none⟩) 0 0) [] []):=by
    have b1:Below w9.heap.size w9 ((w9.alloc (.cells #[] 3)).alloc (.cells #[] 3)):=((Below.refl _ _).alloc (Nat.le_refl _) _).alloc (by simp) _
    have m1:=World.ownsRow_made (base:=w9.heap.size) (e:=3) (size:=1) w9 #[] 0 (Nat.le_refl _) (by unfold maxLen;omega) (by simp)
    have m2:=World.ownsRow_made (base:=w9.heap.size) (e:=3) (size:=1) (w9.alloc (.cells #[] 3)) #[] 0 (by simp) (by unfold maxLen;omega) (by simp)
    simp only [World.size_alloc] at m2
    have m1':OwnI (w9.alloc (.cells #[] 3)) w9.heap.size (.slice (some ⟨w9.heap.size,0,none⟩) 0 0) []:=m1
    exact ⟨b1, m1'.below (zQ _ _), m2, fun k hk => by
     have hk':w9.heap.size=k:=Option.some.inj hk
     intro h
     have h':w9.heap.size+1=k:=Option.some.inj h
     omega⟩
   go_wp2_with fail
   generalize ((w9.alloc (.cells #[] 3)).alloc (.cells #[] 3))=wS at *
   go_loopw [9,10,11] (fun v u i wr=>∃ (j:Nat) (am:Option Addr) (cm:Nat) (al:Option Addr) (cl:Nat),j<=xs.length/\i=.int .i64 j/\v=.slice am j cm/\u=.slice al j cl/\Hid (Below w9.heap.size w9 wr/\G2 w9.heap.size wr (.slice am j cm) (.slice al j cl) (mxL xs zs j) (mnL xs zs j))) (fun _ _ i _=>xs.length - (intOf i).toNat)
   case atStart=>exact ⟨0,_,_,_,_,Nat.zero_le _,rfl,rfl,rfl,G0.out⟩
   case round=>
    clear G0
    obtain ⟨j,am,cm,al,cl,hj,rfl,rfl,rfl,HG⟩:=hrel
    by_cases hlt:j<xs.length
    ·have hlt':(j:Int)<(xs.length:Int):=by omega
     have hltz:j<zs.length:=by have:=HZ.out;omega
     have hltz':(j:Int)<(zs.length:Int):=by omega
     have qr:=HQ.out.1.below HG.out.1
     have sr:=HQ.out.2.below HG.out.1
     obtain ⟨ba,oa,ea,-,ca0⟩:=qr.a.at hlt
     obtain ⟨bz,oz,ez,-,cz0⟩:=sr.at hltz
     clear qr sr
     subst ea ez
     go_wp2_with fail
     go_quiet (fail)
     have H2:Hid (Below w9.heap.size w9 (wr.drewN nq)/\G2 w9.heap.size (wr.drewN nq) (.slice am j cm) (.slice al j cl) (mxL xs zs j) (mnL xs zs j)):=⟨yC HG.out.1 _,HG.out.2.below (yC (Below.refl _ _) _)⟩
     generalize wr.drewN nq=wq at *
     clear HG ca0 cz0
     by_cases hxy:zi xs j<zi zs j
     ·go_upto_region 23 with (at_builtin;refine step_append_val kndZ wq rfl rfl _ _ rfl w9.heap.size (.slice am j cm) j _ rfl (row_of H2.out.2.ov (mxL_len _ _ _)) #[.int .i64 (zi zs j)] rfl rfl (by intro u hu;simp at hu;subst hu;rfl) (by omega) H2.out.1.size ?_;intro v5 w5 o5 g5 q5 n5;obtain ⟨a5,c5,rfl⟩:=sliceZ o5;have H5:Hid (Below w9.heap.size w9 w5/\G2 w9.heap.size w5 (.slice a5 (j+1) c5) (.slice al j cl) (mxL xs zs j ++ [zi zs j]) (mnL xs zs j)):=H2.out.2.more (mxL_len _ _ _).symm H2.out.1 H2.out.1.size o5 g5 q5;clear o5 g5 q5 n5)
      clear H2
      go_wp2_with (at_builtin;refine step_append_val kndZ w5 rfl rfl _ _ rfl w9.heap.size (.slice al j cl) j _ rfl (row_of H5.out.2.ou (mnL_len _ _ _)) #[.int .i64 (zi xs j)] rfl rfl (by intro u hu;simp at hu;subst hu;rfl) (by omega) H5.out.1.size ?_;intro v6 w6 o6 g6 q6 n6;obtain ⟨a6,c6,rfl⟩:=sliceZ o6;have H6:Hid (Below w9.heap.size w9 w6/\G2 w9.heap.size w6 (.slice a5 (j+1) c5) (.slice a6 (j+1) c6) (mxL xs zs j ++ [zi zs j]) (mnL xs zs j ++ [zi xs j])):=H5.out.2.less (mnL_len _ _ _).symm H5.out.1 H5.out.1.size o6 g6 q6;clear o6 g6 q6 n6)
      clear H5
      have H7:=H6
      rw [show mxL xs zs j ++ [zi zs j]=mxL xs zs (j+1) from by rw [mxL,if_pos hxy],show mnL xs zs j ++ [zi xs j]=mnL xs zs (j+1) from by rw [mnL,if_pos hxy]] at H7
      clear H6
      go_roundw
      case rel=>exact ⟨j+1,_,_,_,_,by omega,by go_num,rfl,rfl,H7.out⟩
      case measure=>simp [intOf];omega
     ·go_upto_region 23 with (at_builtin;refine step_append_val kndZ wq rfl rfl _ _ rfl w9.heap.size (.slice am j cm) j _ rfl (row_of H2.out.2.ov (mxL_len _ _ _)) #[.int .i64 (zi xs j)] rfl rfl (by intro u hu;simp at hu;subst hu;rfl) (by omega) H2.out.1.size ?_;intro v5 w5 o5 g5 q5 n5;obtain ⟨a5,c5,rfl⟩:=sliceZ o5;have H5:Hid (Below w9.heap.size w9 w5/\G2 w9.heap.size w5 (.slice a5 (j+1) c5) (.slice al j cl) (mxL xs zs j ++ [zi xs j]) (mnL xs zs j)):=H2.out.2.more (mxL_len _ _ _).symm H2.out.1 H2.out.1.size o5 g5 q5;clear o5 g5 q5 n5)
      clear H2
      go_wp2_with (at_builtin;refine step_append_val kndZ w5 rfl rfl _ _ rfl w9.heap.size (.slice al j cl) j _ rfl (row_of H5.out.2.ou (mnL_len _ _ _)) #[.int .i64 (zi zs j)] rfl rfl (by intro u hu;simp at hu;subst hu;rfl) (by omega) H5.out.1.size ?_;intro v6 w6 o6 g6 q6 n6;obtain ⟨a6,c6,rfl⟩:=sliceZ o6;have H6:Hid (Below w9.heap.size w9 w6/\G2 w9.heap.size w6 (.slice a5 (j+1) c5) (.slice a6 (j+1) c6) (mxL xs zs j ++ [zi xs j]) (mnL xs zs j ++ [zi zs j])):=H5.out.2.less (mnL_len _ _ _).symm H5.out.1 H5.out.1.size o6 g6 q6;clear o6 g6 q6 n6)
      clear H5
      have H7:=H6
      rw [show mxL xs zs j ++ [zi xs j]=mxL xs zs (j+1) from by rw [mxL,if_neg hxy],show mnL xs zs j ++ [zi zs j]=mnL xs zs (j+1) from by rw [mnL,if_neg hxy]] at H7
      clear H6
      go_roundw
      case rel=>exact ⟨j+1,_,_,_,_,by omega,by go_num,rfl,rfl,H7.out⟩
      case measure=>simp [intOf];omega
    ·have hjn:j=xs.length:=by omega
     subst hjn
     have QE:Hid (CQ w1 wr X x aa xs ab ys/\Sl wr am (mxL xs zs xs.length)/\Sl wr al (mnL xs zs xs.length)):=by
      obtain ⟨a1,c1,e1,s1⟩:=HG.out.2.ov.form
      obtain ⟨a2,c2,e2,s2⟩:=HG.out.2.ou.form
      simp only [Value.slice.injEq] at e1 e2
      refine ⟨HQ.out.1.below HG.out.1,?_,?_⟩
      ·rw [e1.1];exact s1
      ·rw [e2.1];exact s2
     clear HG HQ
     obtain ⟨k0,k1,k2,k3⟩:=QE.out.1.j.bx
     go_wp2_with fail
     clear k0 k1 k2 k3
     have c1:=WI.out wr am cm (mxL xs zs xs.length) QE.out.1 QE.out.2.1 (by rw [mxL_len];omega)
     rw [mxL_len,HW.out.1] at c1
     refine c1.mono ?_
     rintro e wa ⟨rfl,ba⟩
     have QF:Hid (CQ w1 wa X x aa xs ab ys/\Sl wa al (mnL xs zs xs.length)):=⟨QE.out.1.below ba,QE.out.2.2.below ba⟩
     clear QE ba c1
     obtain ⟨k0,k1,k2,k3⟩:=QF.out.1.j.bx
     go_wp2_with fail
     clear k0 k1 k2 k3
     have c2:=WI.out wa al cl (mnL xs zs xs.length) QF.out.1 QF.out.2 (by rw [mnL_len];omega)
     rw [mnL_len,HW.out.2] at c2
     refine c2.mono ?_
     rintro e wb ⟨rfl,bb⟩
     have BE:Hid (Below w1.heap.size w1 wb):=(QF.out.1.below bb).j.be
     clear QF bb c2
     go_wp2
     go_ret
     exact ⟨rfl,BE.out⟩
theorem cutsLaw_great (a0:Option Addr) (len cap:Nat) (w:World) (_hm:len<=maxLen) (hl:1048576<len):
  Calls Tryz.prog 3 #[.slice a0 len cap] w fun e w'=>e=.returned (.bool true)/\Below w.heap.size w w':=by
 go_enter Tryz.func3,Tryz.ntmps3
 go_wp2_with fail
 refine (big_any a0 len cap w).mono ?_
 rintro e w1 ⟨rfl,rfl⟩
 rw [decide_eq_true (show (1048576:Int)<(len:Int) by omega)]
 go_wp2
 go_ret
 exact ⟨rfl,Below.refl _ _⟩
open Go.ChangeShapes Go.WideShapes Go.ChangeAt
theorem cutsLifted (os:Os) (started:os.Started) (H:Type) (enc:TypeId × Value->H):
  ReturnsInHanded {} Tryz.checked os 3 .any (fun w args => (Rows.fnCutsSpec.pre enc Tryz.prog Tryz.f3 [] false w args /\ laidMetH Tryz.prog [("errors.errorType", Rows.laid_errors_errorType)] w) /\ sizedMet enc Tryz.prog Tryz.f3 (OpenSpec.ofChange Rows.fnCutsSpec) false w args)
   (Rows.fnCutsSpec.post enc Tryz.prog Tryz.f3 false true false false):=by
 refine returnsInHanded_of_change_and (C := Tryz.checked) (X := fun w _ => laidMetH Tryz.prog [("errors.errorType", Rows.laid_errors_errorType)] w) (fun _ _ _ hh h => h.of_heap hh) Tryz.own started (by kernel_rfl) Tryz.func3
  (ChangeSpec.witness_at (enc := enc) (C := Tryz.checked) (os := os) (X := fun w _ => laidMetH Tryz.prog [("errors.errorType", Rows.laid_errors_errorType)] w) false (laidWorld os) #[.slice none 0 0] 8 rfl (by kernel_rfl) (by kernel_rfl) (by kernel_rfl) (by kernel_rfl) (by kernel_rfl) (laidWorld_met os _)) ?_
 intro W base args ds gs before hval0 hW _ _ hL _
 have hval:∀ (j:Nat) t v,Tryz.f3.params[j]? = some t->args[j]? = some v->Value.okWide Tryz.prog W .any base t v:=hval0
 have hW':=hW
 obtain ⟨p,q,hA0,hV,rfl,hfz,hnd⟩:=hW
 have hA:DataW.TrodAll enc Tryz.prog W 0 (fun _=>true) true Tryz.f3.params.toList args.toList ds p:=hA0
 rw [Tryz.params3] at hA hval
 obtain ⟨v0,d0,rfl,rfl,h0⟩:=trodAll_one hA
 obtain ⟨rfl,rfl⟩:=trodVars_none hV
 have lt0:∀ x ∈ p,x.block<W.heap.size:=by obtain ⟨m,hm⟩:=h0;exact DataW.trod_lt m _ _ _ hm
 have hg:=handle_of_laid hL
 clear hA0 hval0
 have hlaw:Calls Tryz.prog 3 #[v0] W fun e w'=>e=.returned (.bool true)/\Below W.heap.size W w':=by
  obtain ⟨a0,len,cap,rfl⟩:=okWide_slice Tryz.underlying22 (hval 0 22 v0 rfl rfl)
  obtain ⟨hm,hB⟩:=open_bytes h0
  by_cases hs:len<=1048576
  ·exact cutsLaw_small a0 len cap W hs hB hg
  ·exact cutsLaw_great a0 len cap W hm (by omega)
 refine hlaw.mono fun e W' ⟨he,bel⟩=>?_
 subst he
 exact ⟨_,rfl,_,_,_,[],_,[],hW',trodAll_mk1 (shut_bool Tryz.underlying4 _),trodAll_mk1 (Below.trod Tryz.laidOut (by kernel_rfl) (of_decide_eq_true (by kernel_rfl)) h0 bel lt0),rfl,bel.frame _,fun h=>by cases h⟩
theorem cutsSaid:Rows.FnCutsSaid:=
 OpenClaim.holds_of_wide 3 Tryz.f3 rfl rfl rfl rfl rfl rfl rfl ⟨rfl,rfl,rfl,rfl,rfl⟩ rfl rfl rfl rfl rfl (by kernel_rfl) Tryz.func3 (by kernel_rfl)
  (of_decide_eq_true (by kernel_rfl)) (by unfold Func.isWrapper;first|(rw [if_pos (by decide +kernel)];kernel_rfl)|(rw [if_neg (by decide +kernel)];exact ⟨rfl,rfl⟩))
  (fun os started H enc _=>cutsLifted os started H enc)
theorem cutsPlain (f : FuncId) (fn : Func) (hf : Tryz.pinned.checked.prog.funcNamed "loop.example/g00196/laws.FnCuts" = some f) (hfn : Tryz.pinned.checked.prog.funcs[f]? = some fn) :
  true=Tryz.pinned.checked.prog.looks []/\∀ (j:Nat) t,fn.params[j]? = some t->Tryz.pinned.checked.prog.wantsStandIn t=false:=by
 obtain rfl : f = 3 := Option.some.inj ((show Tryz.prog.funcNamed "loop.example/g00196/laws.FnCuts" = some 3 by kernel_rfl).symm.trans hf) |>.symm
 obtain rfl:fn=Tryz.f3:=(Option.some.inj (Tryz.func3.symm.trans hfn)).symm
 refine ⟨by kernel_rfl,fun j t ht=>?_⟩
 rw [Tryz.params3] at ht
 have hm:=Array.mem_of_getElem? ht
 simp at hm
 obtain rfl:=hm
 exact (show Tryz.prog.wantsStandIn 22=false by kernel_rfl)
theorem cuts_card:Rows.FnCutsCardSaid:=
 Claim7.holds_tied_plain_at .later [] _ _ _ _ cutsSaid (fun _ h=>by cases h) (by kernel_rfl) (fun _ h=>by cases h) fnCuts_row_tie rfl ⟨rfl,rfl⟩ (by kernel_rfl) rfl cutsPlain (by kernel_rfl)
