import Derived.Test.YtchhijiibjijhaaGreatDoorXf37
import Derived.Test.YtchhijiibjijhaaGreatDoorXf44
namespace Go.Proofs.YtchhijiibjijhaaGreatDoor
set_option maxRecDepth 100000
set_option maxHeartbeats 8000000
open Go.ChangeShapes Go.WideShapes Go.ChangeAt Go.RowKit Go.Deep
structure RdF (W:World) (x:SysIn) (Y:Sy) (x3:SysIn) (N1 T8 lo T10 B4 T11:Nat) (a1 a2 a3 a4 g1 g2 g3 g4:Value) (w:World):Prop where
 px:Px W x w
 o2:OwnZ w N1 T8 Y a1 a2 a3 a4
 b8:BoxC w T8 a1 a2 a3 a4
 s3:qdu w lo T10 x x3.v
 b10:BoxC w T10 (.slice x3.pa x3.pn x3.pc) (.slice x3.sa x3.sn x3.sc) (.slice x3.wa x3.wn x3.wc) (.slice x3.ha x3.hn x3.hc)
 o4:OwnZ w B4 T11 Y g1 g2 g3 g4
 b11:BoxC w T11 g1 g2 g3 g4
structure RdG (W:World) (x:SysIn) (Y Z:Sy) (N1 T8 B4 T11:Nat) (a1 a2 a3 a4 g1 g2 g3 g4:Value) (w:World):Prop where
 px:Px W x w
 o2:OwnZ w N1 T8 Y a1 a2 a3 a4
 b8:BoxC w T8 a1 a2 a3 a4
 o4:OwnZ w B4 T11 Z g1 g2 g3 g4
 b11:BoxC w T11 g1 g2 g3 g4
section
variable {W:World} {x:SysIn} {Y Z:Sy} {x3:SysIn} {N1 T8 lo T10 B4 T11:Nat} {a1 a2 a3 a4 g1 g2 g3 g4:Value} {w w':World}
theorem RdF.below (h:RdF W x Y x3 N1 T8 lo T10 B4 T11 a1 a2 a3 a4 g1 g2 g3 g4 w) (hb:Below w.heap.size w w'):RdF W x Y x3 N1 T8 lo T10 B4 T11 a1 a2 a3 a4 g1 g2 g3 g4 w':=
 ⟨h.px.below hb,h.o2.below hb,h.b8.below hb,h.s3.below hb (Nat.le_of_lt h.b10.ltF),h.b10.below hb,h.o4.below hb,h.b11.below hb⟩
theorem RdG.below (h:RdG W x Y Z N1 T8 B4 T11 a1 a2 a3 a4 g1 g2 g3 g4 w) (hb:Below w.heap.size w w'):RdG W x Y Z N1 T8 B4 T11 a1 a2 a3 a4 g1 g2 g3 g4 w':=
 ⟨h.px.below hb,h.o2.below hb,h.b8.below hb,h.o4.below hb,h.b11.below hb⟩
theorem RdF.mark (h:RdF W x Y x3 N1 T8 lo T10 B4 T11 a1 a2 a3 a4 g1 g2 g3 g4 w) (t:qac (fun b=>lo<=b/\b<T10) w w') (h1:W.heap.size<lo) (h2:T8<lo) (h3:T10<=B4) (h4:B4<=T11):RdG W x Y Y N1 T8 B4 T11 a1 a2 a3 a4 g1 g2 g3 g4 w':=
 ⟨h.px.touchF t fun b hb=>by omega,h.o2.touch t fun b hb=>by omega,h.b8.touch t fun hb=>by omega,h.o4.touch t fun b hb=>by omega,h.b11.touch t fun hb=>by omega⟩
theorem RdG.mid (h:RdG W x Y Z N1 T8 B4 T11 a1 a2 a3 a4 g1 g2 g3 g4 w) {P:Nat->Prop} (t:qac P w w') (hp:∀ b,P b->W.heap.size<b/\T8<b/\b<B4) (h4:B4<=T11):RdG W x Y Z N1 T8 B4 T11 a1 a2 a3 a4 g1 g2 g3 g4 w':=
 ⟨h.px.touchF t fun b hb=>(hp b hb).1,h.o2.touch t fun b hb=>by have:=hp b hb;omega,h.b8.touch t fun hb=>by have:=hp _ hb;omega,h.o4.touch t fun b hb=>by have:=hp b hb;omega,h.b11.touch t fun hb=>by have:=hp _ hb;omega⟩
theorem RdG.mark (h:RdG W x Y Z N1 T8 B4 T11 a1 a2 a3 a4 g1 g2 g3 g4 w) {Z':Sy} (t:qac (fun b=>B4<=b/\b<T11) w w') (o:OwnZ w' B4 T11 Z' g1 g2 g3 g4) (h1:W.heap.size<B4) (h2:T8<B4):RdG W x Y Z' N1 T8 B4 T11 a1 a2 a3 a4 g1 g2 g3 g4 w':=
 ⟨h.px.touchF t fun b hb=>by omega,h.o2.touch t fun b hb=>by omega,h.b8.touch t fun hb=>by omega,o,h.b11.touch t fun hb=>by omega⟩
end
theorem qyn (y:Sy) (h:Nat->Wo2) (n:Nat):(rdS y h n).Sm:=by
 rcases zK (rdB y h n) with e | e
 ·rw [qpd e]
  have hr:rwB y h n=true:=by
   rcases zK (rwB y h n) with h1 | h1
   ·exact h1
   ·rw [qh8 h1] at e
    cases e
  have ho:y.Ok:=by
   unfold rwB at hr
   rw [Bool.and_eq_true] at hr
   by_cases h2:y.Ok
   ·exact h2
   ·rw [Sy.okB_false h2] at hr
    cases hr.1
  exact (qm6 ho h n).sm
 ·rw [qjd e]
  exact ⟨⟨by simp,by simp,by simp,by simp⟩,fun i hi=>by simp at hi,fun i hi=>by simp at hi,fun i hi=>by simp at hi,fun i hi=>by simp at hi⟩
structure WoR (w:World) (NL n:Nat) (h:Nat->Wo2):Prop where
 co:WoAt w NL 0 n h
 room:qcs w NL n
 lt:NL<w.heap.size
theorem qcs.blkR {w w' : World} {b n : Nat} (h : qcs w b n) (hb : w'.heap[b]? = w.heap[b]?) : qcs w' b n := ⟨fun i hi => by
  obtain ⟨u,hu⟩:=h.1 i hi
  exact ⟨u,(zH hb).trans hu⟩,fun j=>(zI hb).trans (h.2 j)⟩
theorem WoR.below {w w':World} {NL n:Nat} {h:Nat->Wo2} (o:WoR w NL n h) (hb:Below w.heap.size w w'):WoR w' NL n h:=⟨o.co.below hb o.lt,o.room.blkR (hb.block NL o.lt),zL o.lt hb.size⟩
theorem qku (x:SysIn) (la:Option Addr) (n lc:Nat) (h:Nat->Wo2) (W:World) (hs:x.size+n<=1048576) (hA:x.Ok W) (hP:qjl W la n lc h) (hV:W.cell? ⟨0,0,none⟩=some (.iface 298 (.agg #[.pointer (some ⟨1,213,none⟩)]))):
  Calls Tryz.prog 3 #[sysV x.pa x.pn x.pc x.sa x.sn x.sc x.wa x.wn x.wc x.ha x.hn x.hc,.slice la n lc] W fun e w'=>e=.returned (.bool true)/\Below W.heap.size W w':=by
 have HS:Hid (x.size<=1048576):=by show x.size<=1048576;omega
 have HCL:Hid (n<=1048576):=by show n<=1048576;omega
 have hnn:(n:Int)<=1048576:=by omega
 have HP:Hid (qjl W la n lc h):=hP
 have hsz2:¬ (1048576 - (x.size:Int) - (n:Int)<0):=by omega
 have HZ2:Hid ((n:Int)<=1048576 - (x.size:Int)/\1048576 - (x.size:Int)<=1048576):=⟨by omega,by omega⟩
 have HA:Hid (x.Ok W):=hA
 have HV:Hid (W.cell? ⟨0,0,none⟩=some (.iface 298 (.agg #[.pointer (some ⟨1,213,none⟩)]))):=hV
 have HV0:Hid (0<W.heap.size):=zJ W _ hV
 have hsz:¬ (1048576 - (x.size:Int)<0):=by omega
 have X0:Hid (Px W x (W.alloc (.cells #[.slice x.pa x.pn x.pc,.slice x.sa x.sn x.sc,.slice x.wa x.wn x.wc,.slice x.ha x.hn x.hc] 27))):=⟨qat _ _,BoxC.new W _ _ _ _ _,by simp⟩
 have HSM:Hid (rdS x.y h n).Sm:=qyn _ _ _
 clear hs hA hV hP
 obtain ⟨Y,hY⟩:∃ Y,rdS x.y h n=Y:=⟨_,rfl⟩
 obtain ⟨C,hC⟩:∃ C,rdB x.y h n=C:=⟨_,rfl⟩
 rw [hY] at HSM
 have HYC:Hid (rdS x.y h n=Y/\rdB x.y h n=C):=⟨hY,hC⟩
 clear hY hC
 go_enter Tryz.func3,Tryz.ntmps3
 go_wp2_with fail
 generalize W.alloc (.cells #[.slice x.pa x.pn x.pc,.slice x.sa x.sn x.sc,.slice x.wa x.wn x.wc,.slice x.ha x.hn x.hc] 27)=wA at *
 refine (qik x wA (HA.out.row.below X0.out.be) HS.out).mono ?_
 rintro e w0 ⟨rfl,b0⟩
 have X1:Hid (Px W x w0):=X0.out.below b0
 clear b0 X0
 go_wp2_with fail
 refine (qnr la n lc _ w0 HZ2.out.1 HZ2.out.2).mono ?_
 rintro e w0b ⟨rfl,rfl⟩
 obtain ⟨-,⟨p0,p1,p2,p3⟩,lt⟩:=X1.out
 go_wp2_with fail
 clear p0 p1 p2 p3 lt
 refine (qfz x W w0b HS.out HA.out X1.out.be).mono ?_
 rintro e w1 ⟨v1,rfl,o1,b1⟩
 obtain ⟨x1,rfl,g1,y1,cp1⟩:=o1.g2
 have O1:Hid (SysG w1 x1/\x1.y=x.y/\∀ i,i<x1.hn->x1.hL i<=x1.hC i):=⟨g1,y1,cp1⟩
 have X2:Hid (Px W x w1):=X1.out.below b1
 clear b1 X1 o1 g1 y1 cp1
 go_wp2_with fail
 refine (HP.out w1 X2.out.be).mono ?_
 rintro e w1b ⟨rfl,oc,ltc,b1b,-⟩
 have X2b:Hid (Px W x w1b):=X2.out.below b1b
 have O1b:Hid (SysG w1b x1/\x1.y=x.y/\(∀ i,i<x1.hn->x1.hL i<=x1.hC i)/\WoL w1b (some ⟨w1.heap.size,0,none⟩) n h):=⟨O1.out.1.below b1b,O1.out.2.1,O1.out.2.2,.inr ⟨_,_,rfl,ltc,oc⟩⟩
 clear b1b oc ltc O1 X2
 generalize w1.heap.size=NA at *
 clear w1
 go_wp2_with fail
 refine (qnh x1 (some ⟨NA,0,none⟩) n n h w1b O1b.out.1 (SysIn.len_of HS.out O1b.out.2.1) O1b.out.2.2.1 O1b.out.2.2.2 HCL.out).mono ?_
 rintro e w2 ⟨v2,rfl,o2,b2⟩
 rw [O1b.out.2.1,HYC.out.1] at o2
 rw [O1b.out.2.1,HYC.out.2]
 obtain ⟨pa,pc,sa,sc,wa,wc,ha,hc,rfl,n2⟩:=OwnZ.of o2
 have ba:=qat w2 (oQ4 pa Y.pn pc sa Y.sn sc wa Y.wn wc ha Y.hn hc)
 have X3:Hid (Px W x (w2.alloc (oQ4 pa Y.pn pc sa Y.sn sc wa Y.wn wc ha Y.hn hc))/\OwnZ (w2.alloc (oQ4 pa Y.pn pc sa Y.sn sc wa Y.wn wc ha Y.hn hc)) w1b.heap.size w2.heap.size Y (.slice pa Y.pn pc) (.slice sa Y.sn sc) (.slice wa Y.wn wc) (.slice ha Y.hn hc)/\BoxC (w2.alloc (oQ4 pa Y.pn pc sa Y.sn sc wa Y.wn wc ha Y.hn hc)) w2.heap.size (.slice pa Y.pn pc) (.slice sa Y.sn sc) (.slice wa Y.wn wc) (.slice ha Y.hn hc)/\W.heap.size<w1b.heap.size/\w1b.heap.size<=w2.heap.size/\w2.heap.size<(w2.alloc (oQ4 pa Y.pn pc sa Y.sn sc wa Y.wn wc ha Y.hn hc)).heap.size):=⟨(X2b.out.below b2).below ba,n2.below ba,BoxC.new w2 _ _ _ _ _,X2b.out.lt,b2.size,by simp⟩
 go_upto_region 9 with fail
 clear b2 X2b o2 n2 O1b ba
 generalize hN1:w1b.heap.size=N1 at *
 generalize hT8:w2.heap.size=T8 at *
 clear hN1 hT8
 generalize w2.alloc (oQ4 pa Y.pn pc sa Y.sn sc wa Y.wn wc ha Y.hn hc)=w2a at *
 obtain ⟨-,⟨p0,p1,p2,p3⟩,lt⟩:=X3.out.1
 go_wp2_with fail
 clear p0 p1 p2 p3 lt
 refine (qfz x W w2a HS.out HA.out X3.out.1.be).mono ?_
 rintro e w3 ⟨v3,rfl,o3,b3⟩
 obtain ⟨x3,rfl,g3,y3,cp3,nn3⟩:=o3.g3
 have ba:=qat w3 (oQ4 x3.pa x3.pn x3.pc x3.sa x3.sn x3.sc x3.wa x3.wn x3.wc x3.ha x3.hn x3.hc)
 have F3:Hid (Px W x (w3.alloc (oQ4 x3.pa x3.pn x3.pc x3.sa x3.sn x3.sc x3.wa x3.wn x3.wc x3.ha x3.hn x3.hc))/\OwnZ (w3.alloc (oQ4 x3.pa x3.pn x3.pc x3.sa x3.sn x3.sc x3.wa x3.wn x3.wc x3.ha x3.hn x3.hc)) N1 T8 Y (.slice pa Y.pn pc) (.slice sa Y.sn sc) (.slice wa Y.wn wc) (.slice ha Y.hn hc)/\BoxC (w3.alloc (oQ4 x3.pa x3.pn x3.pc x3.sa x3.sn x3.sc x3.wa x3.wn x3.wc x3.ha x3.hn x3.hc)) T8 (.slice pa Y.pn pc) (.slice sa Y.sn sc) (.slice wa Y.wn wc) (.slice ha Y.hn hc)/\qdu (w3.alloc (oQ4 x3.pa x3.pn x3.pc x3.sa x3.sn x3.sc x3.wa x3.wn x3.wc x3.ha x3.hn x3.hc)) w2a.heap.size w3.heap.size x x3.v/\BoxC (w3.alloc (oQ4 x3.pa x3.pn x3.pc x3.sa x3.sn x3.sc x3.wa x3.wn x3.wc x3.ha x3.hn x3.hc)) w3.heap.size (.slice x3.pa x3.pn x3.pc) (.slice x3.sa x3.sn x3.sc) (.slice x3.wa x3.wn x3.wc) (.slice x3.ha x3.hn x3.hc)):=⟨(X3.out.1.below b3).below ba,(X3.out.2.1.below b3).below ba,(X3.out.2.2.1.below b3).below ba,o3.below ba (Nat.le_refl _),BoxC.new w3 _ _ _ _ _⟩
 have LT:Hid (W.heap.size<N1/\N1<=T8/\T8<w2a.heap.size/\w2a.heap.size<=w3.heap.size/\w3.heap.size<(w3.alloc (oQ4 x3.pa x3.pn x3.pc x3.sa x3.sn x3.sc x3.wa x3.wn x3.wc x3.ha x3.hn x3.hc)).heap.size):=⟨X3.out.2.2.2.1,X3.out.2.2.2.2.1,X3.out.2.2.2.2.2,b3.size,by simp⟩
 have Ga:Hid (SysG (w3.alloc (oQ4 x3.pa x3.pn x3.pc x3.sa x3.sn x3.sc x3.wa x3.wn x3.wc x3.ha x3.hn x3.hc)) x3/\x3.y=x.y/\∀ i,i<x3.hn->x3.hL i<=x3.hC i):=⟨g3.below ba,y3,cp3⟩
 go_upto_region 10 with fail
 clear b3 o3 g3 y3 cp3 nn3 ba X3
 generalize hlo:w2a.heap.size=lo at *
 generalize hT10:w3.heap.size=T10 at *
 clear hlo hT10
 generalize w3.alloc (oQ4 x3.pa x3.pn x3.pc x3.sa x3.sn x3.sc x3.wa x3.wn x3.wc x3.ha x3.hn x3.hc)=wB at *
 go_wp2_with fail
 refine (HP.out wB F3.out.1.be).mono ?_
 rintro e wL ⟨rfl,oL,ltL,bL,fL⟩
 have F3b:Hid (Px W x wL/\OwnZ wL N1 T8 Y (.slice pa Y.pn pc) (.slice sa Y.sn sc) (.slice wa Y.wn wc) (.slice ha Y.hn hc)/\BoxC wL T8 (.slice pa Y.pn pc) (.slice sa Y.sn sc) (.slice wa Y.wn wc) (.slice ha Y.hn hc)/\qdu wL lo T10 x x3.v/\BoxC wL T10 (.slice x3.pa x3.pn x3.pc) (.slice x3.sa x3.sn x3.sc) (.slice x3.wa x3.wn x3.wc) (.slice x3.ha x3.hn x3.hc)):=⟨F3.out.1.below bL,F3.out.2.1.below bL,F3.out.2.2.1.below bL,F3.out.2.2.2.1.below bL (Nat.le_of_lt LT.out.2.2.2.2),F3.out.2.2.2.2.below bL⟩
 have OL:Hid (WoAt wL wB.heap.size 0 n h/\qcs wL wB.heap.size n):=⟨oL,qcs.of_row oL fL⟩
 have LTb:Hid (W.heap.size<N1/\N1<=T8/\T8<lo/\lo<=T10/\T10<wB.heap.size/\wB.heap.size<wL.heap.size):=⟨LT.out.1,LT.out.2.1,LT.out.2.2.1,LT.out.2.2.2.1,LT.out.2.2.2.2,ltL⟩
 have Gb:Hid (SysG wL x3/\x3.y=x.y/\∀ i,i<x3.hn->x3.hL i<=x3.hC i):=⟨Ga.out.1.below bL,Ga.out.2.1,Ga.out.2.2⟩
 clear bL oL ltL fL F3 LT Ga
 generalize hNL:wB.heap.size=NL at *
 clear hNL wB
 obtain ⟨p0,p1,p2,p3⟩:=F3b.out.2.2.2.2
 go_wp2_with fail
 clear p0 p1 p2 p3
 refine (qgw x3 (some ⟨NL,0,none⟩) n n h wL Gb.out.1 (SysIn.len_of HS.out Gb.out.2.1) (.inr ⟨_,_,rfl,LTb.out.2.2.2.2.2,OL.out.1⟩) HCL.out ((F3b.out.1.be.cell (p:=⟨0,0,none⟩) HV0.out).trans HV.out)).mono ?_
 rintro e w4 ⟨v4,rfl,o4,b4⟩
 rw [Gb.out.2.1,HYC.out.1] at o4
 rw [Gb.out.2.1,HYC.out.2]
 obtain ⟨qa,qc,ra,rc,ta,tc,ua,uc,rfl,n4⟩:=OwnZ.of o4
 have ba:=qat w4 (oQ4 qa Y.pn qc ra Y.sn rc ta Y.wn tc ua Y.hn uc)
 have q4:=b4.trans (ba.mono b4.size)
 have F4:Hid (RdF W x Y x3 N1 T8 lo T10 wL.heap.size w4.heap.size (.slice pa Y.pn pc) (.slice sa Y.sn sc) (.slice wa Y.wn wc) (.slice ha Y.hn hc) (.slice qa Y.pn qc) (.slice ra Y.sn rc) (.slice ta Y.wn tc) (.slice ua Y.hn uc) (w4.alloc (oQ4 qa Y.pn qc ra Y.sn rc ta Y.wn tc ua Y.hn uc))):=⟨F3b.out.1.below q4,F3b.out.2.1.below q4,F3b.out.2.2.1.below q4,F3b.out.2.2.2.1.below q4 (Nat.le_of_lt (Nat.lt_trans LTb.out.2.2.2.2.1 LTb.out.2.2.2.2.2)),F3b.out.2.2.2.2.below q4,n4.below ba,BoxC.new w4 _ _ _ _ _⟩
 have LT2:Hid ((W.heap.size<N1/\N1<=T8/\T8<lo/\lo<=T10/\T10<NL/\NL<wL.heap.size)/\wL.heap.size<=w4.heap.size):=⟨LTb.out,b4.size⟩
 have OL4:Hid (WoR (w4.alloc (oQ4 qa Y.pn qc ra Y.sn rc ta Y.wn tc ua Y.hn uc)) NL n h):=(WoR.mk OL.out.1 OL.out.2 LTb.out.2.2.2.2.2).below q4
 go_upto_region 12 with fail
 clear b4 o4 n4 ba q4 F3b LTb Gb OL
 generalize hB4:wL.heap.size=B4 at *
 generalize hT11:w4.heap.size=T11 at *
 clear hB4 hT11
 generalize w4.alloc (oQ4 qa Y.pn qc ra Y.sn rc ta Y.wn tc ua Y.hn uc)=wC at *
 obtain ⟨p0,p1,p2,p3⟩:=F4.out.b8
 obtain ⟨q0,q1,q2,q3⟩:=F4.out.b11
 go_wp2_with fail
 clear p0 p1 p2 p3 q0 q1 q2 q3
 refine (qor Y B4 N1 _ _ wC HSM.out.len F4.out.o4.sys F4.out.o2.sys).mono ?_
 rintro e w5 ⟨rfl,b5⟩
 have OL5:Hid (WoR w5 NL n h):=OL4.out.below b5
 have F5:Hid (RdF W x Y x3 N1 T8 lo T10 B4 T11 (.slice pa Y.pn pc) (.slice sa Y.sn sc) (.slice wa Y.wn wc) (.slice ha Y.hn hc) (.slice qa Y.pn qc) (.slice ra Y.sn rc) (.slice ta Y.wn tc) (.slice ua Y.hn uc) w5):=F4.out.below b5
 clear b5 F4 OL4
 obtain ⟨-,⟨p0,p1,p2,p3⟩,lt⟩:=F5.out.px
 obtain ⟨q0,q1,q2,q3⟩:=F5.out.b10
 have lq:=F5.out.b10.ltF
 go_wp2_with fail
 first|(go_region_with (first|(go_at_call 12;refine (qfz x W _ HS.out HA.out (by exact F5.out.px.be.drew)).mono ?_;rintro e w6 ⟨v6,rfl,o6,b6⟩;have q6:Below w5.heap.size w5 w6:=(Below.refl w5.heap.size w5).drew.trans b6;have T6:Hid (∃ l,qdu w6 l w6.heap.size x v6):=⟨_,o6⟩;obtain ⟨r0,r1,r2,r3⟩:=F5.out.b10.below q6;have Q6:Hid (Below w5.heap.size w5 w6):=q6;clear o6 b6 q6)|(go_at_call 15;refine (qrj x lo T10 T6.out.choose _ _ v6 w6 HS.out (F5.out.s3.below Q6.out (Nat.le_of_lt F5.out.b10.ltF)) T6.out.choose_spec).mono ?_;rintro e w7 ⟨rfl,b7⟩;have Q7:Hid (Below w5.heap.size w5 w7):=Q6.out.trans (b7.mono Q6.out.size);clear b7))) | fail
 all_goals
  clear r0 r1 r2 r3 p0 p1 p2 p3 lt q0 q1 q2 q3 lq T6 Q6
  have OL7:Hid (WoR w7 NL n h):=OL5.out.below Q7.out
  have F7:Hid (RdF W x Y x3 N1 T8 lo T10 B4 T11 (.slice pa Y.pn pc) (.slice sa Y.sn sc) (.slice wa Y.wn wc) (.slice ha Y.hn hc) (.slice qa Y.pn qc) (.slice ra Y.sn rc) (.slice ta Y.wn tc) (.slice ua Y.hn uc) w7):=F5.out.below Q7.out
  clear Q7 F5 OL5
  go_wp2_with fail
  refine (HP.out w7 F7.out.px.be).mono ?_
  rintro e wD ⟨rfl,oD,lD,bD,-⟩
  have SD:Hid (WoR wD NL n h/\WoAt wD w7.heap.size 0 n h/\w7.heap.size<wD.heap.size):=⟨OL7.out.below bD,oD,lD⟩
  go_wp2_with fail
  refine (qos _ _ n _ _ h wD HCL.out SD.out.1.lt SD.out.2.2 SD.out.1.co SD.out.2.1).mono ?_
  rintro e wE ⟨rfl,bE⟩
  have bDE:Below w7.heap.size w7 wE:=bD.trans (bE.mono bD.size)
  have FE:Hid (RdF W x Y x3 N1 T8 lo T10 B4 T11 (.slice pa Y.pn pc) (.slice sa Y.sn sc) (.slice wa Y.wn wc) (.slice ha Y.hn hc) (.slice qa Y.pn qc) (.slice ra Y.sn rc) (.slice ta Y.wn tc) (.slice ua Y.hn uc) wE):=F7.out.below bDE
  have OLE:Hid (WoR wE NL n h):=OL7.out.below bDE
  clear bD bE bDE oD lD SD F7 OL7
  obtain ⟨q0,q1,q2,q3⟩:=FE.out.b10
  go_wp2_with fail
  clear q0 q1 q2 q3
  refine (qr3 x _ _ _ wE HS.out FE.out.s3).mono ?_
  rintro e w8a ⟨⟨z,rfl,hz,hz9⟩,t8⟩
  have OL8:Hid (qcs w8a NL n):=OLE.out.room.blkR (t8.block NL OLE.out.lt fun hb=>by have:=LT2.out;omega)
  have F8a:Hid (RdG W x Y Y N1 T8 B4 T11 (.slice pa Y.pn pc) (.slice sa Y.sn sc) (.slice wa Y.wn wc) (.slice ha Y.hn hc) (.slice qa Y.pn qc) (.slice ra Y.sn rc) (.slice ta Y.wn tc) (.slice ua Y.hn uc) w8a):=FE.out.mark t8 (by have:=LT2.out;omega) (by have:=LT2.out;omega) (by have:=LT2.out;omega) LT2.out.2
  clear t8 FE OLE
  go_wp2_with fail
  refine (qmv NL n n z w8a HCL.out (by omega) (by omega) OL8.out).mono ?_
  rintro e w8 ⟨rfl,g8⟩
  have hzc:¬ (z+2*(n:Int)<0):=by have:=HCL.out;omega
  have F8 : Hid (RdG W x Y Y N1 T8 B4 T11 (.slice pa Y.pn pc) (.slice sa Y.sn sc) (.slice wa Y.wn wc) (.slice ha Y.hn hc) (.slice qa Y.pn qc) (.slice ra Y.sn rc) (.slice ta Y.wn tc) (.slice ua Y.hn uc) w8) := F8a.out.mid (qac.of_grown (P := fun b => b = NL) g8 fun b e => by simpa using e.symm) (fun b e => by
   have e2:b=NL:=e
   have:=LT2.out
   omega) LT2.out.2
  clear g8 F8a OL8
  obtain ⟨p0,p1,p2,p3⟩:=F8.out.b8
  obtain ⟨q0,q1,q2,q3⟩:=F8.out.b11
  go_wp2_with fail
  clear p0 p1 p2 p3 q0 q1 q2 q3
  refine (qor Y B4 N1 _ _ w8 HSM.out.len F8.out.o4.sys F8.out.o2.sys).mono ?_
  rintro e w9 ⟨rfl,b9⟩
  have F9:Hid (RdG W x Y Y N1 T8 B4 T11 (.slice pa Y.pn pc) (.slice sa Y.sn sc) (.slice wa Y.wn wc) (.slice ha Y.hn hc) (.slice qa Y.pn qc) (.slice ra Y.sn rc) (.slice ta Y.wn tc) (.slice ua Y.hn uc) w9):=F8.out.below b9
  clear b9 F8
  obtain ⟨q0,q1,q2,q3⟩:=F9.out.b11
  go_wp2_with fail
  clear q0 q1 q2 q3
  refine (qtu Y B4 T11 _ _ _ _ w9 HSM.out.sums (by have:=F9.out.b11.ltF;have:=LT2.out;omega) F9.out.o4).mono ?_
  rintro e w10 ⟨rfl,o10,t10⟩
  have F10:Hid (RdG W x Y (mkY Y 1) N1 T8 B4 T11 (.slice pa Y.pn pc) (.slice sa Y.sn sc) (.slice wa Y.wn wc) (.slice ha Y.hn hc) (.slice qa Y.pn qc) (.slice ra Y.sn rc) (.slice ta Y.wn tc) (.slice ua Y.hn uc) w10):=F9.out.mark t10 o10 (by have:=LT2.out;omega) (by have:=LT2.out;omega)
  have HZ:Hid (¬ mkZ5 Y 1<0):=by
   have:=(qtv HSM.out.sums).2.2.2
   show ¬ mkZ5 Y 1<0
   omega
  clear t10 o10 F9
  obtain ⟨q0,q1,q2,q3⟩:=F10.out.b11
  go_wp2_with fail
  clear q0 q1 q2 q3
  refine (qmk Y B4 _ w10 HSM.out.sums F10.out.o4.sys).mono ?_
  rintro e w11 ⟨rfl,b11⟩
  have F11:Hid (RdG W x Y (mkY Y 1) N1 T8 B4 T11 (.slice pa Y.pn pc) (.slice sa Y.sn sc) (.slice wa Y.wn wc) (.slice ha Y.hn hc) (.slice qa Y.pn qc) (.slice ra Y.sn rc) (.slice ta Y.wn tc) (.slice ua Y.hn uc) w11):=F10.out.below b11
  clear b11 F10
  obtain ⟨-,⟨p0,p1,p2,p3⟩,lt⟩:=F11.out.px
  have hz5:=HZ.out
  go_wp2_with fail
  clear p0 p1 p2 p3 lt hz5
  refine (qfz x W w11 HS.out HA.out F11.out.px.be).mono ?_
  rintro e w12 ⟨v12,rfl,o12,b12⟩
  obtain ⟨x12,rfl,g12,y12,cp12,-⟩:=o12.g3
  have S12:Hid (SysG w12 x12/\x12.y=x.y/\∀ i,i<x12.hn->x12.hL i<=x12.hC i):=⟨g12,y12,cp12⟩
  have F12:Hid (RdG W x Y (mkY Y 1) N1 T8 B4 T11 (.slice pa Y.pn pc) (.slice sa Y.sn sc) (.slice wa Y.wn wc) (.slice ha Y.hn hc) (.slice qa Y.pn qc) (.slice ra Y.sn rc) (.slice ta Y.wn tc) (.slice ua Y.hn uc) w12):=F11.out.below b12
  clear b12 F11 o12 g12 y12 cp12
  go_wp2_with fail
  refine (HP.out w12 F12.out.px.be).mono ?_
  rintro e wF ⟨rfl,oF,lF,bF,-⟩
  have SF:Hid (SysG wF x12/\x12.y=x.y/\(∀ i,i<x12.hn->x12.hL i<=x12.hC i)/\WoL wF (some ⟨w12.heap.size,0,none⟩) n h):=⟨S12.out.1.below bF,S12.out.2.1,S12.out.2.2,.inr ⟨_,_,rfl,lF,oF⟩⟩
  have FF:Hid (RdG W x Y (mkY Y 1) N1 T8 B4 T11 (.slice pa Y.pn pc) (.slice sa Y.sn sc) (.slice wa Y.wn wc) (.slice ha Y.hn hc) (.slice qa Y.pn qc) (.slice ra Y.sn rc) (.slice ta Y.wn tc) (.slice ua Y.hn uc) wF):=F12.out.below bF
  clear bF oF lF S12 F12
  generalize w12.heap.size=N12a at *
  clear w12
  go_wp2_with fail
  refine (qgw x12 (some ⟨N12a,0,none⟩) n n h wF SF.out.1 (SysIn.len_of HS.out SF.out.2.1) SF.out.2.2.2 HCL.out ((FF.out.px.be.cell (p:=⟨0,0,none⟩) HV0.out).trans HV.out)).mono ?_
  rintro e w13 ⟨v13,rfl,o13,b13⟩
  rw [SF.out.2.1,HYC.out.1] at o13
  rw [SF.out.2.1,HYC.out.2]
  obtain ⟨ka,kc,la,lc,ma,mc,na,nc,rfl,n13⟩:=OwnZ.of o13
  have ba:=qat w13 (oQ4 ka Y.pn kc la Y.sn lc ma Y.wn mc na Y.hn nc)
  have q13:=b13.trans (ba.mono b13.size)
  have F13:Hid (RdG W x Y (mkY Y 1) N1 T8 B4 T11 (.slice pa Y.pn pc) (.slice sa Y.sn sc) (.slice wa Y.wn wc) (.slice ha Y.hn hc) (.slice qa Y.pn qc) (.slice ra Y.sn rc) (.slice ta Y.wn tc) (.slice ua Y.hn uc) (w13.alloc (oQ4 ka Y.pn kc la Y.sn lc ma Y.wn mc na Y.hn nc))/\OwnZ (w13.alloc (oQ4 ka Y.pn kc la Y.sn lc ma Y.wn mc na Y.hn nc)) wF.heap.size w13.heap.size Y (.slice ka Y.pn kc) (.slice la Y.sn lc) (.slice ma Y.wn mc) (.slice na Y.hn nc)/\BoxC (w13.alloc (oQ4 ka Y.pn kc la Y.sn lc ma Y.wn mc na Y.hn nc)) w13.heap.size (.slice ka Y.pn kc) (.slice la Y.sn lc) (.slice ma Y.wn mc) (.slice na Y.hn nc)):=⟨FF.out.below q13,n13.below ba,BoxC.new w13 _ _ _ _ _⟩
  go_upto_region 32 with fail
  clear b13 o13 n13 ba q13 FF SF
  generalize hN12:wF.heap.size=N12 at *
  generalize hT16:w13.heap.size=T16 at *
  clear hN12 hT16
  generalize w13.alloc (oQ4 ka Y.pn kc la Y.sn lc ma Y.wn mc na Y.hn nc)=wD at *
  obtain ⟨p0,p1,p2,p3⟩:=F13.out.1.b8
  obtain ⟨q0,q1,q2,q3⟩:=F13.out.2.2
  go_wp2_with fail
  clear p0 p1 p2 p3 q0 q1 q2 q3
  refine (qor Y N12 N1 _ _ wD HSM.out.len F13.out.2.1.sys F13.out.1.o2.sys).mono ?_
  rintro e w14 ⟨rfl,b14⟩
  have F14:Hid (RdG W x Y (mkY Y 1) N1 T8 B4 T11 (.slice pa Y.pn pc) (.slice sa Y.sn sc) (.slice wa Y.wn wc) (.slice ha Y.hn hc) (.slice qa Y.pn qc) (.slice ra Y.sn rc) (.slice ta Y.wn tc) (.slice ua Y.hn uc) w14):=F13.out.1.below b14
  clear b14 F13
  obtain ⟨q0,q1,q2,q3⟩:=F14.out.b11
  go_wp2_with fail
  clear q0 q1 q2 q3
  refine (qmk Y B4 _ w14 HSM.out.sums F14.out.o4.sys).mono ?_
  rintro e w15 ⟨rfl,b15⟩
  have F15:Hid (RdG W x Y (mkY Y 1) N1 T8 B4 T11 (.slice pa Y.pn pc) (.slice sa Y.sn sc) (.slice wa Y.wn wc) (.slice ha Y.hn hc) (.slice qa Y.pn qc) (.slice ra Y.sn rc) (.slice ta Y.wn tc) (.slice ua Y.hn uc) w15):=F14.out.below b15
  clear b15 F14
  have hz5:=HZ.out
  go_wp2
  go_ret
  exact ⟨rfl,F15.out.px.be⟩
theorem qkt (x:SysIn) (la:Option Addr) (n lc:Nat) (W:World) (hr:x.Row W) (hm:x.Max) (hs:1048576<x.size):
  Calls Tryz.prog 3 #[sysV x.pa x.pn x.pc x.sa x.sn x.sc x.wa x.wn x.wc x.ha x.hn x.hc,.slice la n lc] W fun e w'=>e=.returned (.bool true)/\Below W.heap.size W w':=by
 have HR:Hid (x.Row W):=hr
 have HM:Hid x.Max:=hm
 have HS:Hid (1048576<x.size):=hs
 clear hr hm hs
 go_enter Tryz.func3,Tryz.ntmps3
 go_wp2_with fail
 refine (qps x _ (HR.out.below (qat _ _)) HM.out HS.out).mono ?_
 rintro e w0 ⟨rfl,b0⟩
 have B0:Hid (Below W.heap.size W w0):=(qat _ _).trans (b0.mono (by simp))
 clear b0
 go_wp2
 go_ret
 exact ⟨rfl,B0.out⟩
theorem qm7 (x:SysIn) (la:Option Addr) (n lc:Nat) (W:World) (hs:x.size<=1048576) (hA:x.Ok W) (hn:1048576<x.size+n) (hm:n<=maxLen):
  Calls Tryz.prog 3 #[sysV x.pa x.pn x.pc x.sa x.sn x.sc x.wa x.wn x.wc x.ha x.hn x.hc,.slice la n lc] W fun e w'=>e=.returned (.bool true)/\Below W.heap.size W w':=by
 have HS:Hid (x.size<=1048576/\1048576 - (x.size:Int)<(n:Int)/\0<=1048576 - (x.size:Int)/\1048576 - (x.size:Int)<=1048576/\n<=maxLen):=⟨hs,by omega,by omega,by omega,hm⟩
 have HA:Hid (x.Ok W):=hA
 have hsz:¬ (1048576 - (x.size:Int)<0):=by omega
 clear hs hA hn hm
 go_enter Tryz.func3,Tryz.ntmps3
 go_wp2_with fail
 refine (qik x _ (HA.out.row.below (qat _ _)) HS.out.1).mono ?_
 rintro e w0 ⟨rfl,b0⟩
 have B0:Hid (Below W.heap.size W w0):=(qat _ _).trans (b0.mono (by simp))
 clear b0
 go_wp2_with fail
 refine (qnq la n lc _ w0 HS.out.2.1 HS.out.2.2.1 HS.out.2.2.2.1 HS.out.2.2.2.2).mono ?_
 rintro e w1 ⟨rfl,rfl⟩
 go_wp2
 go_ret
 exact ⟨rfl,B0.out⟩
