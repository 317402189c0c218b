/- Proved: called with whatever system and two numbers, the program's Back answers as the model's Back, field by field, writes into no argument, and its answer is its own. One condition, tied to the program's text: errors.errorType holds what its text lays. -/
import Derived.Test.YtchhijiibjijhaaGreatDoorYf43
import Derived.Test.YtchhijiibjijhaaGreatDoorYf44
import Derived.Test.YtchhijiibjijhaaGreatDoorCards
import Derived.SevenTiedAt
namespace Go.Proofs.YtchhijiibjijhaaGreatDoor
set_option maxRecDepth 100000
set_option maxHeartbeats 8000000
open Go.ChangeShapes Go.WideShapes Go.ChangeAt Go.RowKit Go.Deep
theorem qkl (x:SysIn) (z1 z2:Int) (W:World) (hs:x.size<=1048576) (hA:x.Ok W) (hV:W.cell? ⟨0,0,none⟩=some (.iface 298 (.agg #[.pointer (some ⟨1,213,none⟩)]))):
  Calls Tryz.prog 5 #[sysV x.pa x.pn x.pc x.sa x.sn x.sc x.wa x.wn x.wc x.ha x.hn x.hc,.int .i64 z1,.int .i64 z2] W fun e w'=>e=.returned (.bool true)/\Below W.heap.size W w':=by
 have HS:Hid (x.size<=1048576):=hs
 have HA:Hid (x.Ok W):=hA
 have HV:Hid (W.cell? ⟨0,0,none⟩=some (.iface 298 (.agg #[.pointer (some ⟨1,213,none⟩)]))):=hV
 have HV0:Hid (0<W.heap.size):=zJ W _ hV
 have hsz:¬ (1048576 - (x.size:Int)<0):=by omega
 have X0:Hid (Px W x (W.alloc (.cells #[.slice x.pa x.pn x.pc,.slice x.sa x.sn x.sc,.slice x.wa x.wn x.wc,.slice x.ha x.hn x.hc] 27))):=⟨qad _ _,BoxC.new W _ _ _ _ _,by simp⟩
 have HSM:Hid (bkY x.y z1 z2).Sm:=qw7 _ _ _
 clear hs hA hV
 obtain ⟨Y,hY⟩:∃ Y,bkY x.y z1 z2=Y:=⟨_,rfl⟩
 obtain ⟨C,hC⟩:∃ C,bkC x.y z1 z2=C:=⟨_,rfl⟩
 rw [hY] at HSM
 have HYC:Hid (bkY x.y z1 z2=Y/\bkC x.y z1 z2=C):=⟨hY,hC⟩
 clear hY hC
 go_enter Tryz.func5,Tryz.ntmps5
 go_wp2_with fail
 generalize W.alloc (.cells #[.slice x.pa x.pn x.pc,.slice x.sa x.sn x.sc,.slice x.wa x.wn x.wc,.slice x.ha x.hn x.hc] 27)=wA at *
 refine (qd1 x wA (HA.out.row.below X0.out.be) HS.out).mono ?_
 rintro e w0 ⟨rfl,b0⟩
 have X1:Hid (Px W x w0):=X0.out.below b0
 clear b0 X0
 obtain ⟨-,⟨p0,p1,p2,p3⟩,lt⟩:=X1.out
 go_wp2_with fail
 clear p0 p1 p2 p3 lt
 refine (qbd x W w0 HS.out HA.out X1.out.be).mono ?_
 rintro e w1 ⟨v1,rfl,o1,b1⟩
 obtain ⟨x1,rfl,g1,y1,cp1⟩:=o1.g2
 have O1:Hid (SysG w1 x1/\x1.y=x.y/\∀ i,i<x1.hn->x1.hL i<=x1.hC i):=⟨g1,y1,cp1⟩
 have X2:Hid (Px W x w1):=X1.out.below b1
 clear b1 X1 o1 g1 y1 cp1
 go_wp2_with fail
 refine (qep x1 z1 z2 w1 O1.out.1 (SysIn.len_of HS.out O1.out.2.1) O1.out.2.2).mono ?_
 rintro e w2 ⟨v2,rfl,o2,b2⟩
 rw [O1.out.2.1,HYC.out.1] at o2
 rw [O1.out.2.1,HYC.out.2]
 obtain ⟨pa,pc,sa,sc,wa,wc,ha,hc,rfl,n2⟩:=OwnZ.of o2
 have ba:=qad w2 (oQ4 pa Y.pn pc sa Y.sn sc wa Y.wn wc ha Y.hn hc)
 have X3:Hid (Px W x (w2.alloc (oQ4 pa Y.pn pc sa Y.sn sc wa Y.wn wc ha Y.hn hc))/\OwnZ (w2.alloc (oQ4 pa Y.pn pc sa Y.sn sc wa Y.wn wc ha Y.hn hc)) w1.heap.size w2.heap.size Y (.slice pa Y.pn pc) (.slice sa Y.sn sc) (.slice wa Y.wn wc) (.slice ha Y.hn hc)/\BoxC (w2.alloc (oQ4 pa Y.pn pc sa Y.sn sc wa Y.wn wc ha Y.hn hc)) w2.heap.size (.slice pa Y.pn pc) (.slice sa Y.sn sc) (.slice wa Y.wn wc) (.slice ha Y.hn hc)/\W.heap.size<w1.heap.size/\w1.heap.size<=w2.heap.size/\w2.heap.size<(w2.alloc (oQ4 pa Y.pn pc sa Y.sn sc wa Y.wn wc ha Y.hn hc)).heap.size):=⟨(X2.out.below b2).below ba,n2.below ba,BoxC.new w2 _ _ _ _ _,X2.out.lt,b2.size,by simp⟩
 go_upto_region 6 with fail
 clear b2 X2 o2 n2 O1 ba
 generalize hN1:w1.heap.size=N1 at *
 generalize hT8:w2.heap.size=T8 at *
 clear hN1 hT8
 generalize w2.alloc (oQ4 pa Y.pn pc sa Y.sn sc wa Y.wn wc ha Y.hn hc)=w2a at *
 obtain ⟨-,⟨p0,p1,p2,p3⟩,lt⟩:=X3.out.1
 go_wp2_with fail
 clear p0 p1 p2 p3 lt
 refine (qbd x W w2a HS.out HA.out X3.out.1.be).mono ?_
 rintro e w3 ⟨v3,rfl,o3,b3⟩
 obtain ⟨x3,rfl,g3,y3,cp3,nn3⟩:=o3.g3
 have ba:=qad w3 (oQ4 x3.pa x3.pn x3.pc x3.sa x3.sn x3.sc x3.wa x3.wn x3.wc x3.ha x3.hn x3.hc)
 have F3:Hid (Px W x (w3.alloc (oQ4 x3.pa x3.pn x3.pc x3.sa x3.sn x3.sc x3.wa x3.wn x3.wc x3.ha x3.hn x3.hc))/\OwnZ (w3.alloc (oQ4 x3.pa x3.pn x3.pc x3.sa x3.sn x3.sc x3.wa x3.wn x3.wc x3.ha x3.hn x3.hc)) N1 T8 Y (.slice pa Y.pn pc) (.slice sa Y.sn sc) (.slice wa Y.wn wc) (.slice ha Y.hn hc)/\BoxC (w3.alloc (oQ4 x3.pa x3.pn x3.pc x3.sa x3.sn x3.sc x3.wa x3.wn x3.wc x3.ha x3.hn x3.hc)) T8 (.slice pa Y.pn pc) (.slice sa Y.sn sc) (.slice wa Y.wn wc) (.slice ha Y.hn hc)/\qch (w3.alloc (oQ4 x3.pa x3.pn x3.pc x3.sa x3.sn x3.sc x3.wa x3.wn x3.wc x3.ha x3.hn x3.hc)) w2a.heap.size w3.heap.size x x3.v/\BoxC (w3.alloc (oQ4 x3.pa x3.pn x3.pc x3.sa x3.sn x3.sc x3.wa x3.wn x3.wc x3.ha x3.hn x3.hc)) w3.heap.size (.slice x3.pa x3.pn x3.pc) (.slice x3.sa x3.sn x3.sc) (.slice x3.wa x3.wn x3.wc) (.slice x3.ha x3.hn x3.hc)):=⟨(X3.out.1.below b3).below ba,(X3.out.2.1.below b3).below ba,(X3.out.2.2.1.below b3).below ba,o3.below ba (Nat.le_refl _),BoxC.new w3 _ _ _ _ _⟩
 have LT:Hid (W.heap.size<N1/\N1<=T8/\T8<w2a.heap.size/\w2a.heap.size<=w3.heap.size/\w3.heap.size<(w3.alloc (oQ4 x3.pa x3.pn x3.pc x3.sa x3.sn x3.sc x3.wa x3.wn x3.wc x3.ha x3.hn x3.hc)).heap.size):=⟨X3.out.2.2.2.1,X3.out.2.2.2.2.1,X3.out.2.2.2.2.2,b3.size,by simp⟩
 have Ga:Hid (SysG (w3.alloc (oQ4 x3.pa x3.pn x3.pc x3.sa x3.sn x3.sc x3.wa x3.wn x3.wc x3.ha x3.hn x3.hc)) x3/\x3.y=x.y/\x3.Nn true/\∀ i,i<x3.hn->x3.hL i<=x3.hC i):=⟨g3.below ba,y3,nn3,cp3⟩
 go_upto_region 7 with fail
 clear b3 o3 g3 y3 cp3 nn3 ba X3
 generalize hlo:w2a.heap.size=lo at *
 generalize hT10:w3.heap.size=T10 at *
 clear hlo hT10
 generalize w3.alloc (oQ4 x3.pa x3.pn x3.pc x3.sa x3.sn x3.sc x3.wa x3.wn x3.wc x3.ha x3.hn x3.hc)=wB at *
 obtain ⟨p0,p1,p2,p3⟩:=F3.out.2.2.2.2
 go_wp2_with fail
 clear p0 p1 p2 p3
 refine (qdc x3 z1 z2 wB Ga.out.1 (SysIn.len_of HS.out Ga.out.2.1) Ga.out.2.2.2 Ga.out.2.2.1 ((F3.out.1.be.cell (p:=⟨0,0,none⟩) HV0.out).trans HV.out)).mono ?_
 rintro e w4 ⟨v4,rfl,o4,b4⟩
 rw [Ga.out.2.1,HYC.out.1] at o4
 rw [Ga.out.2.1,HYC.out.2]
 obtain ⟨qa,qc,ra,rc,ta,tc,ua,uc,rfl,n4⟩:=Own0.of o4
 have ba:=qad w4 (oQ4 qa Y.pn qc ra Y.sn rc ta Y.wn tc ua Y.hn uc)
 have q4:=b4.trans (ba.mono b4.size)
 have F4:Hid (AtF W x Y x3 N1 T8 lo T10 wB.heap.size w4.heap.size (.slice pa Y.pn pc) (.slice sa Y.sn sc) (.slice wa Y.wn wc) (.slice ha Y.hn hc) (.slice qa Y.pn qc) (.slice ra Y.sn rc) (.slice ta Y.wn tc) (.slice ua Y.hn uc) (w4.alloc (oQ4 qa Y.pn qc ra Y.sn rc ta Y.wn tc ua Y.hn uc))):=⟨F3.out.1.below q4,F3.out.2.1.below q4,F3.out.2.2.1.below q4,F3.out.2.2.2.1.below q4 (Nat.le_of_lt LT.out.2.2.2.2),F3.out.2.2.2.2.below q4,n4.below ba,BoxC.new w4 _ _ _ _ _⟩
 have LT2:Hid ((W.heap.size<N1/\N1<=T8/\T8<lo/\lo<=T10/\T10<wB.heap.size)/\wB.heap.size<=w4.heap.size):=⟨LT.out,b4.size⟩
 go_upto_region 8 with fail
 clear b4 o4 n4 ba q4 F3 LT Ga
 generalize hB4:wB.heap.size=B4 at *
 generalize hT11:w4.heap.size=T11 at *
 clear hB4 hT11
 generalize w4.alloc (oQ4 qa Y.pn qc ra Y.sn rc ta Y.wn tc ua Y.hn uc)=wC at *
 obtain ⟨p0,p1,p2,p3⟩:=F4.out.b8
 obtain ⟨q0,q1,q2,q3⟩:=F4.out.b11
 go_wp2_with fail
 clear p0 p1 p2 p3 q0 q1 q2 q3
 refine (qci Y B4 N1 _ _ wC HSM.out.len F4.out.o4.sys F4.out.o2.sys).mono ?_
 rintro e w5 ⟨rfl,b5⟩
 have F5:Hid (AtF W x Y x3 N1 T8 lo T10 B4 T11 (.slice pa Y.pn pc) (.slice sa Y.sn sc) (.slice wa Y.wn wc) (.slice ha Y.hn hc) (.slice qa Y.pn qc) (.slice ra Y.sn rc) (.slice ta Y.wn tc) (.slice ua Y.hn uc) w5):=F4.out.below b5
 clear b5 F4
 obtain ⟨-,⟨p0,p1,p2,p3⟩,lt⟩:=F5.out.px
 obtain ⟨q0,q1,q2,q3⟩:=F5.out.b10
 have lq:=F5.out.b10.ltF
 go_wp2_with fail
 first|(go_region_with (first|(go_at_call 12;refine (qbd x W _ HS.out HA.out (by exact F5.out.px.be.drew)).mono ?_;rintro e w6 ⟨v6,rfl,o6,b6⟩;have q6:Below w5.heap.size w5 w6:=(Below.refl w5.heap.size w5).drew.trans b6;have T6:Hid (∃ l,qch w6 l w6.heap.size x v6):=⟨_,o6⟩;obtain ⟨r0,r1,r2,r3⟩:=F5.out.b10.below q6;have Q6:Hid (Below w5.heap.size w5 w6):=q6;clear o6 b6 q6)|(go_at_call 15;refine (qex x lo T10 T6.out.choose _ _ v6 w6 HS.out (F5.out.s3.below Q6.out (Nat.le_of_lt F5.out.b10.ltF)) T6.out.choose_spec).mono ?_;rintro e w7 ⟨rfl,b7⟩;have Q7:Hid (Below w5.heap.size w5 w7):=Q6.out.trans (b7.mono Q6.out.size);clear b7))) | fail
 all_goals
  clear r0 r1 r2 r3 p0 p1 p2 p3 lt q0 q1 q2 q3 lq T6 Q6
  have F7:Hid (AtF W x Y x3 N1 T8 lo T10 B4 T11 (.slice pa Y.pn pc) (.slice sa Y.sn sc) (.slice wa Y.wn wc) (.slice ha Y.hn hc) (.slice qa Y.pn qc) (.slice ra Y.sn rc) (.slice ta Y.wn tc) (.slice ua Y.hn uc) w7):=F5.out.below Q7.out
  clear Q7 F5
  obtain ⟨q0,q1,q2,q3⟩:=F7.out.b10
  go_wp2_with fail
  clear q0 q1 q2 q3
  refine (qfj x _ _ _ w7 HS.out F7.out.s3).mono ?_
  rintro e w8 ⟨⟨z,rfl,hz⟩,t8⟩
  have F8:Hid (AtG W x Y Y N1 T8 B4 T11 (.slice pa Y.pn pc) (.slice sa Y.sn sc) (.slice wa Y.wn wc) (.slice ha Y.hn hc) (.slice qa Y.pn qc) (.slice ra Y.sn rc) (.slice ta Y.wn tc) (.slice ua Y.hn uc) w8):=F7.out.mark t8 (by have:=LT2.out;omega) (by have:=LT2.out;omega) (by have:=LT2.out;omega) LT2.out.2
  clear t8 F7
  obtain ⟨p0,p1,p2,p3⟩:=F8.out.b8
  obtain ⟨q0,q1,q2,q3⟩:=F8.out.b11
  go_wp2_with fail
  clear p0 p1 p2 p3 q0 q1 q2 q3
  refine (qci Y B4 N1 _ _ w8 HSM.out.len F8.out.o4.sys F8.out.o2.sys).mono ?_
  rintro e w9 ⟨rfl,b9⟩
  have F9:Hid (AtG W x Y Y N1 T8 B4 T11 (.slice pa Y.pn pc) (.slice sa Y.sn sc) (.slice wa Y.wn wc) (.slice ha Y.hn hc) (.slice qa Y.pn qc) (.slice ra Y.sn rc) (.slice ta Y.wn tc) (.slice ua Y.hn uc) w9):=F8.out.below b9
  clear b9 F8
  obtain ⟨q0,q1,q2,q3⟩:=F9.out.b11
  go_wp2_with fail
  clear q0 q1 q2 q3
  refine (qiy Y B4 T11 _ _ _ _ w9 HSM.out.sums (by have:=F9.out.b11.ltF;have:=LT2.out;omega) F9.out.o4).mono ?_
  rintro e w10 ⟨rfl,o10,t10⟩
  have F10:Hid (AtG W x Y (mkY Y 1) N1 T8 B4 T11 (.slice pa Y.pn pc) (.slice sa Y.sn sc) (.slice wa Y.wn wc) (.slice ha Y.hn hc) (.slice qa Y.pn qc) (.slice ra Y.sn rc) (.slice ta Y.wn tc) (.slice ua Y.hn uc) w10):=F9.out.mark t10 o10 (by have:=LT2.out;omega) (by have:=LT2.out;omega)
  have HZ:Hid (¬ mkZ5 Y 1<0):=by
   have:=(qni HSM.out.sums).2.2.2
   show ¬ mkZ5 Y 1<0
   omega
  clear t10 o10 F9
  obtain ⟨q0,q1,q2,q3⟩:=F10.out.b11
  go_wp2_with fail
  clear q0 q1 q2 q3
  refine (qcs Y B4 _ w10 HSM.out.sums F10.out.o4.sys).mono ?_
  rintro e w11 ⟨rfl,b11⟩
  have F11:Hid (AtG W x Y (mkY Y 1) N1 T8 B4 T11 (.slice pa Y.pn pc) (.slice sa Y.sn sc) (.slice wa Y.wn wc) (.slice ha Y.hn hc) (.slice qa Y.pn qc) (.slice ra Y.sn rc) (.slice ta Y.wn tc) (.slice ua Y.hn uc) w11):=F10.out.below b11
  clear b11 F10
  obtain ⟨-,⟨p0,p1,p2,p3⟩,lt⟩:=F11.out.px
  have hz5:=HZ.out
  go_wp2_with fail
  clear p0 p1 p2 p3 lt hz5
  refine (qbd x W w11 HS.out HA.out F11.out.px.be).mono ?_
  rintro e w12 ⟨v12,rfl,o12,b12⟩
  obtain ⟨x12,rfl,g12,y12,cp12,nn12⟩:=o12.g3
  have S12:Hid (SysG w12 x12/\x12.y=x.y/\x12.Nn true/\∀ i,i<x12.hn->x12.hL i<=x12.hC i):=⟨g12,y12,nn12,cp12⟩
  have F12:Hid (AtG W x Y (mkY Y 1) N1 T8 B4 T11 (.slice pa Y.pn pc) (.slice sa Y.sn sc) (.slice wa Y.wn wc) (.slice ha Y.hn hc) (.slice qa Y.pn qc) (.slice ra Y.sn rc) (.slice ta Y.wn tc) (.slice ua Y.hn uc) w12):=F11.out.below b12
  clear b12 F11 o12 g12 y12 nn12 cp12
  go_wp2_with fail
  refine (qdc x12 z1 z2 w12 S12.out.1 (SysIn.len_of HS.out S12.out.2.1) S12.out.2.2.2 S12.out.2.2.1 ((F12.out.px.be.cell (p:=⟨0,0,none⟩) HV0.out).trans HV.out)).mono ?_
  rintro e w13 ⟨v13,rfl,o13,b13⟩
  rw [S12.out.2.1,HYC.out.1] at o13
  rw [S12.out.2.1,HYC.out.2]
  obtain ⟨ka,kc,la,lc,ma,mc,na,nc,rfl,n13⟩:=Own0.of o13
  have ba:=qad w13 (oQ4 ka Y.pn kc la Y.sn lc ma Y.wn mc na Y.hn nc)
  have q13:=b13.trans (ba.mono b13.size)
  have F13:Hid (AtG W x Y (mkY Y 1) N1 T8 B4 T11 (.slice pa Y.pn pc) (.slice sa Y.sn sc) (.slice wa Y.wn wc) (.slice ha Y.hn hc) (.slice qa Y.pn qc) (.slice ra Y.sn rc) (.slice ta Y.wn tc) (.slice ua Y.hn uc) (w13.alloc (oQ4 ka Y.pn kc la Y.sn lc ma Y.wn mc na Y.hn nc))/\Own0 (w13.alloc (oQ4 ka Y.pn kc la Y.sn lc ma Y.wn mc na Y.hn nc)) w12.heap.size w13.heap.size Y (.slice ka Y.pn kc) (.slice la Y.sn lc) (.slice ma Y.wn mc) (.slice na Y.hn nc)/\BoxC (w13.alloc (oQ4 ka Y.pn kc la Y.sn lc ma Y.wn mc na Y.hn nc)) w13.heap.size (.slice ka Y.pn kc) (.slice la Y.sn lc) (.slice ma Y.wn mc) (.slice na Y.hn nc)):=⟨F12.out.below q13,n13.below ba,BoxC.new w13 _ _ _ _ _⟩
  go_upto_region 25 with fail
  clear b13 o13 n13 ba q13 F12 S12
  generalize hN12:w12.heap.size=N12 at *
  generalize hT16:w13.heap.size=T16 at *
  clear hN12 hT16
  generalize w13.alloc (oQ4 ka Y.pn kc la Y.sn lc ma Y.wn mc na Y.hn nc)=wD at *
  obtain ⟨p0,p1,p2,p3⟩:=F13.out.1.b8
  obtain ⟨q0,q1,q2,q3⟩:=F13.out.2.2
  go_wp2_with fail
  clear p0 p1 p2 p3 q0 q1 q2 q3
  refine (qci Y N12 N1 _ _ wD HSM.out.len F13.out.2.1.sys F13.out.1.o2.sys).mono ?_
  rintro e w14 ⟨rfl,b14⟩
  have F14:Hid (AtG W x Y (mkY Y 1) N1 T8 B4 T11 (.slice pa Y.pn pc) (.slice sa Y.sn sc) (.slice wa Y.wn wc) (.slice ha Y.hn hc) (.slice qa Y.pn qc) (.slice ra Y.sn rc) (.slice ta Y.wn tc) (.slice ua Y.hn uc) w14):=F13.out.1.below b14
  clear b14 F13
  obtain ⟨q0,q1,q2,q3⟩:=F14.out.b11
  go_wp2_with fail
  clear q0 q1 q2 q3
  refine (qcs Y B4 _ w14 HSM.out.sums F14.out.o4.sys).mono ?_
  rintro e w15 ⟨rfl,b15⟩
  have F15:Hid (AtG W x Y (mkY Y 1) N1 T8 B4 T11 (.slice pa Y.pn pc) (.slice sa Y.sn sc) (.slice wa Y.wn wc) (.slice ha Y.hn hc) (.slice qa Y.pn qc) (.slice ra Y.sn rc) (.slice ta Y.wn tc) (.slice ua Y.hn uc) w15):=F14.out.below b15
  clear b15 F14
  have hz5:=HZ.out
  go_wp2
  go_ret
  exact ⟨rfl,F15.out.px.be⟩
theorem qkk (x:SysIn) (z1 z2:Int) (W:World) (hr:x.Row W) (hm:x.Max) (hs:1048576<x.size):
  Calls Tryz.prog 5 #[sysV x.pa x.pn x.pc x.sa x.sn x.sc x.wa x.wn x.wc x.ha x.hn x.hc,.int .i64 z1,.int .i64 z2] W fun e w'=>e=.returned (.bool true)/\Below W.heap.size W w':=by
 have HR:Hid (x.Row W):=hr
 have HM:Hid x.Max:=hm
 have HS:Hid (1048576<x.size):=hs
 clear hr hm hs
 go_enter Tryz.func5,Tryz.ntmps5
 go_wp2_with fail
 refine (qd0 x _ (HR.out.below (qad _ _)) HM.out HS.out).mono ?_
 rintro e w0 ⟨rfl,b0⟩
 have B0:Hid (Below W.heap.size W w0):=(qad _ _).trans (b0.mono (by simp))
 clear b0
 go_wp2
 go_ret
 exact ⟨rfl,B0.out⟩
theorem qrt (os:Os) (started:os.Started) (H:Type) (enc:TypeId × Value->H):
  ReturnsInHanded {} Tryz.checked os 5 .any (fun w args => (Rows.fnExactBackSpec.pre enc Tryz.prog Tryz.f5 [] false w args /\ laidMetH Tryz.prog [("errors.errorType", Rows.laid_errors_errorType)] w) /\ sizedMet enc Tryz.prog Tryz.f5 (OpenSpec.ofChange Rows.fnExactBackSpec) false w args)
   (Rows.fnExactBackSpec.post enc Tryz.prog Tryz.f5 false true false false):=by
 refine returnsInHanded_of_change_and (C := Tryz.checked) (X := fun w _ => laidMetH Tryz.prog [("errors.errorType", Rows.laid_errors_errorType)] w) (fun _ _ _ hh h => h.of_heap hh) Tryz.own started (by kernel_rfl) Tryz.func5
  (ChangeSpec.witness_at (enc := enc) (C := Tryz.checked) (os := os) (X := fun w _ => laidMetH Tryz.prog [("errors.errorType", Rows.laid_errors_errorType)] w) false (qef os) #[sysV none 0 0 none 0 0 none 0 0 none 0 0, .int .i64 0, .int .i64 0] 8 rfl (by kernel_rfl) (by kernel_rfl) (by kernel_rfl) (by kernel_rfl) (by kernel_rfl) (qc2 os _)) ?_
 intro W base args ds gs before hval0 hW _ _ hL _
 have hval:∀ (j:Nat) t v,Tryz.f5.params[j]? = some t->args[j]? = some v->Value.okWide Tryz.prog W .any base t v:=hval0
 have hW':=hW
 obtain ⟨p,q,hA0,hV,rfl,hfz,hnd⟩:=hW
 have hA:DataW.TrodAll enc Tryz.prog W 0 (fun _=>true) true Tryz.f5.params.toList args.toList ds p:=hA0
 rw [Tryz.params5] at hA hval
 obtain ⟨v0,v1,v2,d0,d1,d2,p0,p1,p2,rfl,rfl,rfl,h0,h1,h2⟩:=trodAll_three hA
 obtain ⟨rfl,rfl⟩:=trodVars_none hV
 obtain ⟨z1,rfl⟩:=okWide_int Tryz.underlying3 (hval 1 3 v1 rfl rfl)
 obtain ⟨z2,rfl⟩:=okWide_int Tryz.underlying3 (hval 2 3 v2 rfl rfl)
 have lt0:∀ x ∈ p0,x.block<W.heap.size:=by obtain ⟨m,hm⟩:=h0;exact DataW.trod_lt m _ _ _ hm
 have lt1:∀ x ∈ p1,x.block<W.heap.size:=by obtain ⟨m,hm⟩:=h1;exact DataW.trod_lt m _ _ _ hm
 have lt2:∀ x ∈ p2,x.block<W.heap.size:=by obtain ⟨m,hm⟩:=h2;exact DataW.trod_lt m _ _ _ hm
 have hg:=qcw hL
 clear hA0 hval0
 have hlaw:Calls Tryz.prog 5 #[v0,.int .i64 z1,.int .i64 z2] W fun e w'=>e=.returned (.bool true)/\Below W.heap.size W w':=by
  obtain ⟨x,e,hr,hm,hy⟩:=qia (hval 0 27 v0 rfl rfl) h0
  by_cases hs:x.size<=1048576
  ·obtain ⟨y,ey,hok,hys⟩:=hy hs
   rw [ey]
   exact qkl y z1 z2 W hys hok hg
  ·rw [e]
   exact qkk x z1 z2 W hr hm (by omega)
 refine hlaw.mono fun e W' ⟨he,bel⟩=>?_
 subst he
 exact ⟨_,rfl,_,_,_,[],_,[],hW',trodAll_mk1 (shut_bool Tryz.underlying4 _),(trodAll_cons_mk (Below.trod Tryz.laidOut (by kernel_rfl) (of_decide_eq_true (by kernel_rfl)) h0 bel lt0) (trodAll_cons_mk (Below.trod Tryz.laidOut (by kernel_rfl) (of_decide_eq_true (by kernel_rfl)) h1 bel lt1) (trodAll_cons_mk (Below.trod Tryz.laidOut (by kernel_rfl) (of_decide_eq_true (by kernel_rfl)) h2 bel lt2) trodAll_mk0))),rfl,bel.frame _,fun h=>by cases h⟩
theorem qvq:Rows.FnExactBackSaid:=
 OpenClaim.holds_of_wide 5 Tryz.f5 rfl rfl rfl rfl rfl rfl rfl ⟨rfl,rfl,rfl,rfl,rfl⟩ rfl rfl rfl rfl rfl (by kernel_rfl) Tryz.func5 (by kernel_rfl)
  (of_decide_eq_true (by kernel_rfl)) (by unfold Func.isWrapper;first|(rw [if_pos (by decide +kernel)];kernel_rfl)|(rw [if_neg (by decide +kernel)];exact ⟨rfl,rfl⟩))
  (fun os started H enc _=>qrt os started H enc)
theorem qtj (f : FuncId) (fn : Func) (hf : Tryz.pinned.checked.prog.funcNamed "loop.example/g00196/laws.FnExactBack" = some f) (hfn : Tryz.pinned.checked.prog.funcs[f]? = some fn) :
  true=Tryz.pinned.checked.prog.looks []/\∀ (j:Nat) t,fn.params[j]? = some t->Tryz.pinned.checked.prog.wantsStandIn t=false:=by
 obtain rfl : f = 5 := Option.some.inj ((show Tryz.prog.funcNamed "loop.example/g00196/laws.FnExactBack" = some 5 by kernel_rfl).symm.trans hf) |>.symm
 obtain rfl:fn=Tryz.f5:=(Option.some.inj (Tryz.func5.symm.trans hfn)).symm
 refine ⟨by kernel_rfl,fun j t ht=>?_⟩
 rw [Tryz.params5] at ht
 have hm:=Array.mem_of_getElem? ht
 simp at hm
 rcases hm with rfl | rfl
 ·exact (show Tryz.prog.wantsStandIn 27=false by kernel_rfl)
 ·exact (show Tryz.prog.wantsStandIn 3=false by kernel_rfl)
theorem back_card:Rows.FnExactBackCardSaid:=
 Claim7.holds_tied_plain_at .later [] _ _ _ _ qvq (fun _ h=>by cases h) (by kernel_rfl) (fun _ h=>by cases h) fnExactBack_row_tie rfl ⟨rfl,rfl⟩ (by kernel_rfl) rfl qtj (by kernel_rfl)
