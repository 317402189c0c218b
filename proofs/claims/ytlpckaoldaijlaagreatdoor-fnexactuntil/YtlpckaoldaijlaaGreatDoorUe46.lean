import Derived.Test.YtlpckaoldaijlaaGreatDoorUe0
import Derived.Test.YtlpckaoldaijlaaGreatDoorUe34
import Derived.Test.YtlpckaoldaijlaaGreatDoorUe39
import Derived.Test.YtlpckaoldaijlaaGreatDoorUe43
import Derived.Test.YtlpckaoldaijlaaGreatDoorUe44
import Derived.Test.YtlpckaoldaijlaaGreatDoorUe45
import Derived.Test.YtlpckaoldaijlaaGreatDoorUe42
import Derived.Test.YtlpckaoldaijlaaGreatDoorUe38
import Derived.Test.YtlpckaoldaijlaaGreatDoorUe37
import Derived.Test.YtlpckaoldaijlaaGreatDoorUe33
namespace Go.Proofs.YtlpckaoldaijlaaGreatDoor
set_option maxRecDepth 100000
set_option maxHeartbeats 20000000
open Go.ChangeShapes Go.WideShapes Go.ChangeAt Go.RowKit Go.Deep
theorem l5Step_out (y:Sy) (p f:Int) (w:World) (B:Nat) (v:Value) (o:OwnSys true w B y v) (hB:B<=w.heap.size) (hn:y.pn<=1048576) (t1:inB p 0 ((y.pn:Int) - 1)=false):
  Calls Tryz.prog 125 #[v,.int .i64 p,.int .i64 f] w fun e w'=>e=.returned (.tuple #[v,.int .i64 2])/\Below B w w'/\OwnSys true w' B y v:=by
 obtain ⟨c,vp,vs,vw,vh,up,us,uw,uh,rfl,o⟩:=o
 obtain ⟨pa,pc,rfl⟩:=zW o.p.row
 obtain ⟨sa,sc,rfl⟩:=zW o.s.row
 obtain ⟨wa,wc,rfl⟩:=zW o.t.row
 obtain ⟨ha,hc,rfl⟩:=zW o.h.row
 have hpn:(y.pn:Int)<=1048576:=by omega
 have hM:B<=w.heap.size+1:=by omega
 have BW:Hid (Below w.heap.size w ((w.alloc (oQ4 pa y.pn pc sa y.sn sc wa y.wn wc ha y.hn hc)).alloc (zQ1))):=(zT _ _).trans ((zT _ _).mono (by simp))
 have NB:Hid (BoxC ((w.alloc (oQ4 pa y.pn pc sa y.sn sc wa y.wn wc ha y.hn hc)).alloc (zQ1)) w.heap.size (.slice pa y.pn pc) (.slice sa y.sn sc) (.slice wa y.wn wc) (.slice ha y.hn hc)):=(BoxC.new w _ _ _ _ _).below (zT _ _)
 have RB:Hid (BoxC ((w.alloc (oQ4 pa y.pn pc sa y.sn sc wa y.wn wc ha y.hn hc)).alloc (zQ1)) (w.heap.size+1) (.slice none 0 0) (.slice none 0 0) (.slice none 0 0) (.slice none 0 0)/\∀ j,((w.alloc (oQ4 pa y.pn pc sa y.sn sc wa y.wn wc ha y.hn hc)).alloc (zQ1)).frozen? ⟨w.heap.size+1,j,none⟩=false):=⟨⟨zZ _ _ _ 0 (by simp),zZ _ _ _ 1 (by simp),zZ _ _ _ 2 (by simp),zZ _ _ _ 3 (by simp)⟩,fun j=>yD _ _ _ _ (by simp)⟩
 have l1:w.heap.size+1<((w.alloc (oQ4 pa y.pn pc sa y.sn sc wa y.wn wc ha y.hn hc)).alloc (zQ1)).heap.size:=by simp
 have OO:Hid (OwnS true w B c y (.slice pa y.pn pc) (.slice sa y.sn sc) (.slice wa y.wn wc) (.slice ha y.hn hc) up us uw uh):=o
 clear o
 go_enter Tryz.func125,Tryz.ntmps125
 go_wp2_with fail
 refine (l1In_any _ _ _ _).mono ?_
 rintro e w1 ⟨rfl,rfl⟩
 rw [t1]
 generalize (w.alloc (oQ4 pa y.pn pc sa y.sn sc wa y.wn wc ha y.hn hc)).alloc (zQ1)=W2 at *
 obtain ⟨b0,b1,b2,b3⟩:=NB.out
 obtain ⟨⟨r0,r1,r2,r3⟩,rf⟩:=RB.out
 have O2:Hid (OwnS true W2 B (rcol c w.heap.size 0) y (.slice pa y.pn pc) (.slice sa y.sn sc) (.slice wa y.wn wc) (.slice ha y.hn hc) up us uw uh):=(OO.out.recol 0).below BW.out
 have BB:Hid (Below B w W2):=BW.out.mono hB
 go_wp2
 exact bodyPost_ret (v:=.tuple #[sysV pa y.pn pc sa y.sn sc wa y.wn wc ha y.hn hc,.int .i64 2]) (by simp [results,Tryz.results125,go_sem,r0,r1,r2,r3]) rfl ⟨rfl,(((BB.out.setCell hM _).setCell hM _).setCell hM _).setCell hM _,O2.out.out4 (rcol_new (Nat.le_succ _)) rfl _ _ _ _⟩
noncomputable def stC (y:Sy) (p f:Int):Int:=if y.okB=true then (if belB p y.pn=true then cmS y p.toNat f else 2) else 1
noncomputable def stY (y:Sy) (p f:Int):Sy:=if y.okB=true then (if belB p y.pn=true then y.step p.toNat f else y) else { y with pn:=0,sn:=0,wn:=0,hn:=0 }
theorem specStep_any (x:SysIn) (p f:Int) (w:World) (hG:SysG w x) (hL:x.Len) (hcap:∀ i,i<x.hn->x.hL i<=x.hC i):
  Calls Tryz.prog 75 #[x.v,.int .i64 p,.int .i64 f] w fun e w'=>∃ v,e=.returned (.tuple #[v,.int .i64 (stC x.y p f)])/\OwnSys true w' w.heap.size (stY x.y p f) v/\Below w.heap.size w w':=by
 have HG:Hid (SysG w x):=hG
 have HL:Hid x.Len:=hL
 have HS:Hid (∀ wx,Below w.heap.size w wx->Calls Tryz.prog 18 #[x.v] wx fun e w'=>e=.returned (.bool x.y.okB)/\Below wx.heap.size wx w'):=fun wx hb=>specSysOk_any x wx (HG.out.below hb) hL hcap
 have HC4:Hid (∀ wx,Below w.heap.size w wx->Calls Tryz.prog 74 #[x.v] wx fun e w'=>∃ v,e=.returned v/\OwnSys true w' wx.heap.size x.y v/\Below wx.heap.size wx w'):=fun wx hb=>l4Copy_any x wx (HG.out.below hb) hL
 have BW:Hid (Below w.heap.size w ((w.alloc (oQ4 x.pa x.pn x.pc x.sa x.sn x.sc x.wa x.wn x.wc x.ha x.hn x.hc)).alloc (zQ1))):=(zT _ _).trans ((zT _ _).mono (by simp))
 have NB:Hid (BoxC ((w.alloc (oQ4 x.pa x.pn x.pc x.sa x.sn x.sc x.wa x.wn x.wc x.ha x.hn x.hc)).alloc (zQ1)) w.heap.size (.slice x.pa x.pn x.pc) (.slice x.sa x.sn x.sc) (.slice x.wa x.wn x.wc) (.slice x.ha x.hn x.hc)):=(BoxC.new w _ _ _ _ _).below (zT _ _)
 have RB:Hid (BoxC ((w.alloc (oQ4 x.pa x.pn x.pc x.sa x.sn x.sc x.wa x.wn x.wc x.ha x.hn x.hc)).alloc (zQ1)) (w.heap.size+1) (.slice none 0 0) (.slice none 0 0) (.slice none 0 0) (.slice none 0 0)/\∀ j,((w.alloc (oQ4 x.pa x.pn x.pc x.sa x.sn x.sc x.wa x.wn x.wc x.ha x.hn x.hc)).alloc (zQ1)).frozen? ⟨w.heap.size+1,j,none⟩=false):=⟨⟨zZ _ _ _ 0 (by simp),zZ _ _ _ 1 (by simp),zZ _ _ _ 2 (by simp),zZ _ _ _ 3 (by simp)⟩,fun j=>yD _ _ _ _ (by simp)⟩
 have hM:w.heap.size<=w.heap.size+1:=Nat.le_succ _
 clear hG hL hcap
 go_enter Tryz.func75,Tryz.ntmps75
 go_wp2_with fail
 generalize (w.alloc (oQ4 x.pa x.pn x.pc x.sa x.sn x.sc x.wa x.wn x.wc x.ha x.hn x.hc)).alloc (zQ1)=W2 at *
 refine (HS.out W2 BW.out).mono ?_
 rintro e w1 ⟨rfl,q1⟩
 have B1:Hid (Below w.heap.size w w1/\BoxC w1 w.heap.size (.slice x.pa x.pn x.pc) (.slice x.sa x.sn x.sc) (.slice x.wa x.wn x.wc) (.slice x.ha x.hn x.hc)/\BoxC w1 (w.heap.size+1) (.slice none 0 0) (.slice none 0 0) (.slice none 0 0) (.slice none 0 0)/\∀ j,w1.frozen? ⟨w.heap.size+1,j,none⟩=false):=⟨BW.out.trans (q1.mono BW.out.size),NB.out.below q1,RB.out.1.below q1,fun j=>((bcell q1).2 _ j (zK _ _ RB.out.1.1)).trans (RB.out.2 j)⟩
 clear q1 BW NB RB HS
 have l1:w.heap.size+1<w1.heap.size:=zK _ _ B1.out.2.2.1.1
 obtain ⟨b0,b1,b2,b3⟩:=B1.out.2.1
 rcases zO x.y.okB with t | t
 case inr=>
  have HV:Hid (stC x.y p f=1/\stY x.y p f={ x.y with pn:=0,sn:=0,wn:=0,hn:=0 }):=⟨if_neg (by rw [t];simp),if_neg (by rw [t];simp)⟩
  obtain ⟨⟨r0,r1,r2,r3⟩,rf⟩:=B1.out.2.2
  rw [t]
  clear t
  go_wp2
  exact bodyPost_ret (v:=.tuple #[sysV none 0 0 none 0 0 none 0 0 none 0 0,.int .i64 1]) (by simp [results,Tryz.results75,go_sem,r0,r1,r2,r3]) rfl ⟨_,by rw [HV.out.1],by rw [HV.out.2];exact OwnSys.zero _ _ _,(((B1.out.1.setCell hM _).setCell hM _).setCell hM _).setCell hM _⟩
 have HO:Hid x.y.Ok:=Sy.ok_of t
 have HC:Hid (∀ wx v,w1.heap.size<=wx.heap.size->OwnSys true wx w1.heap.size x.y v->Calls Tryz.prog 125 #[v,.int .i64 p,.int .i64 f] wx fun e w'=>e=.returned (.tuple #[v,.int .i64 (stC x.y p f)])/\Below w1.heap.size wx w'/\OwnSys true w' w1.heap.size (stY x.y p f) v):=by
  show ∀ wx v,_
  intro wx v hwx o
  have hc4:x.y.pn<=4:=HO.out.cn.1.2
  by_cases hb:belB p x.y.pn=true
  ·have hb':0<=p/\p<(x.y.pn:Int):=by simpa [belB] using hb
   obtain ⟨k,rfl⟩:∃ k:Nat,p=k:=⟨p.toNat,by omega⟩
   rw [stC,if_pos t,if_pos hb,stY,if_pos t,if_pos hb]
   exact l5Step_any x.y k f wx _ v o (by omega) HO.out
  ·rw [stC,if_pos t,if_neg hb,stY,if_pos t,if_neg hb]
   exact l5Step_out x.y p f wx _ v o hwx (by omega) (by
    simp only [inB,decide_eq_false_iff_not]
    simp only [belB,decide_eq_true_eq] at hb
    omega)
 have HZ:Hid (stC x.y p f≠0->stY x.y p f=x.y):=fun h=>by
  rw [stC,if_pos t] at h
  rw [stY,if_pos t]
  by_cases hb:belB p x.y.pn=true
  ·rw [if_pos hb] at h ⊢
   exact Sy.step_no h
  ·rw [if_neg hb]
 rw [t]
 clear t
 go_wp2_with fail
 refine (HC4.out w1 B1.out.1).mono ?_
 rintro e w3 ⟨v3,rfl,o3,q3⟩
 obtain ⟨pa,pc,sa,sc,wa,wc,ha,hc,rfl⟩:=o3.form
 have HC':=HC.out w3 _ q3.size o3
 clear HC
 generalize hC:stC x.y p f=C at *
 generalize hY:stY x.y p f=Y at *
 go_wp2_with fail
 refine HC'.mono ?_
 rintro e w5 ⟨rfl,q5,o5⟩
 have Q5:Below w1.heap.size w1 w5:=q3.trans q5
 have B5:Hid (Below w.heap.size w w5/\BoxC w5 w.heap.size (.slice x.pa x.pn x.pc) (.slice x.sa x.sn x.sc) (.slice x.wa x.wn x.wc) (.slice x.ha x.hn x.hc)/\BoxC w5 (w.heap.size+1) (.slice none 0 0) (.slice none 0 0) (.slice none 0 0) (.slice none 0 0)/\(∀ j,w5.frozen? ⟨w.heap.size+1,j,none⟩=false)/\w1.heap.size<=w5.heap.size/\OwnSys true w5 w1.heap.size Y (sysV pa x.y.pn pc sa x.y.sn sc wa x.y.wn wc ha x.y.hn hc)):=⟨B1.out.1.trans (Q5.mono B1.out.1.size),B1.out.2.1.below Q5,B1.out.2.2.1.below Q5,fun j=>((bcell Q5).2 _ j l1).trans (B1.out.2.2.2 j),Q5.size,o5⟩
 clear o3 q3 q5 o5 Q5 HC' B1 b0 b1 b2 b3
 obtain ⟨b0,b1,b2,b3⟩:=B5.out.2.1
 obtain ⟨r0,r1,r2,r3⟩:=B5.out.2.2.1
 have rf:=B5.out.2.2.2.1
 have l5:w.heap.size+1<w5.heap.size:=zK _ _ r0
 have l50:w.heap.size<w5.heap.size:=by omega
 by_cases hc0:C=0
 ·subst hc0
  go_wp2
  exact bodyPost_ret (v := .tuple #[sysV pa x.y.pn pc sa x.y.sn sc wa x.y.wn wc ha x.y.hn hc, .int .i64 0]) (by simp [results, Tryz.results75, go_sem, r0, r1, r2, r3, l5]) rfl ⟨_, by rw [hC], by
   rw [hY]
   exact (((((B5.out.2.2.2.2.2.setBelow l1 0 _).setBelow l1 1 _).setBelow l1 2 _).setBelow l1 3 _).below (zT _ _)).base (by omega),((((B5.out.1.setCell hM _).setCell hM _).setCell hM _).setCell hM _).trans ((zT _ _).mono (by simp;omega))⟩
 ·have tc:(C == 0)=false:=by simpa using hc0
  go_wp2_with fail
  refine (HC4.out _ (B5.out.1.trans ((zT _ _).mono (Nat.le_of_lt l50)))).mono ?_
  rintro e w7 ⟨v7,rfl,o7,q7⟩
  obtain ⟨pa7,pc7,sa7,sc7,wa7,wc7,ha7,hc7,rfl⟩:=o7.form
  have Q7:Below w5.heap.size w5 w7:=(zT _ _).trans (q7.mono (by simp))
  have hc:=(bcell Q7).1
  replace r0:=(hc _ _ l5).trans r0
  replace r1:=(hc _ _ l5).trans r1
  replace r2:=(hc _ _ l5).trans r2
  replace r3:=(hc _ _ l5).trans r3
  replace rf:∀ j,w7.frozen? ⟨w.heap.size+1,j,none⟩=false:=fun j=>((bcell Q7).2 _ j l5).trans (rf j)
  have l7:w.heap.size+1<w7.heap.size:=zP l5 Q7.size
  have B7:Hid (Below w.heap.size w w7/\OwnSys true w7 w5.heap.size x.y (sysV pa7 x.y.pn pc7 sa7 x.y.sn sc7 wa7 x.y.wn wc7 ha7 x.y.hn hc7)):=⟨B5.out.1.trans (Q7.mono (Nat.le_of_lt l50)),o7.base (by simp)⟩
  clear o7 q7 Q7 hc B5 b0 b1 b2 b3
  go_wp2
  exact bodyPost_ret (v := .tuple #[sysV pa7 x.y.pn pc7 sa7 x.y.sn sc7 wa7 x.y.wn wc7 ha7 x.y.hn hc7, .int .i64 C]) (by simp [results, Tryz.results75, go_sem, r0, r1, r2, r3]) rfl ⟨_, by rw [hC], by
   rw [hY,HZ.out hc0]
   exact ((((B7.out.2.setBelow l5 0 _).setBelow l5 1 _).setBelow l5 2 _).setBelow l5 3 _).base (by omega),(((B7.out.1.setCell hM _).setCell hM _).setCell hM _).setCell hM _⟩
variable {z:Bool}
structure Hp (z:Bool) (w:World) (B:Nat) (c0:Nat->Nat) (k q v:Int) (y:Sy) (vp vs vw vh:Value) (wx:World):Prop where
 be:Below B w wx
 bx:BoxC wx w.heap.size vp vs vw vh
 ev:EvK wx (w.heap.size+1) k q v
 kp:∀ b,b<w.heap.size->c0 b=0->wx.heap[b]? = w.heap[b]?
 ow:∃ c up us uw uh,OwnS z wx B c y vp vs vw vh up us uw uh/\c w.heap.size=0/\c (w.heap.size+1)=0/\∀ b,b<w.heap.size->c b=c0 b
theorem Sy.Ok.lens {y:Sy} (h:y.Ok) {p:Nat} (hp:p<y.pn):y.pL p<=maxLen/\(y.sS p).rs.length<=1048576/\(y.sS p).os.length<=1048576:=by
 have h1:=h.four hp
 simp only [progOkB,Bool.and_eq_true,inB,decide_eq_true_eq] at h1
 obtain ⟨⟨r0,r1,r2,r3,e,-⟩,-,h60,-⟩:=st_parts (h.st hp)
 refine ⟨?_,by rw [e];simp,by omega⟩
 have:=h1.2.1
 unfold maxLen
 omega
theorem ownsRow_cap {w:World} {B sz n m c:Nat} {e:TypeId} {a:Option Addr} {xs:List Value} (h:w.ownsRow B e sz (.slice a n c) m xs):c<=maxLen:=by
 rcases h.2 with ⟨e,-⟩ | ⟨g,cap,cur,e,-,-,-,hc,-⟩
 ·simp only [Value.slice.injEq] at e
  omega
 ·simp only [Value.slice.injEq] at e
  omega
theorem Hp.below {w wx wy:World} {B:Nat} {c0:Nat->Nat} {k q v:Int} {y:Sy} {vp vs vw vh:Value} (h:Hp z w B c0 k q v y vp vs vw vh wx) (hB:B<=wx.heap.size) (b:Below wx.heap.size wx wy):Hp z w B c0 k q v y vp vs vw vh wy:=by
 obtain ⟨c,up,us,uw,uh,o,z0,z1,zc⟩:=h.ow
 exact ⟨h.be.trans (b.mono hB),h.bx.below b,h.ev.below b,fun j hj hc=>(b.block j (Nat.lt_trans hj h.bx.ltM)).trans (h.kp j hj hc),c,up,us,uw,uh,o.below b,z0,z1,zc⟩
theorem Hp.le {w wx:World} {B:Nat} {c0:Nat->Nat} {k q v:Int} {y:Sy} {vp vs vw vh:Value} (h:Hp z w B c0 k q v y vp vs vw vh wx) (hB:B<=w.heap.size):B<=wx.heap.size:=zS hB (Nat.le_of_lt h.bx.ltM)
theorem col_ne {c:Nat->Nat} {a b i j:Nat} (ha:c a=i) (hb:c b=j) (h:i≠j):a≠b:=fun e=>h (by rw [<- ha,<- hb,e])
theorem Hp.putW {w wx w1:World} {B g cap:Nat} {c0:Nat->Nat} {k q v:Int} {y:Sy} {vp vs vh:Value} (h:Hp z w B c0 k q v y vp vs (.slice (some ⟨g,0,none⟩) y.wn cap) vh wx) (hB:B<=w.heap.size) {J m:Nat} {u':Value} {H':Nat->I2} (hJ:J<y.wn) (b1:Below wx.heap.size wx w1) (hu:w1.ownsRow wx.heap.size 131 2 u' m (fT H' m)) (hne:u'≠.slice none 0 0):
  Hp z w B c0 k q v (y.setW J m H') vp vs (.slice (some ⟨g,0,none⟩) y.wn cap) vh (w1.setCell ⟨g,J,none⟩ u'):=by
 obtain ⟨c,up,us,uw,uh,o,z0,z1,zc⟩:=h.ow
 have hg:=o.t.rb g rfl
 have hz:∀ b,c b=0->b<wx.heap.size->(w1.setCell ⟨g,J,none⟩ u').heap[b]? = wx.heap[b]?:=fun b hb hl=>(zQ _ _ _ _ (col_ne hb hg.2 (by decide))).trans (b1.block b hl)
 have hW:=h.le hB
 exact ⟨(h.be.trans (b1.mono hW)).setCell hg.1 _,h.bx.blkM (hz _ z0 h.bx.ltM),h.ev.blk (hz _ z1 h.ev.lt),fun j hj hc=>(hz j ((zc j hj).trans hc) (Nat.lt_trans hj h.bx.ltM)).trans (h.kp j hj hc),_,up,us,_,uh,o.putW hJ hW b1.size (fun b hb _=>b1.block b hb) (ownsRow_base0 hu) hne (fun b hb=>.inr (hu.lt b hb).1),(rcol_old h.bx.ltM).trans z0,(rcol_old h.ev.lt).trans z1,fun j hj=>(rcol_old (Nat.lt_trans hj h.bx.ltM)).trans (zc j hj)⟩
theorem Hp.putH {w wx w1:World} {B g cap:Nat} {c0:Nat->Nat} {k q v:Int} {y:Sy} {vp vs vw:Value} (h:Hp z w B c0 k q v y vp vs vw (.slice (some ⟨g,0,none⟩) y.hn cap) wx) (hB:B<=w.heap.size) {J m:Nat} {u':Value} {H':Nat->E3} (hJ:J<y.hn) (b1:Below wx.heap.size wx w1) (hu:w1.ownsRow wx.heap.size 85 3 u' m (fE H' m)) (hne:u'≠.slice none 0 0):
  Hp z w B c0 k q v (y.setH J m H') vp vs vw (.slice (some ⟨g,0,none⟩) y.hn cap) (w1.setCell ⟨g,J,none⟩ u'):=by
 obtain ⟨c,up,us,uw,uh,o,z0,z1,zc⟩:=h.ow
 have hg:=o.h.rb g rfl
 have hz:∀ b,c b=0->b<wx.heap.size->(w1.setCell ⟨g,J,none⟩ u').heap[b]? = wx.heap[b]?:=fun b hb hl=>(zQ _ _ _ _ (col_ne hb hg.2 (by decide))).trans (b1.block b hl)
 have hW:=h.le hB
 exact ⟨(h.be.trans (b1.mono hW)).setCell hg.1 _,h.bx.blkM (hz _ z0 h.bx.ltM),h.ev.blk (hz _ z1 h.ev.lt),fun j hj hc=>(hz j ((zc j hj).trans hc) (Nat.lt_trans hj h.bx.ltM)).trans (h.kp j hj hc),_,up,us,uw,_,o.putH hJ hW b1.size (fun b hb _=>b1.block b hb) (ownsRow_base0 hu) hne (fun b hb=>.inr (hu.lt b hb).1),(rcol_old h.bx.ltM).trans z0,(rcol_old h.ev.lt).trans z1,fun j hj=>(rcol_old (Nat.lt_trans hj h.bx.ltM)).trans (zc j hj)⟩
theorem Hp.putS {w wx w1:World} {B g cap:Nat} {c0:Nat->Nat} {k q v:Int} {y:Sy} {vp vw vh:Value} (h:Hp z w B c0 k q v y vp (.slice (some ⟨g,0,none⟩) y.sn cap) vw vh wx) (hB:B<=w.heap.size) {i:Nat} (hi:i<y.sn) {ra oa:Option Addr} {rn rc on oc:Nat} {p code:Int} {T:S4} (b1:Below wx.heap.size wx w1) (hu:StOwn w1 wx.heap.size (stV p ra rn rc oa on oc code) T.p T.rs T.os T.c):
  Hp z w B c0 k q v (y.setS i T) vp (.slice (some ⟨g,0,none⟩) y.sn cap) vw vh ((((w1.setCell ⟨g,i*4,none⟩ (.int .i64 p)).setCell ⟨g,i*4+1,none⟩ (.slice ra rn rc)).setCell ⟨g,i*4+2,none⟩ (.slice oa on oc)).setCell ⟨g,i*4+3,none⟩ (.int .i64 code)):=by
 obtain ⟨c,up,us,uw,uh,o,z0,z1,zc⟩:=h.ow
 have hg:=o.s.rb g rfl
 have hz:∀ b,c b=0->b<wx.heap.size->((((w1.setCell ⟨g,i*4,none⟩ (.int .i64 p)).setCell ⟨g,i*4+1,none⟩ (.slice ra rn rc)).setCell ⟨g,i*4+2,none⟩ (.slice oa on oc)).setCell ⟨g,i*4+3,none⟩ (.int .i64 code)).heap[b]? = wx.heap[b]?:=fun b hb hl=>by
  have hn:=col_ne hb hg.2 (by decide)
  exact ((zQ _ _ _ _ hn).trans ((zQ _ _ _ _ hn).trans ((zQ _ _ _ _ hn).trans (zQ _ _ _ _ hn)))).trans (b1.block b hl)
 have hW:=h.le hB
 exact ⟨((((h.be.trans (b1.mono hW)).setCell hg.1 _).setCell hg.1 _).setCell hg.1 _).setCell hg.1 _,h.bx.blkM (hz _ z0 h.bx.ltM),h.ev.blk (hz _ z1 h.ev.lt),fun j hj hc=>(hz j ((zc j hj).trans hc) (Nat.lt_trans hj h.bx.ltM)).trans (h.kp j hj hc),_,up,_,uw,uh,o.putS hi hW b1 hu,(rcol_old h.bx.ltM).trans z0,(rcol_old h.ev.lt).trans z1,fun j hj=>(rcol_old (Nat.lt_trans hj h.bx.ltM)).trans (zc j hj)⟩
def OwnK (z:Bool) (w:World) (B:Nat) (c0:Nat->Nat) (N:Nat) (y:Sy) (vp vs vw vh:Value):Prop:=∃ c up us uw uh,OwnS z w B c y vp vs vw vh up us uw uh/\∀ b,b<N->c b=c0 b
theorem OwnK.own {w:World} {B N:Nat} {c0:Nat->Nat} {y:Sy} {vp vs vw vh:Value} (h:OwnK z w B c0 N y vp vs vw vh):OwnSys z w B y (.agg #[vp,vs,vw,vh]):=by
 obtain ⟨c,up,us,uw,uh,o,-⟩:=h
 exact ⟨c,vp,vs,vw,vh,up,us,uw,uh,rfl,o⟩
theorem Hp.ownK {w wx:World} {B:Nat} {c0:Nat->Nat} {k q v:Int} {y:Sy} {vp vs vw vh:Value} (h:Hp z w B c0 k q v y vp vs vw vh wx):OwnK z wx B c0 w.heap.size y vp vs vw vh:=by
 obtain ⟨c,up,us,uw,uh,o,-,-,hc⟩:=h.ow
 exact ⟨c,up,us,uw,uh,o,hc⟩
variable {z:Bool}
theorem happen_own (y:Sy) (p:Nat) (k q v0:Int) (w:World) (B:Nat) (c:Nat->Nat) (vp vs vw vh:Value) (up us uw uh:Nat->Value) (o:OwnS z w B c y vp vs vw vh up us uw uh) (hB:B<=w.heap.size) (hO:y.Ok) (hp:p<y.pn) (hk2:k=2->0<=q/\q<y.pn) (hk3:k=3->0<=q/\q<y.pn/\0<y.wL (q.toNat*y.pn+p)):
  Calls Tryz.prog 131 #[.agg #[vp,vs,vw,vh],.int .i64 p,evV k q v0] w fun e w'=>e=.returned (.tuple #[])/\Below B w w'/\(∀ b,b<w.heap.size->c b=0->w'.heap[b]? = w.heap[b]?)/\OwnK z w' B c w.heap.size ((y.evt p k q v0).way p k q v0) vp vs vw vh:=by
 obtain ⟨⟨h1,h4⟩,hs,hh,hw⟩:=hO.cn
 have hps:p<y.sn:=by omega
 have hph:p<y.hn:=by omega
 have hw0:0<y.wn:=by rw [hw];exact Nat.mul_pos (by omega) (by omega)
 obtain ⟨gp,cp,rfl,-,-,-,-⟩:=o.p.cell hp
 obtain ⟨gs,cs,rfl,-,-,-,-⟩:=o.s.cell hps
 obtain ⟨gh,ch,rfl,-,-,-,-⟩:=o.h.cell hph
 obtain ⟨gw,cw,rfl,-,-,-,-⟩:=o.t.cell hw0
 have hL200:y.hL p<=200:=hO.le200 hp
 have HP4:Hid (progOkB (y.pH p) (y.pL p) 4=true):=hO.four hp
 have HST:Hid (OkS (y.pL p) (y.sS p)):=hO.st hp
 have HLn:Hid (y.pL p<=maxLen/\(y.sS p).rs.length<=1048576/\(y.sS p).os.length<=1048576):=hO.lens hp
 have HWY:Hid (∀ a b,a<y.pn->b<y.pn->y.wL (a*y.pn+b)<=12):=fun a b ha hb=>hO.way ha hb
 have HK2:Hid (k=2->0<=q/\q<y.pn):=hk2
 have HK3:Hid (k=3->0<=q/\q<y.pn/\0<y.wL (q.toNat*y.pn+p)):=hk3
 have HN:Hid (y.sn=y.pn/\y.hn=y.pn/\y.wn=y.pn*y.pn):=⟨hs,hh,hw⟩
 have hp':(p:Int)<(y.pn:Int):=by omega
 have hps':(p:Int)<(y.sn:Int):=by omega
 have hph':(p:Int)<(y.hn:Int):=by omega
 have H0:Hid (Hp z w B c k q v0 y (.slice (some ⟨gp,0,none⟩) y.pn cp) (.slice (some ⟨gs,0,none⟩) y.sn cs) (.slice (some ⟨gw,0,none⟩) y.wn cw) (.slice (some ⟨gh,0,none⟩) y.hn ch) ((w.alloc (oQ4 (some ⟨gp,0,none⟩) y.pn cp (some ⟨gs,0,none⟩) y.sn cs (some ⟨gw,0,none⟩) y.wn cw (some ⟨gh,0,none⟩) y.hn ch)).alloc (oQ0 k q v0))):=by
  have b1:=zT w (oQ4 (some ⟨gp,0,none⟩) y.pn cp (some ⟨gs,0,none⟩) y.sn cs (some ⟨gw,0,none⟩) y.wn cw (some ⟨gh,0,none⟩) y.hn ch)
  have b2:=zT (w.alloc (oQ4 (some ⟨gp,0,none⟩) y.pn cp (some ⟨gs,0,none⟩) y.sn cs (some ⟨gw,0,none⟩) y.wn cw (some ⟨gh,0,none⟩) y.hn ch)) (oQ0 k q v0)
  have b:=b1.trans (b2.mono b1.size)
  exact ⟨b.mono hB,(BoxC.new w _ _ _ _ _).below b2,by simpa using EvK.new (w.alloc (oQ4 (some ⟨gp,0,none⟩) y.pn cp (some ⟨gs,0,none⟩) y.sn cs (some ⟨gw,0,none⟩) y.wn cw (some ⟨gh,0,none⟩) y.hn ch)) k q v0 85,fun j hj _=>b.block j hj,_,up,us,uw,uh,(o.recol 0).below b,rcol_new (Nat.le_refl _),rcol_new (Nat.le_succ _),fun j hj=>rcol_old hj⟩
 clear o hO hk2 hk3 hw0 hs hh hw
 go_enter Tryz.func131,Tryz.ntmps131
 go_upto_region 1 with fail
 generalize (w.alloc (oQ4 (some ⟨gp,0,none⟩) y.pn cp (some ⟨gs,0,none⟩) y.sn cs (some ⟨gw,0,none⟩) y.wn cw (some ⟨gh,0,none⟩) y.hn ch)).alloc (oQ0 k q v0)=W2 at *
 obtain ⟨c9,up9,us9,uw9,uh9,o9,-,-,-⟩:=H0.out.ow
 obtain ⟨b0,b1,b2,b3⟩:=H0.out.bx
 obtain ⟨k0,k1,k2,kf⟩:=id H0.out.ev
 have m0:=H0.out.bx.ltM
 have mN:=H0.out.ev.lt
 obtain ⟨g9,k9,ew,-,lp,cellp,-⟩:=o9.p.cell hp
 simp only [Value.slice.injEq,Option.some.injEq,Addr.mk.injEq,and_true,true_and] at ew
 obtain ⟨rfl,rfl⟩:=ew
 obtain ⟨b9,cb9,eup,hb9,hI,-⟩:=atI (o9.p.own p hp) (o9.p.nn nzI p hp)
 rw [eup] at cellp
 obtain ⟨g9,k9,ew,-,ls,cels,fs⟩:=o9.s.cell hps
 simp only [Value.slice.injEq,Option.some.injEq,Addr.mk.injEq,and_true,true_and] at ew
 obtain ⟨rfl,rfl⟩:=ew
 obtain ⟨ra9,rc9,oa9,oc9,eus,s0,s1,s2,s3⟩:=cels
 have hsl:Sl W2 ra9 (y.sS p).rs/\Sl W2 oa9 (y.sS p).os:=by
  have h4:=o9.s.own p hps
  rw [eus] at h4
  exact ⟨h4.parts.1.slOf,h4.parts.2.1.slOf⟩
 clear eup eus
 refine wp_region_G (fun w'=>w'.cell? ⟨w.heap.size,0,none⟩=some (.slice (some ⟨gp,0,none⟩) y.pn cp)/\w'.cell? ⟨w.heap.size,1,none⟩=some (.slice (some ⟨gs,0,none⟩) y.sn cs)/\w'.cell? ⟨gp,p,none⟩=some (.slice (some ⟨b9,0,none⟩) (y.pL p) cb9)/\w'.cell? ⟨gs,p*4,none⟩=some (.int .i64 (y.sS p).p)/\w'.cell? ⟨gs,p*4+1,none⟩=some (.slice ra9 (y.sS p).rs.length rc9)/\w'.cell? ⟨gs,p*4+2,none⟩=some (.slice oa9 (y.sS p).os.length oc9)/\w'.cell? ⟨gs,p*4+3,none⟩=some (.int .i64 (y.sS p).c)/\w'.cell? ⟨w.heap.size+1,0,none⟩=some (.int .i64 k)/\w'.cell? ⟨w.heap.size+1,1,none⟩=some (.int .i64 q)/\w'.cell? ⟨w.heap.size+1,2,none⟩=some (.int .i64 v0)) (fun i=>i == 19) (by kernel_rfl) ?_
 have hHeld:(fun w'=>w'.cell? ⟨w.heap.size,0,none⟩=some (.slice (some ⟨gp,0,none⟩) y.pn cp)/\w'.cell? ⟨w.heap.size,1,none⟩=some (.slice (some ⟨gs,0,none⟩) y.sn cs)/\w'.cell? ⟨gp,p,none⟩=some (.slice (some ⟨b9,0,none⟩) (y.pL p) cb9)/\w'.cell? ⟨gs,p*4,none⟩=some (.int .i64 (y.sS p).p)/\w'.cell? ⟨gs,p*4+1,none⟩=some (.slice ra9 (y.sS p).rs.length rc9)/\w'.cell? ⟨gs,p*4+2,none⟩=some (.slice oa9 (y.sS p).os.length oc9)/\w'.cell? ⟨gs,p*4+3,none⟩=some (.int .i64 (y.sS p).c)/\w'.cell? ⟨w.heap.size+1,0,none⟩=some (.int .i64 k)/\w'.cell? ⟨w.heap.size+1,1,none⟩=some (.int .i64 q)/\w'.cell? ⟨w.heap.size+1,2,none⟩=some (.int .i64 v0)) W2.drew:=⟨b0,b1,cellp,s0,s1,s2,s3,k0,k1,k2⟩
 refine wpGT_of [0,1,2,3,4,5,6,7,8,9,10,11,12,13] ?_
 iterate 14 (refine wpGT_take rfl hHeld ?_;apply Exists.intro;refine ⟨fun wq hSw=>?_,?_⟩;(· ((try dsimp only at hSw);go_simp;try with_reducible rfl));(try simp only [Act.put,zE,zF,zH]))
 refine wpGT_nil ?_
 refine wpG_one 14 rfl (by kernel_rfl) (fun K hK=>?_)
 refine stepR_call rfl 184 _ _ rfl #[.slice (some ⟨b9,0,none⟩) (y.pL p) cb9,stV (y.sS p).p ra9 (y.sS p).rs.length rc9 oa9 (y.sS p).os.length oc9 (y.sS p).c,evV k q v0] (by simp [Act.eval]) (yC Tryz.func184 (by kernel_rfl) rfl) (doIn_any b9 0 (y.pL p) cb9 (y.pH p) (y.sS p).p (y.sS p).c ra9 oa9 rc9 oc9 (y.sS p).rs (y.sS p).os k q v0 W2.drew HLn.out.1 hb9 hI HLn.out.2.1 HLn.out.2.2 hsl.1 hsl.2 HP4.out) ?_
 rintro e w5 ⟨u5,rfl,o5,d5⟩
 refine ⟨_,rfl,?_⟩
 have HT:Hid (y.evt p k q v0=(y.setS p (doS (y.pH p) (y.pL p) (y.sS p).p (y.sS p).rs (y.sS p).os (y.sS p).c k q v0)).setH p (y.hL p+1) (fun i=>if i=y.hL p then ⟨k,q,v0⟩ else y.hH p i)):=rfl
 generalize doS (y.pH p) (y.pL p) (y.sS p).p (y.sS p).rs (y.sS p).os (y.sS p).c k q v0=T at o5 HT
 generalize doB (y.pH p) (y.pL p) (y.sS p).p (y.sS p).rs (y.sS p).os (y.sS p).c k q v0=tb
 obtain ⟨ra5,rc5,oa5,oc5,rfl,-,-⟩:=o5.read
 have q5:Below W2.heap.size W2 w5:=(Below.refl W2.heap.size W2).drew.trans d5
 have hc5:=(bcell q5).1
 have hHeld5:(fun w'=>w'.cell? ⟨w.heap.size,0,none⟩=some (.slice (some ⟨gp,0,none⟩) y.pn cp)/\w'.cell? ⟨w.heap.size,1,none⟩=some (.slice (some ⟨gs,0,none⟩) y.sn cs)/\w'.cell? ⟨gp,p,none⟩=some (.slice (some ⟨b9,0,none⟩) (y.pL p) cb9)/\w'.cell? ⟨gs,p*4,none⟩=some (.int .i64 (y.sS p).p)/\w'.cell? ⟨gs,p*4+1,none⟩=some (.slice ra9 (y.sS p).rs.length rc9)/\w'.cell? ⟨gs,p*4+2,none⟩=some (.slice oa9 (y.sS p).os.length oc9)/\w'.cell? ⟨gs,p*4+3,none⟩=some (.int .i64 (y.sS p).c)/\w'.cell? ⟨w.heap.size+1,0,none⟩=some (.int .i64 k)/\w'.cell? ⟨w.heap.size+1,1,none⟩=some (.int .i64 q)/\w'.cell? ⟨w.heap.size+1,2,none⟩=some (.int .i64 v0)) w5:=⟨(hc5 _ _ m0).trans b0,(hc5 _ _ m0).trans b1,(hc5 _ _ lp).trans cellp,(hc5 _ _ ls).trans s0,(hc5 _ _ ls).trans s1,(hc5 _ _ ls).trans s2,(hc5 _ _ ls).trans s3,(hc5 _ _ mN).trans k0,(hc5 _ _ mN).trans k1,(hc5 _ _ mN).trans k2⟩
 have hf5:∀ j,w5.frozen? ⟨gs,j,none⟩=false:=fun j=>((bcell q5).2 _ j ls).trans (fs j)
 have H1:Hid (Hp z w B c k q v0 (y.setS p T) (.slice (some ⟨gp,0,none⟩) y.pn cp) (.slice (some ⟨gs,0,none⟩) y.sn cs) (.slice (some ⟨gw,0,none⟩) y.wn cw) (.slice (some ⟨gh,0,none⟩) y.hn ch) ((((w5.setCell ⟨gs,p*4,none⟩ (.int .i64 T.p)).setCell ⟨gs,p*4+1,none⟩ (.slice ra5 T.rs.length rc5)).setCell ⟨gs,p*4+2,none⟩ (.slice oa5 T.os.length oc5)).setCell ⟨gs,p*4+3,none⟩ (.int .i64 T.c))):=H0.out.putS hB hps q5 (o5.mono (by simp))
 refine hK.out _ _ (fun _=>hHeld5) ?_
 clear hHeld
 have hHeld:=hHeld5
 clear hHeld5 hc5 d5
 clear hK K
 (try simp only [Act.put,zE,zF,zH])
 refine wpGT_of [15,16] ?_
 iterate 2 (refine wpGT_take rfl hHeld ?_;apply Exists.intro;refine ⟨fun wq hSw=>?_,?_⟩;(· ((try dsimp only at hSw);go_simp;try with_reducible rfl));(try simp only [Act.put,zE,zF,zH]))
 refine wpGT_nil ?_
 refine wpG_takeW 17 rfl (by kernel_rfl) (by kernel_rfl) (by kernel_rfl) (fun _ _ _ _ h=>h) (by rfl) ?_
 apply Exists.intro
 refine ⟨fun wq=>?_,?_⟩
 ·go_simp
  try with_reducible rfl
 (try simp only [Act.put,zE,zF,zH])
 refine wpG_take 18 rfl hHeld ?_
 apply Exists.intro
 refine ⟨fun wq hSw=>?_,?_⟩
 ·(try dsimp only at hSw)
  go_simp
  try with_reducible rfl
 (try simp only [Act.put,zE,zF,zH])
 refine wpG_one 19 rfl (by kernel_rfl) (fun K hK=>?_)
 obtain ⟨-,-,-,p0,p1,p2,p3,-⟩:=hHeld
 go_simp
 refine hK.out _ _ (fun h=>?_) ?_
 ·exact absurd h (by decide)
 clear hK K
 (try simp only [Act.put,zE,zF,zH])
 refine wpG_done (by kernel_rfl) ?_ _
 clear o9 hb9 hI hsl b0 b1 b2 b3 k0 k1 k2 kf m0 mN lp cellp ls fs s0 s1 s2 s3 q5 hf5 p0 p1 p2 p3 o5
 go_upto_region 2 with fail
 generalize ((((w5.setCell ⟨gs,p*4,none⟩ (.int .i64 T.p)).setCell ⟨gs,p*4+1,none⟩ (.slice ra5 T.rs.length rc5)).setCell ⟨gs,p*4+2,none⟩ (.slice oa5 T.os.length oc5)).setCell ⟨gs,p*4+3,none⟩ (.int .i64 T.c))=W3 at *
 clear H0
 obtain ⟨c9,up9,us9,uw9,uh9,o9,-,-,-⟩:=H1.out.ow
 obtain ⟨b0,b1,b2,b3⟩:=H1.out.bx
 obtain ⟨k0,k1,k2,kf⟩:=id H1.out.ev
 have m0:=H1.out.bx.ltM
 have mN:=H1.out.ev.lt
 have OH9:LE z W3 (Cl B c9 4) (.slice (some ⟨gh,0,none⟩) y.hn ch) y.hn uh9 y.hL y.hH:=o9.h
 obtain ⟨g9,k9,ew,-,lh,cellh,fh⟩:=OH9.cell hph
 simp only [Value.slice.injEq,Option.some.injEq,Addr.mk.injEq,and_true,true_and] at ew
 obtain ⟨rfl,rfl⟩:=ew
 clear OH9
 have HEq:Hid (∀ wx,Below W3.heap.size W3 wx->Calls Tryz.prog 185 #[sysV (some ⟨gp,0,none⟩) y.pn cp (some ⟨gs,0,none⟩) y.sn cs (some ⟨gw,0,none⟩) y.wn cw (some ⟨gh,0,none⟩) y.hn ch,.int .i64 p] wx fun e w'=>e=.returned (.agg #[.slice (adOf (uh9 p)) (y.hL p) (cpOf (uh9 p)),.int .i64 200])/\Below wx.heap.size wx w'):=fun wx hb=>by
  have h:=eventQueue_any _ p wx (o9.g.below hb) hph
  rw [o9.v] at h
  exact h
 have HWi:Hid (∀ wx,Below W3.heap.size W3 wx->Calls Tryz.prog 186 #[.agg #[.slice (adOf (uh9 p)) (y.hL p) (cpOf (uh9 p)),.int .i64 200],.agg #[.int .i64 k,.int .i64 q,.int .i64 v0]] wx fun e w'=>∃ v,e=.returned v/\w'.ownsRow wx.heap.size 85 3 v (y.hL p+1) (fE (fun i=>if i=y.hL p then ⟨k,q,v0⟩ else y.hH p i) (y.hL p+1))/\v≠.slice none 0 0/\Below wx.heap.size wx w'):=fun wx hb=>withEvent_own _ (y.hL p) _ 200 (y.hH p) ⟨k,q,v0⟩ wx (by omega) (srcE ((o9.g.below hb).hi p hph))
 refine wp_region_G (fun w'=>w'.cell? ⟨w.heap.size,0,none⟩=some (.slice (some ⟨gp,0,none⟩) y.pn cp)/\w'.cell? ⟨w.heap.size,1,none⟩=some (.slice (some ⟨gs,0,none⟩) y.sn cs)/\w'.cell? ⟨w.heap.size,2,none⟩=some (.slice (some ⟨gw,0,none⟩) y.wn cw)/\w'.cell? ⟨w.heap.size,3,none⟩=some (.slice (some ⟨gh,0,none⟩) y.hn ch)/\w'.cell? ⟨w.heap.size+1,0,none⟩=some (.int .i64 k)/\w'.cell? ⟨w.heap.size+1,1,none⟩=some (.int .i64 q)/\w'.cell? ⟨w.heap.size+1,2,none⟩=some (.int .i64 v0)/\w'.cell? ⟨gh,p,none⟩=some (uh9 p)) (fun i=>i == 9) (by kernel_rfl) ?_
 have hHeld:(fun w'=>w'.cell? ⟨w.heap.size,0,none⟩=some (.slice (some ⟨gp,0,none⟩) y.pn cp)/\w'.cell? ⟨w.heap.size,1,none⟩=some (.slice (some ⟨gs,0,none⟩) y.sn cs)/\w'.cell? ⟨w.heap.size,2,none⟩=some (.slice (some ⟨gw,0,none⟩) y.wn cw)/\w'.cell? ⟨w.heap.size,3,none⟩=some (.slice (some ⟨gh,0,none⟩) y.hn ch)/\w'.cell? ⟨w.heap.size+1,0,none⟩=some (.int .i64 k)/\w'.cell? ⟨w.heap.size+1,1,none⟩=some (.int .i64 q)/\w'.cell? ⟨w.heap.size+1,2,none⟩=some (.int .i64 v0)/\w'.cell? ⟨gh,p,none⟩=some (uh9 p)) W3.drew:=⟨b0,b1,b2,b3,k0,k1,k2,cellh⟩
 refine wpGT_of [0,1,2,3,4,6] ?_
 iterate 6 (refine wpGT_take rfl hHeld ?_;apply Exists.intro;refine ⟨fun wq hSw=>?_,?_⟩;(· ((try dsimp only at hSw);go_simp;try with_reducible rfl));(try simp only [Act.put,zE,zF,zH]))
 refine wpGT_nil ?_
 refine wpG_one 5 rfl (by kernel_rfl) (fun K hK=>?_)
 refine stepR_call rfl 185 _ _ rfl #[sysV (some ⟨gp,0,none⟩) y.pn cp (some ⟨gs,0,none⟩) y.sn cs (some ⟨gw,0,none⟩) y.wn cw (some ⟨gh,0,none⟩) y.hn ch,.int .i64 p] (by simp [Act.eval]) (yC Tryz.func185 (by kernel_rfl) rfl) (HEq.out W3.drew (Below.refl W3.heap.size W3).drew) ?_
 rintro e w5 ⟨rfl,d5⟩
 refine ⟨_,rfl,?_⟩
 have q5:Below W3.heap.size W3 w5:=(Below.refl W3.heap.size W3).drew.trans d5
 have hc5:=(bcell q5).1
 refine hK.out _ _ (fun _=>⟨(hc5 _ _ m0).trans b0,(hc5 _ _ m0).trans b1,(hc5 _ _ m0).trans b2,(hc5 _ _ m0).trans b3,(hc5 _ _ mN).trans k0,(hc5 _ _ mN).trans k1,(hc5 _ _ mN).trans k2,(hc5 _ _ lh).trans cellh⟩) ?_
 clear hc5 d5
 clear hK K
 (try simp only [Act.put,zE,zF,zH])
 refine wpG_one 7 rfl (by kernel_rfl) (fun K hK=>?_)
 refine stepR_call rfl 186 _ _ rfl #[.agg #[.slice (adOf (uh9 p)) (y.hL p) (cpOf (uh9 p)),.int .i64 200],.agg #[.int .i64 k,.int .i64 q,.int .i64 v0]] (by simp [Act.eval]) (yC Tryz.func186 (by kernel_rfl) rfl) (HWi.out w5 q5) ?_
 rintro e w6 ⟨v6,rfl,o6,n6,d6⟩
 refine ⟨_,rfl,?_⟩
 have q6:Below W3.heap.size W3 w6:=q5.trans (d6.mono q5.size)
 have hc6:=(bcell q6).1
 have hHeld6:(fun w'=>w'.cell? ⟨w.heap.size,0,none⟩=some (.slice (some ⟨gp,0,none⟩) y.pn cp)/\w'.cell? ⟨w.heap.size,1,none⟩=some (.slice (some ⟨gs,0,none⟩) y.sn cs)/\w'.cell? ⟨w.heap.size,2,none⟩=some (.slice (some ⟨gw,0,none⟩) y.wn cw)/\w'.cell? ⟨w.heap.size,3,none⟩=some (.slice (some ⟨gh,0,none⟩) y.hn ch)/\w'.cell? ⟨w.heap.size+1,0,none⟩=some (.int .i64 k)/\w'.cell? ⟨w.heap.size+1,1,none⟩=some (.int .i64 q)/\w'.cell? ⟨w.heap.size+1,2,none⟩=some (.int .i64 v0)/\w'.cell? ⟨gh,p,none⟩=some (uh9 p)) w6:=⟨(hc6 _ _ m0).trans b0,(hc6 _ _ m0).trans b1,(hc6 _ _ m0).trans b2,(hc6 _ _ m0).trans b3,(hc6 _ _ mN).trans k0,(hc6 _ _ mN).trans k1,(hc6 _ _ mN).trans k2,(hc6 _ _ lh).trans cellh⟩
 have hf6:∀ j,w6.frozen? ⟨gh,j,none⟩=false:=fun j=>((bcell q6).2 _ j lh).trans (fh j)
 obtain ⟨a6,c6,rfl⟩:=zW o6
 have H2:Hid (Hp z w B c k q v0 (y.evt p k q v0) (.slice (some ⟨gp,0,none⟩) y.pn cp) (.slice (some ⟨gs,0,none⟩) y.sn cs) (.slice (some ⟨gw,0,none⟩) y.wn cw) (.slice (some ⟨gh,0,none⟩) y.hn ch) (w6.setCell ⟨gh,p,none⟩ (.slice a6 (y.hL p+1) c6))):=by
  have h:=H1.out.putH hB hph q6 (o6.mono q5.size) n6
  show Hp z w B c k q v0 (y.evt p k q v0) (.slice (some ⟨gp,0,none⟩) y.pn cp) (.slice (some ⟨gs,0,none⟩) y.sn cs) (.slice (some ⟨gw,0,none⟩) y.wn cw) (.slice (some ⟨gh,0,none⟩) y.hn ch) _
  rw [HT.out]
  exact h
 refine hK.out _ _ (fun _=>hHeld6) ?_
 clear hHeld
 have hHeld:=hHeld6
 clear hHeld6 hc6 d6 o6 n6
 clear hK K
 (try simp only [Act.put,zE,zF,zH])
 refine wpG_take 8 rfl hHeld ?_
 apply Exists.intro
 refine ⟨fun wq hSw=>?_,?_⟩
 ·(try dsimp only at hSw)
  go_simp
  try with_reducible rfl
 (try simp only [Act.put,zE,zF,zH])
 refine wpG_one 9 rfl (by kernel_rfl) (fun K hK=>?_)
 have hcN:=hHeld.2.2.2.2.2.2.2
 have hfN:=hf6 p
 go_simp
 refine hK.out _ _ (fun h=>?_) ?_
 ·exact absurd h (by decide)
 clear hK K
 (try simp only [Act.put,zE,zF,zH])
 refine wpG_done (by kernel_rfl) ?_ _
 clear o9 b0 b1 b2 b3 k0 k1 k2 kf m0 mN lh cellh fh q5 q6 hf6 hcN hfN HEq HWi hHeld HT
 go_upto_region 3 with fail
 generalize w6.setCell ⟨gh,p,none⟩ (.slice a6 (y.hL p+1) c6)=W4 at *
 clear H1
 rcases zO (k == 2) with t2 | t2
 ·have hk:k=2:=by simpa using t2
  obtain ⟨g1,g2⟩:=HK2.out hk
  obtain ⟨r,rfl⟩:∃ r:Nat,q=r:=⟨q.toNat,by omega⟩
  have hr:r<y.pn:=by omega
  have hJ:p*y.pn+r<y.wn:=by rw [HN.out.2.2];exact way_lt hp hr
  have h12:y.wL (p*y.pn+r)<=12:=HWY.out p r hp hr
  have hr4:r<4:=by omega
  have hp4:p<4:=by omega
  have HY:Hid ((y.evt p k (r:Int) v0).way p k (r:Int) v0=(y.evt p k (r:Int) v0).setW (p*y.pn+r) (y.wL (p*y.pn+r)+1) (fun i=>if i=y.wL (p*y.pn+r) then ⟨false,v0⟩ else y.wH (p*y.pn+r) i)):=by
   show (y.evt p k (r:Int) v0).way p k (r:Int) v0=_
   rw [show (y.evt p k (r:Int) v0).way p k (r:Int) v0=(y.evt p k (r:Int) v0).way p 2 (r:Int) v0 by rw [hk],Sy.way_send]
   rfl
  have HNu0:∀ x:SysIn,x.pn=y.pn->∀ wx,Calls Tryz.prog 189 #[x.v,.int .i64 p,.int .i64 r] wx fun e w'=>e=.returned (.int .i64 (p*y.pn+r:Nat))/\Below wx.heap.size wx w':=fun x e wx=>by
   have h:=wayNumber_any x p r wx hp4 hr4 (by omega)
   rw [e] at h
   exact h
  have HQu0:∀ x:SysIn,x.pn=y.pn->∀ wx,SysG wx x->p*y.pn+r<x.wn->Calls Tryz.prog 187 #[x.v,.int .i64 p,.int .i64 r] wx fun e w'=>e=.returned (.agg #[.slice (x.wA (p*y.pn+r)) (x.wL (p*y.pn+r)) (x.wC (p*y.pn+r)),.int .i64 12])/\Below wx.heap.size wx w':=fun x e wx hg hw=>by
   have h:=wayQueue_any x p r wx hg hp4 hr4 (by omega) (by rw [e];exact hw)
   rw [e] at h
   exact h
  generalize p*y.pn+r=J at *
  have hJ':(J:Int)<(y.wn:Int):=by omega
  obtain ⟨c9,up9,us9,uw9,uh9,o9,-,-,-⟩:=H2.out.ow
  obtain ⟨b0,b1,b2,b3⟩:=H2.out.bx
  obtain ⟨k0,k1,k2,kf⟩:=id H2.out.ev
  have m0:=H2.out.bx.ltM
  have mN:=H2.out.ev.lt
  have OT9:LT z W4 (Cl B c9 3) (.slice (some ⟨gw,0,none⟩) y.wn cw) y.wn uw9 y.wL y.wH:=o9.t
  obtain ⟨g9,k9,ew,-,lw,cellw,fw⟩:=OT9.cell hJ
  simp only [Value.slice.injEq,Option.some.injEq,Addr.mk.injEq,and_true,true_and] at ew
  obtain ⟨rfl,rfl⟩:=ew
  have HNu:Hid (∀ wx,Calls Tryz.prog 189 #[sysV (some ⟨gp,0,none⟩) y.pn cp (some ⟨gs,0,none⟩) y.sn cs (some ⟨gw,0,none⟩) y.wn cw (some ⟨gh,0,none⟩) y.hn ch,.int .i64 p,.int .i64 r] wx fun e w'=>e=.returned (.int .i64 (J:Nat))/\Below wx.heap.size wx w'):=fun wx=>by
   have h:=HNu0 ((y.evt p k (r:Int) v0).sysIn (.slice (some ⟨gp,0,none⟩) y.pn cp) (.slice (some ⟨gs,0,none⟩) y.sn cs) (.slice (some ⟨gw,0,none⟩) y.wn cw) (.slice (some ⟨gh,0,none⟩) y.hn ch) up9 us9 uw9 uh9) rfl wx
   rw [o9.v] at h
   exact h
  have HQu:Hid (∀ wx,Below W4.heap.size W4 wx->Calls Tryz.prog 187 #[sysV (some ⟨gp,0,none⟩) y.pn cp (some ⟨gs,0,none⟩) y.sn cs (some ⟨gw,0,none⟩) y.wn cw (some ⟨gh,0,none⟩) y.hn ch,.int .i64 p,.int .i64 r] wx fun e w'=>e=.returned (.agg #[.slice (adOf (uw9 J)) (y.wL J) (cpOf (uw9 J)),.int .i64 12])/\Below wx.heap.size wx w'):=fun wx hb=>by
   have h:=HQu0 ((y.evt p k (r:Int) v0).sysIn (.slice (some ⟨gp,0,none⟩) y.pn cp) (.slice (some ⟨gs,0,none⟩) y.sn cs) (.slice (some ⟨gw,0,none⟩) y.wn cw) (.slice (some ⟨gh,0,none⟩) y.hn ch) up9 us9 uw9 uh9) rfl wx (o9.g.below hb) hJ
   rw [o9.v] at h
   exact h
  have HWi:Hid (∀ wx,Below W4.heap.size W4 wx->Calls Tryz.prog 188 #[.agg #[.slice (adOf (uw9 J)) (y.wL J) (cpOf (uw9 J)),.int .i64 12],.agg #[.bool false,.int .i64 v0]] wx fun e w'=>∃ a c,e=.returned (.slice a (y.wL J+1) c)/\w'.ownsRow wx.heap.size 131 2 (.slice a (y.wL J+1) c) (y.wL J+1) (fT (fun i=>if i=y.wL J then ⟨false,v0⟩ else y.wH J i) (y.wL J+1))/\Value.slice a (y.wL J+1) c≠.slice none 0 0/\Below wx.heap.size wx w'):=fun wx hb=>(withItem_own _ (y.wL J) _ 12 (y.wH J) ⟨false,v0⟩ wx (by omega) (srcT ((o9.g.below hb).wi J hJ))).mono fun e w' ⟨v,e1,e2,e3,e4⟩=>by
   obtain ⟨a,c,rfl⟩:=zW e2
   exact ⟨a,c,e1,e2,e3,e4⟩
  clear HNu0 HQu0 o9 OT9 hk
  go_upto_region 5 with fail
  refine wp_region_G (fun w'=>w'.cell? ⟨w.heap.size,0,none⟩=some (.slice (some ⟨gp,0,none⟩) y.pn cp)/\w'.cell? ⟨w.heap.size,1,none⟩=some (.slice (some ⟨gs,0,none⟩) y.sn cs)/\w'.cell? ⟨w.heap.size,2,none⟩=some (.slice (some ⟨gw,0,none⟩) y.wn cw)/\w'.cell? ⟨w.heap.size,3,none⟩=some (.slice (some ⟨gh,0,none⟩) y.hn ch)/\w'.cell? ⟨w.heap.size+1,1,none⟩=some (.int .i64 (r:Int))/\w'.cell? ⟨w.heap.size+1,2,none⟩=some (.int .i64 v0)/\w'.cell? ⟨gw,J,none⟩=some (uw9 J)) (fun i=>i == 17) (by kernel_rfl) ?_
  have hHeld:(fun w'=>w'.cell? ⟨w.heap.size,0,none⟩=some (.slice (some ⟨gp,0,none⟩) y.pn cp)/\w'.cell? ⟨w.heap.size,1,none⟩=some (.slice (some ⟨gs,0,none⟩) y.sn cs)/\w'.cell? ⟨w.heap.size,2,none⟩=some (.slice (some ⟨gw,0,none⟩) y.wn cw)/\w'.cell? ⟨w.heap.size,3,none⟩=some (.slice (some ⟨gh,0,none⟩) y.hn ch)/\w'.cell? ⟨w.heap.size+1,1,none⟩=some (.int .i64 (r:Int))/\w'.cell? ⟨w.heap.size+1,2,none⟩=some (.int .i64 v0)/\w'.cell? ⟨gw,J,none⟩=some (uw9 J)) W4.drew:=⟨b0,b1,b2,b3,k1,k2,cellw⟩
  have q0:Below W4.heap.size W4 W4.drew:=(Below.refl W4.heap.size W4).drew
  refine wpGT_of [0,1,2,3,4,5,7,8,9,10,12,13,14] ?_
  iterate 13 (refine wpGT_take rfl hHeld ?_;apply Exists.intro;refine ⟨fun wq hSw=>?_,?_⟩;(· ((try dsimp only at hSw);go_simp;try with_reducible rfl));(try simp only [Act.put,zE,zF,zH]))
  refine wpGT_nil ?_
  refine wpG_one 6 rfl (by kernel_rfl) (fun K hK=>?_)
  refine stepR_call rfl 189 _ _ rfl #[sysV (some ⟨gp,0,none⟩) y.pn cp (some ⟨gs,0,none⟩) y.sn cs (some ⟨gw,0,none⟩) y.wn cw (some ⟨gh,0,none⟩) y.hn ch,.int .i64 (p:Nat),.int .i64 (r:Nat)] (by simp [Act.eval]) (yC Tryz.func189 (by kernel_rfl) rfl) (HNu.out W4.drew) ?_
  rintro e wa ⟨rfl,d5⟩
  refine ⟨_,rfl,?_⟩
  have qwa:Below W4.heap.size W4 wa:=q0.trans (d5.mono q0.size)
  have hcwa:=(bcell qwa).1
  have hHeldwa:(fun w'=>w'.cell? ⟨w.heap.size,0,none⟩=some (.slice (some ⟨gp,0,none⟩) y.pn cp)/\w'.cell? ⟨w.heap.size,1,none⟩=some (.slice (some ⟨gs,0,none⟩) y.sn cs)/\w'.cell? ⟨w.heap.size,2,none⟩=some (.slice (some ⟨gw,0,none⟩) y.wn cw)/\w'.cell? ⟨w.heap.size,3,none⟩=some (.slice (some ⟨gh,0,none⟩) y.hn ch)/\w'.cell? ⟨w.heap.size+1,1,none⟩=some (.int .i64 (r:Int))/\w'.cell? ⟨w.heap.size+1,2,none⟩=some (.int .i64 v0)/\w'.cell? ⟨gw,J,none⟩=some (uw9 J)) wa:=⟨(hcwa _ _ m0).trans b0,(hcwa _ _ m0).trans b1,(hcwa _ _ m0).trans b2,(hcwa _ _ m0).trans b3,(hcwa _ _ mN).trans k1,(hcwa _ _ mN).trans k2,(hcwa _ _ lw).trans cellw⟩
  refine hK.out _ _ (fun _=>hHeldwa) ?_
  clear hK K d5
  (try simp only [Act.put,zE,zF,zH])
  refine wpG_one 11 rfl (by kernel_rfl) (fun K hK=>?_)
  refine stepR_call rfl 187 _ _ rfl #[sysV (some ⟨gp,0,none⟩) y.pn cp (some ⟨gs,0,none⟩) y.sn cs (some ⟨gw,0,none⟩) y.wn cw (some ⟨gh,0,none⟩) y.hn ch,.int .i64 (p:Nat),.int .i64 (r:Nat)] (by simp [Act.eval]) (yC Tryz.func187 (by kernel_rfl) rfl) (HQu.out wa qwa) ?_
  rintro e wb ⟨rfl,d5⟩
  refine ⟨_,rfl,?_⟩
  have qwb:Below W4.heap.size W4 wb:=qwa.trans (d5.mono qwa.size)
  have hcwb:=(bcell qwb).1
  have hHeldwb:(fun w'=>w'.cell? ⟨w.heap.size,0,none⟩=some (.slice (some ⟨gp,0,none⟩) y.pn cp)/\w'.cell? ⟨w.heap.size,1,none⟩=some (.slice (some ⟨gs,0,none⟩) y.sn cs)/\w'.cell? ⟨w.heap.size,2,none⟩=some (.slice (some ⟨gw,0,none⟩) y.wn cw)/\w'.cell? ⟨w.heap.size,3,none⟩=some (.slice (some ⟨gh,0,none⟩) y.hn ch)/\w'.cell? ⟨w.heap.size+1,1,none⟩=some (.int .i64 (r:Int))/\w'.cell? ⟨w.heap.size+1,2,none⟩=some (.int .i64 v0)/\w'.cell? ⟨gw,J,none⟩=some (uw9 J)) wb:=⟨(hcwb _ _ m0).trans b0,(hcwb _ _ m0).trans b1,(hcwb _ _ m0).trans b2,(hcwb _ _ m0).trans b3,(hcwb _ _ mN).trans k1,(hcwb _ _ mN).trans k2,(hcwb _ _ lw).trans cellw⟩
  refine hK.out _ _ (fun _=>hHeldwb) ?_
  clear hK K d5
  (try simp only [Act.put,zE,zF,zH])
  refine wpG_one 15 rfl (by kernel_rfl) (fun K hK=>?_)
  refine stepR_call rfl 188 _ _ rfl #[.agg #[.slice (adOf (uw9 J)) (y.wL J) (cpOf (uw9 J)),.int .i64 12],.agg #[.bool false,.int .i64 v0]] (by simp [Act.eval]) (yC Tryz.func188 (by kernel_rfl) rfl) (HWi.out wb qwb) ?_
  rintro e wd ⟨a6,c6,rfl,o6,n6,d6⟩
  refine ⟨_,rfl,?_⟩
  have qwd:Below W4.heap.size W4 wd:=qwb.trans (d6.mono qwb.size)
  have hcwd:=(bcell qwd).1
  have hHeldwd:(fun w'=>w'.cell? ⟨w.heap.size,0,none⟩=some (.slice (some ⟨gp,0,none⟩) y.pn cp)/\w'.cell? ⟨w.heap.size,1,none⟩=some (.slice (some ⟨gs,0,none⟩) y.sn cs)/\w'.cell? ⟨w.heap.size,2,none⟩=some (.slice (some ⟨gw,0,none⟩) y.wn cw)/\w'.cell? ⟨w.heap.size,3,none⟩=some (.slice (some ⟨gh,0,none⟩) y.hn ch)/\w'.cell? ⟨w.heap.size+1,1,none⟩=some (.int .i64 (r:Int))/\w'.cell? ⟨w.heap.size+1,2,none⟩=some (.int .i64 v0)/\w'.cell? ⟨gw,J,none⟩=some (uw9 J)) wd:=⟨(hcwd _ _ m0).trans b0,(hcwd _ _ m0).trans b1,(hcwd _ _ m0).trans b2,(hcwd _ _ m0).trans b3,(hcwd _ _ mN).trans k1,(hcwd _ _ mN).trans k2,(hcwd _ _ lw).trans cellw⟩
  replace o6:=o6.mono qwb.size
  have hfw:∀ j,wd.frozen? ⟨gw,j,none⟩=false:=fun j=>((bcell qwd).2 _ j lw).trans (fw j)
  have H3:Hid (Hp z w B c k (r:Int) v0 ((y.evt p k (r:Int) v0).setW J (y.wL J+1) (fun i=>if i=y.wL J then ⟨false,v0⟩ else y.wH J i)) (.slice (some ⟨gp,0,none⟩) y.pn cp) (.slice (some ⟨gs,0,none⟩) y.sn cs) (.slice (some ⟨gw,0,none⟩) y.wn cw) (.slice (some ⟨gh,0,none⟩) y.hn ch) (wd.setCell ⟨gw,J,none⟩ (.slice a6 (y.wL J+1) c6))):=H2.out.putW hB hJ qwd o6 n6
  refine hK.out _ _ (fun _=>hHeldwd) ?_
  clear hHeld
  have hHeld:=hHeldwd
  clear hK K
  (try simp only [Act.put,zE,zF,zH])
  refine wpG_take 16 rfl hHeld ?_
  apply Exists.intro
  refine ⟨fun wq hSw=>?_,?_⟩
  ·(try dsimp only at hSw)
   go_simp
   try with_reducible rfl
  (try simp only [Act.put,zE,zF,zH])
  refine wpG_one 17 rfl (by kernel_rfl) (fun K hK=>?_)
  have hcN:=hHeld.2.2.2.2.2.2
  have hfN:=hfw J
  go_simp
  refine hK.out _ _ (fun h=>?_) ?_
  ·exact absurd h (by decide)
  clear hK K
  (try simp only [Act.put,zE,zF,zH])
  refine wpG_done (by kernel_rfl) ?_ _
  clear hcN hfN hHeld hfw
  go_wp2_with fail
  go_end0
  exact ⟨rfl, H3.out.be, H3.out.kp, by
   rw [HY.out]
   exact H3.out.ownK⟩
 rcases zO (k == 3) with t3 | t3
 ·have hk:k=3:=by simpa using t3
  obtain ⟨g1,g2,g3⟩:=HK3.out hk
  obtain ⟨r,rfl⟩:∃ r:Nat,q=r:=⟨q.toNat,by omega⟩
  rw [Int.toNat_natCast] at g3
  have hr:r<y.pn:=by omega
  have hJ:r*y.pn+p<y.wn:=by rw [HN.out.2.2];exact way_lt hr hp
  have h12:y.wL (r*y.pn+p)<=12:=HWY.out r p hr hp
  have hr4:r<4:=by omega
  have hp4:p<4:=by omega
  have HY:Hid ((y.evt p k (r:Int) v0).way p k (r:Int) v0=(y.evt p k (r:Int) v0).setW (r*y.pn+p) (y.wL (r*y.pn+p) - 1) (fun i=>y.wH (r*y.pn+p) (i+1))):=by
   show (y.evt p k (r:Int) v0).way p k (r:Int) v0=_
   rw [show (y.evt p k (r:Int) v0).way p k (r:Int) v0=(y.evt p k (r:Int) v0).way p 3 (r:Int) v0 by rw [hk],Sy.way_take]
   rfl
  have HNu0:∀ x:SysIn,x.pn=y.pn->∀ wx,Calls Tryz.prog 189 #[x.v,.int .i64 r,.int .i64 p] wx fun e w'=>e=.returned (.int .i64 (r*y.pn+p:Nat))/\Below wx.heap.size wx w':=fun x e wx=>by
   have h:=wayNumber_any x r p wx hr4 hp4 (by omega)
   rw [e] at h
   exact h
  have HQu0:∀ x:SysIn,x.pn=y.pn->∀ wx,SysG wx x->r*y.pn+p<x.wn->Calls Tryz.prog 187 #[x.v,.int .i64 r,.int .i64 p] wx fun e w'=>e=.returned (.agg #[.slice (x.wA (r*y.pn+p)) (x.wL (r*y.pn+p)) (x.wC (r*y.pn+p)),.int .i64 12])/\Below wx.heap.size wx w':=fun x e wx hg hw=>by
   have h:=wayQueue_any x r p wx hg hr4 hp4 (by omega) (by rw [e];exact hw)
   rw [e] at h
   exact h
  generalize r*y.pn+p=J at *
  have hJ':(J:Int)<(y.wn:Int):=by omega
  obtain ⟨c9,up9,us9,uw9,uh9,o9,-,-,-⟩:=H2.out.ow
  obtain ⟨b0,b1,b2,b3⟩:=H2.out.bx
  obtain ⟨k0,k1,k2,kf⟩:=id H2.out.ev
  have m0:=H2.out.bx.ltM
  have mN:=H2.out.ev.lt
  have OT9:LT z W4 (Cl B c9 3) (.slice (some ⟨gw,0,none⟩) y.wn cw) y.wn uw9 y.wL y.wH:=o9.t
  obtain ⟨g9,k9,ew,-,lw,cellw,fw⟩:=OT9.cell hJ
  simp only [Value.slice.injEq,Option.some.injEq,Addr.mk.injEq,and_true,true_and] at ew
  obtain ⟨rfl,rfl⟩:=ew
  obtain ⟨bw,cbw,euw,hbw,hIt,hcapw⟩:=atT (OT9.own J hJ) ((nil_or (OT9.own J hJ)).resolve_left (by omega))
  have hcm:cbw<=maxLen:=by
   have h:=OT9.own J hJ
   rw [euw] at h
   exact ownsRow_cap h
  have HNu:Hid (∀ wx,Calls Tryz.prog 189 #[sysV (some ⟨gp,0,none⟩) y.pn cp (some ⟨gs,0,none⟩) y.sn cs (some ⟨gw,0,none⟩) y.wn cw (some ⟨gh,0,none⟩) y.hn ch,.int .i64 r,.int .i64 p] wx fun e w'=>e=.returned (.int .i64 (J:Nat))/\Below wx.heap.size wx w'):=fun wx=>by
   have h:=HNu0 ((y.evt p k (r:Int) v0).sysIn (.slice (some ⟨gp,0,none⟩) y.pn cp) (.slice (some ⟨gs,0,none⟩) y.sn cs) (.slice (some ⟨gw,0,none⟩) y.wn cw) (.slice (some ⟨gh,0,none⟩) y.hn ch) up9 us9 uw9 uh9) rfl wx
   rw [o9.v] at h
   exact h
  have HQu:Hid (∀ wx,Below W4.heap.size W4 wx->Calls Tryz.prog 187 #[sysV (some ⟨gp,0,none⟩) y.pn cp (some ⟨gs,0,none⟩) y.sn cs (some ⟨gw,0,none⟩) y.wn cw (some ⟨gh,0,none⟩) y.hn ch,.int .i64 r,.int .i64 p] wx fun e w'=>e=.returned (.agg #[.slice (some ⟨bw,0,none⟩) (y.wL J) cbw,.int .i64 12])/\Below wx.heap.size wx w'):=fun wx hb=>by
   have h:=HQu0 ((y.evt p k (r:Int) v0).sysIn (.slice (some ⟨gp,0,none⟩) y.pn cp) (.slice (some ⟨gs,0,none⟩) y.sn cs) (.slice (some ⟨gw,0,none⟩) y.wn cw) (.slice (some ⟨gh,0,none⟩) y.hn ch) up9 us9 uw9 uh9) rfl wx (o9.g.below hb) hJ
   rw [o9.v] at h
   refine h.mono fun e w' hh=>⟨hh.1.trans ?_,hh.2⟩
   show Ending.returned (.agg #[.slice (adOf (uw9 J)) (y.wL J) (cpOf (uw9 J)),.int .i64 12])=_
   rw [euw]
   rfl
  have HWi:Hid (∀ wx,Below W4.heap.size W4 wx->Calls Tryz.prog 190 #[.agg #[.slice (some ⟨bw,0,none⟩) (y.wL J) cbw,.int .i64 12]] wx fun e w'=>∃ a c,e=.returned (.slice a (y.wL J - 1) c)/\w'.ownsRow wx.heap.size 131 2 (.slice a (y.wL J - 1) c) (y.wL J - 1) (fT (fun i=>y.wH J (i+1)) (y.wL J - 1))/\Value.slice a (y.wL J - 1) c≠.slice none 0 0/\Below wx.heap.size wx w'):=fun wx hb=>restItem_own bw (y.wL J) cbw 12 (y.wH J) wx (by omega) (by omega) hcapw hcm (zP hbw hb.size) (hIt.below hb hbw)
  clear HNu0 HQu0 o9 OT9 hk hIt
  go_upto_region 7 with fail
  refine wp_region_G (fun w'=>w'.cell? ⟨w.heap.size,0,none⟩=some (.slice (some ⟨gp,0,none⟩) y.pn cp)/\w'.cell? ⟨w.heap.size,1,none⟩=some (.slice (some ⟨gs,0,none⟩) y.sn cs)/\w'.cell? ⟨w.heap.size,2,none⟩=some (.slice (some ⟨gw,0,none⟩) y.wn cw)/\w'.cell? ⟨w.heap.size,3,none⟩=some (.slice (some ⟨gh,0,none⟩) y.hn ch)/\w'.cell? ⟨w.heap.size+1,1,none⟩=some (.int .i64 (r:Int))/\w'.cell? ⟨w.heap.size+1,2,none⟩=some (.int .i64 v0)/\w'.cell? ⟨gw,J,none⟩=some (uw9 J)) (fun i=>i == 14) (by kernel_rfl) ?_
  have hHeld:(fun w'=>w'.cell? ⟨w.heap.size,0,none⟩=some (.slice (some ⟨gp,0,none⟩) y.pn cp)/\w'.cell? ⟨w.heap.size,1,none⟩=some (.slice (some ⟨gs,0,none⟩) y.sn cs)/\w'.cell? ⟨w.heap.size,2,none⟩=some (.slice (some ⟨gw,0,none⟩) y.wn cw)/\w'.cell? ⟨w.heap.size,3,none⟩=some (.slice (some ⟨gh,0,none⟩) y.hn ch)/\w'.cell? ⟨w.heap.size+1,1,none⟩=some (.int .i64 (r:Int))/\w'.cell? ⟨w.heap.size+1,2,none⟩=some (.int .i64 v0)/\w'.cell? ⟨gw,J,none⟩=some (uw9 J)) W4.drew:=⟨b0,b1,b2,b3,k1,k2,cellw⟩
  have q0:Below W4.heap.size W4 W4.drew:=(Below.refl W4.heap.size W4).drew
  refine wpGT_of [0,1,2,3,4,5,7,8,9,10] ?_
  iterate 10 (refine wpGT_take rfl hHeld ?_;apply Exists.intro;refine ⟨fun wq hSw=>?_,?_⟩;(· ((try dsimp only at hSw);go_simp;try with_reducible rfl));(try simp only [Act.put,zE,zF,zH]))
  refine wpGT_nil ?_
  refine wpG_one 6 rfl (by kernel_rfl) (fun K hK=>?_)
  refine stepR_call rfl 189 _ _ rfl #[sysV (some ⟨gp,0,none⟩) y.pn cp (some ⟨gs,0,none⟩) y.sn cs (some ⟨gw,0,none⟩) y.wn cw (some ⟨gh,0,none⟩) y.hn ch,.int .i64 (r:Nat),.int .i64 (p:Nat)] (by simp [Act.eval]) (yC Tryz.func189 (by kernel_rfl) rfl) (HNu.out W4.drew) ?_
  rintro e wa ⟨rfl,d5⟩
  refine ⟨_,rfl,?_⟩
  have qwa:Below W4.heap.size W4 wa:=q0.trans (d5.mono q0.size)
  have hcwa:=(bcell qwa).1
  have hHeldwa:(fun w'=>w'.cell? ⟨w.heap.size,0,none⟩=some (.slice (some ⟨gp,0,none⟩) y.pn cp)/\w'.cell? ⟨w.heap.size,1,none⟩=some (.slice (some ⟨gs,0,none⟩) y.sn cs)/\w'.cell? ⟨w.heap.size,2,none⟩=some (.slice (some ⟨gw,0,none⟩) y.wn cw)/\w'.cell? ⟨w.heap.size,3,none⟩=some (.slice (some ⟨gh,0,none⟩) y.hn ch)/\w'.cell? ⟨w.heap.size+1,1,none⟩=some (.int .i64 (r:Int))/\w'.cell? ⟨w.heap.size+1,2,none⟩=some (.int .i64 v0)/\w'.cell? ⟨gw,J,none⟩=some (uw9 J)) wa:=⟨(hcwa _ _ m0).trans b0,(hcwa _ _ m0).trans b1,(hcwa _ _ m0).trans b2,(hcwa _ _ m0).trans b3,(hcwa _ _ mN).trans k1,(hcwa _ _ mN).trans k2,(hcwa _ _ lw).trans cellw⟩
  refine hK.out _ _ (fun _=>hHeldwa) ?_
  clear hK K d5
  (try simp only [Act.put,zE,zF,zH])
  refine wpG_one 11 rfl (by kernel_rfl) (fun K hK=>?_)
  refine stepR_call rfl 187 _ _ rfl #[sysV (some ⟨gp,0,none⟩) y.pn cp (some ⟨gs,0,none⟩) y.sn cs (some ⟨gw,0,none⟩) y.wn cw (some ⟨gh,0,none⟩) y.hn ch,.int .i64 (r:Nat),.int .i64 (p:Nat)] (by simp [Act.eval]) (yC Tryz.func187 (by kernel_rfl) rfl) (HQu.out wa qwa) ?_
  rintro e wb ⟨rfl,d5⟩
  refine ⟨_,rfl,?_⟩
  have qwb:Below W4.heap.size W4 wb:=qwa.trans (d5.mono qwa.size)
  have hcwb:=(bcell qwb).1
  have hHeldwb:(fun w'=>w'.cell? ⟨w.heap.size,0,none⟩=some (.slice (some ⟨gp,0,none⟩) y.pn cp)/\w'.cell? ⟨w.heap.size,1,none⟩=some (.slice (some ⟨gs,0,none⟩) y.sn cs)/\w'.cell? ⟨w.heap.size,2,none⟩=some (.slice (some ⟨gw,0,none⟩) y.wn cw)/\w'.cell? ⟨w.heap.size,3,none⟩=some (.slice (some ⟨gh,0,none⟩) y.hn ch)/\w'.cell? ⟨w.heap.size+1,1,none⟩=some (.int .i64 (r:Int))/\w'.cell? ⟨w.heap.size+1,2,none⟩=some (.int .i64 v0)/\w'.cell? ⟨gw,J,none⟩=some (uw9 J)) wb:=⟨(hcwb _ _ m0).trans b0,(hcwb _ _ m0).trans b1,(hcwb _ _ m0).trans b2,(hcwb _ _ m0).trans b3,(hcwb _ _ mN).trans k1,(hcwb _ _ mN).trans k2,(hcwb _ _ lw).trans cellw⟩
  refine hK.out _ _ (fun _=>hHeldwb) ?_
  clear hK K d5
  (try simp only [Act.put,zE,zF,zH])
  refine wpG_one 12 rfl (by kernel_rfl) (fun K hK=>?_)
  refine stepR_call rfl 190 _ _ rfl #[.agg #[.slice (some ⟨bw,0,none⟩) (y.wL J) cbw,.int .i64 12]] (by simp [Act.eval]) (yC Tryz.func190 (by kernel_rfl) rfl) (HWi.out wb qwb) ?_
  rintro e wd ⟨a6,c6,rfl,o6,n6,d6⟩
  refine ⟨_,rfl,?_⟩
  have qwd:Below W4.heap.size W4 wd:=qwb.trans (d6.mono qwb.size)
  have hcwd:=(bcell qwd).1
  have hHeldwd:(fun w'=>w'.cell? ⟨w.heap.size,0,none⟩=some (.slice (some ⟨gp,0,none⟩) y.pn cp)/\w'.cell? ⟨w.heap.size,1,none⟩=some (.slice (some ⟨gs,0,none⟩) y.sn cs)/\w'.cell? ⟨w.heap.size,2,none⟩=some (.slice (some ⟨gw,0,none⟩) y.wn cw)/\w'.cell? ⟨w.heap.size,3,none⟩=some (.slice (some ⟨gh,0,none⟩) y.hn ch)/\w'.cell? ⟨w.heap.size+1,1,none⟩=some (.int .i64 (r:Int))/\w'.cell? ⟨w.heap.size+1,2,none⟩=some (.int .i64 v0)/\w'.cell? ⟨gw,J,none⟩=some (uw9 J)) wd:=⟨(hcwd _ _ m0).trans b0,(hcwd _ _ m0).trans b1,(hcwd _ _ m0).trans b2,(hcwd _ _ m0).trans b3,(hcwd _ _ mN).trans k1,(hcwd _ _ mN).trans k2,(hcwd _ _ lw).trans cellw⟩
  replace o6:=o6.mono qwb.size
  have hfw:∀ j,wd.frozen? ⟨gw,j,none⟩=false:=fun j=>((bcell qwd).2 _ j lw).trans (fw j)
  have H3:Hid (Hp z w B c k (r:Int) v0 ((y.evt p k (r:Int) v0).setW J (y.wL J - 1) (fun i=>y.wH J (i+1))) (.slice (some ⟨gp,0,none⟩) y.pn cp) (.slice (some ⟨gs,0,none⟩) y.sn cs) (.slice (some ⟨gw,0,none⟩) y.wn cw) (.slice (some ⟨gh,0,none⟩) y.hn ch) (wd.setCell ⟨gw,J,none⟩ (.slice a6 (y.wL J - 1) c6))):=H2.out.putW hB hJ qwd o6 n6
  refine hK.out _ _ (fun _=>hHeldwd) ?_
  clear hHeld
  have hHeld:=hHeldwd
  clear hK K
  (try simp only [Act.put,zE,zF,zH])
  refine wpG_take 13 rfl hHeld ?_
  apply Exists.intro
  refine ⟨fun wq hSw=>?_,?_⟩
  ·(try dsimp only at hSw)
   go_simp
   try with_reducible rfl
  (try simp only [Act.put,zE,zF,zH])
  refine wpG_one 14 rfl (by kernel_rfl) (fun K hK=>?_)
  have hcN:=hHeld.2.2.2.2.2.2
  have hfN:=hfw J
  go_simp
  refine hK.out _ _ (fun h=>?_) ?_
  ·exact absurd h (by decide)
  clear hK K
  (try simp only [Act.put,zE,zF,zH])
  refine wpG_done (by kernel_rfl) ?_ _
  clear hcN hfN hHeld hfw
  go_wp2_with fail
  go_end0
  exact ⟨rfl, H3.out.be, H3.out.kp, by
   rw [HY.out]
   exact H3.out.ownK⟩
 ·have hk2:k≠2:=by simpa using t2
  have hk3:k≠3:=by simpa using t3
  have HY:Hid ((y.evt p k q v0).way p k q v0=y.evt p k q v0):=Sy.way_no _ p hk2 hk3 q v0
  obtain ⟨k0,k1,k2,kf⟩:=H2.out.ev
  clear hk2 hk3
  go_wp2_with fail
  go_end0
  exact ⟨rfl, H2.out.be, H2.out.kp, by
   rw [HY.out]
   exact H2.out.ownK⟩
variable {z:Bool}
theorem cm_take {y:Sy} {p:Nat} {f:Int} (h:cmS y p f=0) (hk:y.nk p=3):tkS y p (y.eq p f)=0:=by
 unfold cmS at h
 rw [Sy.eq,if_pos hk]
 by_cases h1:(y.sS p).c≠0
 ·rw [if_pos h1] at h
  cases h
 ·rw [if_neg h1] at h
  by_cases h2:fuS y p (y.nk p) (y.nq p)=true
  ·rw [if_pos h2] at h
   cases h
  ·rw [if_neg h2,if_pos hk] at h
   exact h
theorem tk_zero {y:Sy} {p:Nat} {g:Int} (h:tkS y p g=0):0<=g/\g<y.pn/\0<y.wL (g.toNat*y.pn+p):=by
 unfold tkS at h
 by_cases h1:belB g y.pn=true
 ·rw [if_pos h1] at h
  simp only [belB,decide_eq_true_eq] at h1
  refine ⟨h1.1,h1.2,?_⟩
  rcases Nat.eq_zero_or_pos (y.wL (g.toNat*y.pn+p)) with e | e
  ·rw [if_pos e] at h
   cases h
  ·exact e
 ·rw [if_neg h1] at h
  cases h
theorem cmV_step {x:SysIn} {p:Nat} {f:Int} (h:cmS x.y p f=0):cmV x p f=evV (x.y.nk p) (x.y.eq p f) (x.y.ev p f):=by
 have hc:cmC x p f=0:=h
 unfold cmV
 rw [if_pos hc]
 by_cases hk:x.nk p=3
 ·have ht:tkS x.y p (x.y.eq p f)=0:=cm_take h hk
  have e:x.y.eq p f=if x.nq p=9 then f else x.nq p:=if_pos hk
  have e2:x.y.ev p f=(x.y.wH ((x.y.eq p f).toNat*x.y.pn+p) 0).v:=if_pos hk
  have e3:x.y.nk p=3:=hk
  rw [if_pos hk,<- e,e2,e3,tkV]
  have ht':tkC x p (x.y.eq p f)=0:=ht
  rw [if_pos ht']
  rfl
 ·have e:x.y.eq p f=x.nq p:=if_neg hk
  have e2:x.y.ev p f=x.nv p:=if_neg hk
  rw [if_neg hk,e,e2]
  rfl
structure Sy.Sums (y:Sy):Prop where
 p:y.pn<=1048576/\sumL y.pL y.pn<=1048576
 s:y.sn<=1048576/\sumL (lenS y.sS) y.sn<=1048576
 w:y.wn<=1048576/\sumL y.wL y.wn<=1048576
 h:y.hn<=1048576/\sumL y.hL y.hn<=1048576
def mkZ2 (y:Sy) (k:Int):Int:=k+5*(sumL y.pL y.pn:Nat)
def mkZ3 (y:Sy) (k:Int):Int:=mkZ2 y k+(2*y.sn+sumL (lenS y.sS) y.sn:Nat)
def mkZ4 (y:Sy) (k:Int):Int:=mkZ3 y k+2*(sumL y.wL y.wn:Nat)
def mkZ5 (y:Sy) (k:Int):Int:=mkZ4 y k+3*(sumL y.hL y.hn:Nat)
def mkY (y:Sy) (k:Int):Sy:=⟨y.pn,y.pL,fun i=>mkI (k+5*(sumL y.pL i:Nat)),y.sn,fun i=>mkS (mkZ2 y k+(2*i+sumL (lenS y.sS) i:Nat)) (y.sS i),y.wn,y.wL,fun i=>mkT (mkZ3 y k+2*(sumL y.wL i:Nat)),y.hn,y.hL,fun i=>mkEv (mkZ4 y k+3*(sumL y.hL i:Nat))⟩
theorem mkZ_bd {y:Sy} (h:y.Sums):(0<=mkZ2 y 1/\mkZ2 y 1<=6000000)/\(0<=mkZ3 y 1/\mkZ3 y 1<=12000000)/\(0<=mkZ4 y 1/\mkZ4 y 1<=18000000)/\(0<=mkZ5 y 1/\mkZ5 y 1<=24000000):=by
 have h1:=h.p.2
 have h2:=h.s
 have h3:=h.w.2
 have h4:=h.h.2
 simp only [mkZ5,mkZ4,mkZ3,mkZ2]
 omega
theorem heldSys_own (y:Sy) (B:Nat) (v:Value) (w:World) (hS:y.Sums) (o:OwnSys true w B (mkY y 1) v):
  Calls Tryz.prog 35 #[v,.int .i64 1] w fun e w'=>e=.returned (.int .i64 (mkZ5 y 1))/\Below w.heap.size w w':=by
 obtain ⟨c,vp,vs,vw,vh,up,us,uw,uh,rfl,o⟩:=o
 obtain ⟨a1,c1,rfl⟩:=zW o.p.row
 obtain ⟨a2,c2,rfl⟩:=zW o.s.row
 obtain ⟨a3,c3,rfl⟩:=zW o.t.row
 obtain ⟨a4,c4,rfl⟩:=zW o.h.row
 have HS:Hid y.Sums:=hS
 have O:Hid (LI true w (Cl B c 1) (.slice a1 y.pn c1) y.pn up y.pL (mkY y 1).pH/\LS w (Cl B c 2) (.slice a2 y.sn c2) y.sn us (mkY y 1).sS/\LT true w (Cl B c 3) (.slice a3 y.wn c3) y.wn uw y.wL (mkY y 1).wH/\LE true w (Cl B c 4) (.slice a4 y.hn c4) y.hn uh y.hL (mkY y 1).hH):=⟨o.p,o.s,o.t,o.h⟩
 have BA:Hid (Below w.heap.size w (w.alloc (oQ4 a1 y.pn c1 a2 y.sn c2 a3 y.wn c3 a4 y.hn c4))):=zT _ _
 have NA:Hid (BoxC (w.alloc (oQ4 a1 y.pn c1 a2 y.sn c2 a3 y.wn c3 a4 y.hn c4)) w.heap.size (.slice a1 y.pn c1) (.slice a2 y.sn c2) (.slice a3 y.wn c3) (.slice a4 y.hn c4)):=BoxC.new w _ _ _ _ _
 have hz:=mkZ_bd hS
 have HZ:Hid ((0<=mkZ2 y 1/\mkZ2 y 1<=6000000)/\(0<=mkZ3 y 1/\mkZ3 y 1<=12000000)/\(0<=mkZ4 y 1/\mkZ4 y 1<=18000000)/\(0<=mkZ5 y 1/\mkZ5 y 1<=24000000)):=hz
 have z2:¬ mkZ2 y 1<0:=by omega
 have z3:¬ mkZ3 y 1<0:=by omega
 have z4:¬ mkZ4 y 1<0:=by omega
 have z5:¬ mkZ5 y 1<0:=by omega
 clear o hS hz
 change Calls Tryz.prog 35 #[sysV a1 y.pn c1 a2 y.sn c2 a3 y.wn c3 a4 y.hn c4,.int .i64 1] w _
 go_enter Tryz.func35,Tryz.ntmps35
 go_wp2_with fail
 generalize w.alloc (oQ4 a1 y.pn c1 a2 y.sn c2 a3 y.wn c3 a4 y.hn c4)=wA at *
 refine (heldInsSS_own _ _ y.pn up y.pL 1 wA HS.out.p.1 HS.out.p.2 (by omega) (by omega) (O.out.1.below BA.out)).mono ?_
 rintro e w1 ⟨rfl,b1⟩
 have F1:Hid (Below w.heap.size w w1/\BoxC w1 w.heap.size (.slice a1 y.pn c1) (.slice a2 y.sn c2) (.slice a3 y.wn c3) (.slice a4 y.hn c4)):=⟨BA.out.trans (b1.mono BA.out.size),NA.out.below b1⟩
 rw [show (1:Int)+5*(sumL y.pL y.pn:Nat)=mkZ2 y 1 from rfl]
 clear b1 BA NA
 obtain ⟨-,p0,p1,p2,p3⟩:=F1.out
 go_wp2_with fail
 clear p0 p1 p2 p3
 refine (heldStateS_own _ _ y.sn us y.sS (mkZ2 y 1) w1 HS.out.s.1 HS.out.s.2 HZ.out.1.1 (by have:=HZ.out;omega) (O.out.2.1.below F1.out.1)).mono ?_
 rintro e w2 ⟨rfl,b2⟩
 have F2:Hid (Below w.heap.size w w2/\BoxC w2 w.heap.size (.slice a1 y.pn c1) (.slice a2 y.sn c2) (.slice a3 y.wn c3) (.slice a4 y.hn c4)):=⟨F1.out.1.trans (b2.mono F1.out.1.size),F1.out.2.below b2⟩
 rw [show mkZ2 y 1+(2*y.sn+sumL (lenS y.sS) y.sn:Nat)=mkZ3 y 1 from rfl]
 clear b2 F1
 obtain ⟨-,p0,p1,p2,p3⟩:=F2.out
 go_wp2_with fail
 clear p0 p1 p2 p3
 refine (heldItemSS_own _ _ y.wn uw y.wL (mkZ3 y 1) w2 HS.out.w.1 HS.out.w.2 HZ.out.2.1.1 (by have:=HZ.out;omega) (O.out.2.2.1.below F2.out.1)).mono ?_
 rintro e w3 ⟨rfl,b3⟩
 have F3:Hid (Below w.heap.size w w3/\BoxC w3 w.heap.size (.slice a1 y.pn c1) (.slice a2 y.sn c2) (.slice a3 y.wn c3) (.slice a4 y.hn c4)):=⟨F2.out.1.trans (b3.mono F2.out.1.size),F2.out.2.below b3⟩
 rw [show mkZ3 y 1+2*(sumL y.wL y.wn:Nat)=mkZ4 y 1 from rfl]
 clear b3 F2
 obtain ⟨-,p0,p1,p2,p3⟩:=F3.out
 go_wp2_with fail
 clear p0 p1 p2 p3
 refine (heldEventSS_own _ _ y.hn uh y.hL (mkZ4 y 1) w3 HS.out.h.1 HS.out.h.2 HZ.out.2.2.1.1 (by have:=HZ.out;omega) (O.out.2.2.2.below F3.out.1)).mono ?_
 rintro e w4 ⟨rfl,b4⟩
 have F4:Hid (Below w.heap.size w w4):=F3.out.1.trans (b4.mono F3.out.1.size)
 rw [show mkZ4 y 1+3*(sumL y.hL y.hn:Nat)=mkZ5 y 1 from rfl]
 clear b4 F3
 go_wp2
 go_ret
 exact ⟨rfl,F4.out⟩
def Own0 (w:World) (B T:Nat) (y:Sy) (vp vs vw vh:Value):Prop:=∃ c up us uw uh,OwnS true w B c y vp vs vw vh up us uw uh/\∀ b,T<=b->c b=0
theorem Own0.of {w:World} {B:Nat} {y:Sy} {v:Value} (o:OwnSys true w B y v):∃ pa pc sa sc wa wc ha hc,v=sysV pa y.pn pc sa y.sn sc wa y.wn wc ha y.hn hc/\Own0 w B w.heap.size y (.slice pa y.pn pc) (.slice sa y.sn sc) (.slice wa y.wn wc) (.slice ha y.hn hc):=by
 obtain ⟨c,vp,vs,vw,vh,up,us,uw,uh,rfl,o⟩:=o
 obtain ⟨pa,pc,rfl⟩:=zW o.p.row
 obtain ⟨sa,sc,rfl⟩:=zW o.s.row
 obtain ⟨wa,wc,rfl⟩:=zW o.t.row
 obtain ⟨ha,hc,rfl⟩:=zW o.h.row
 exact ⟨pa,pc,sa,sc,wa,wc,ha,hc,rfl,_,up,us,uw,uh,o.recol 0,fun b hb=>rcol_new hb⟩
theorem Own0.below {w w':World} {B T:Nat} {y:Sy} {vp vs vw vh:Value} (o:Own0 w B T y vp vs vw vh) (hb:Below w.heap.size w w'):Own0 w' B T y vp vs vw vh:=by
 obtain ⟨c,up,us,uw,uh,o,h⟩:=o
 exact ⟨c,up,us,uw,uh,o.below hb,h⟩
theorem Own0.sys {w:World} {B T:Nat} {y:Sy} {vp vs vw vh:Value} (o:Own0 w B T y vp vs vw vh):OwnSys true w B y (.agg #[vp,vs,vw,vh]):=by
 obtain ⟨c,up,us,uw,uh,o,-⟩:=o
 exact ⟨c,vp,vs,vw,vh,up,us,uw,uh,rfl,o⟩
theorem Own0.touch {w w':World} {B T:Nat} {y:Sy} {vp vs vw vh:Value} {P:Nat->Prop} (o:Own0 w B T y vp vs vw vh) (ht:Touch P w w') (hp:∀ b,P b->T<=b\/b<B):Own0 w' B T y vp vs vw vh:=by
 obtain ⟨c,up,us,uw,uh,o,h⟩:=o
 have hk:∀ i,i≠0->∀ k,Cl B c i k->k<w.heap.size->w'.heap[k]? = w.heap[k]?:=fun i hi k hk hl=>ht.block k hl fun e=>by
  rcases hp k e with h1 | h1
  ·exact hi (hk.2.symm.trans (h k h1))
  ·have:=hk.1
   omega
 exact ⟨c,up,us,uw,uh,⟨o.p.keep (hk 1 (by decide)),o.s.keep (hk 2 (by decide)),o.t.keep (hk 3 (by decide)),o.h.keep (hk 4 (by decide))⟩,h⟩
theorem markSys_0 (y:Sy) (B T:Nat) (vp vs vw vh:Value) (w:World) (hS:y.Sums) (hB:B<=w.heap.size) (o:Own0 w B T y vp vs vw vh):
  Calls Tryz.prog 33 #[.agg #[vp,vs,vw,vh],.int .i64 1] w fun e w'=>e=.returned (.int .i64 (mkZ5 y 1))/\Own0 w' B T (mkY y 1) vp vs vw vh/\Touch (fun b=>B<=b/\b<T) w w':=by
 obtain ⟨c,up,us,uw,uh,o,hT⟩:=o
 have HT:Hid (∀ b,T<=b->rcol c w.heap.size 0 b=0):=fun b hb=>by
  unfold rcol
  split
  ·exact hT b hb
  ·rfl
 have HC : Hid (∀ i, i ≠ 0 → ∀ b, Cl B (rcol c w.heap.size 0) i b → B ≤ b ∧ b < T) := fun i hi b hb => ⟨hb.1, by
  rcases Nat.lt_or_ge b T with h | h
  ·exact h
  ·exact absurd (hb.2.symm.trans (HT.out b h)) hi⟩
 obtain ⟨a1,c1,rfl⟩:=zW o.p.row
 obtain ⟨a2,c2,rfl⟩:=zW o.s.row
 obtain ⟨a3,c3,rfl⟩:=zW o.t.row
 obtain ⟨a4,c4,rfl⟩:=zW o.h.row
 have HS:Hid y.Sums:=hS
 have HB:Hid (B<=w.heap.size):=hB
 have ba:=zT w (oQ4 a1 y.pn c1 a2 y.sn c2 a3 y.wn c3 a4 y.hn c4)
 have o0:OwnS true w B (rcol c w.heap.size 0) y (.slice a1 y.pn c1) (.slice a2 y.sn c2) (.slice a3 y.wn c3) (.slice a4 y.hn c4) up us uw uh:=⟨o.p.mono fun _ h hl=>h.old hl,o.s.mono fun _ h hl=>h.old hl,o.t.mono fun _ h hl=>h.old hl,o.h.mono fun _ h hl=>h.old hl⟩
 have OA:Hid (OwnS true (w.alloc (oQ4 a1 y.pn c1 a2 y.sn c2 a3 y.wn c3 a4 y.hn c4)) B (rcol c w.heap.size 0) y (.slice a1 y.pn c1) (.slice a2 y.sn c2) (.slice a3 y.wn c3) (.slice a4 y.hn c4) up us uw uh):=⟨o0.p.below ba,o0.s.below ba,o0.t.below ba,o0.h.below ba⟩
 have NA:Hid (BoxC (w.alloc (oQ4 a1 y.pn c1 a2 y.sn c2 a3 y.wn c3 a4 y.hn c4)) w.heap.size (.slice a1 y.pn c1) (.slice a2 y.sn c2) (.slice a3 y.wn c3) (.slice a4 y.hn c4)):=BoxC.new w _ _ _ _ _
 have BA:Hid (Touch (fun b=>B<=b/\b<T) w (w.alloc (oQ4 a1 y.pn c1 a2 y.sn c2 a3 y.wn c3 a4 y.hn c4))):=Touch.of_below ba
 have HM:Hid (∀ i k,Cl B (rcol c w.heap.size 0) i k->i≠0->k<w.heap.size):=fun i k h hi=>by
  rcases Nat.lt_or_ge k w.heap.size with h1 | h1
  ·exact h1
  ·exact absurd (h.2.symm.trans (rcol_new h1)) hi
 have hz:=mkZ_bd hS
 have HZ:Hid ((0<=mkZ2 y 1/\mkZ2 y 1<=6000000)/\(0<=mkZ3 y 1/\mkZ3 y 1<=12000000)/\(0<=mkZ4 y 1/\mkZ4 y 1<=18000000)/\(0<=mkZ5 y 1/\mkZ5 y 1<=24000000)):=hz
 clear o o0 hS hB ba hz hT
 go_enter Tryz.func33,Tryz.ntmps33
 go_wp2_with fail
 generalize w.alloc (oQ4 a1 y.pn c1 a2 y.sn c2 a3 y.wn c3 a4 y.hn c4)=wA at *
 refine (markInsSS_own _ _ y.pn up y.pL y.pH 1 wA HS.out.p.1 HS.out.p.2 (by omega) (by omega) OA.out.p).mono ?_
 rintro e w1 ⟨rfl,q1,t1⟩
 have K1:Hid (∀ i,i≠1->∀ k,Cl B (rcol c w.heap.size 0) i k->k<wA.heap.size->w1.heap[k]? = wA.heap[k]?):=fun i hi k hk hl=>t1.block k hl fun h=>hi (hk.2.symm.trans h.2)
 have F1:Hid (LI true w1 (Cl B (rcol c w.heap.size 0) 1) (.slice a1 y.pn c1) y.pn up y.pL (mkY y 1).pH/\LS w1 (Cl B (rcol c w.heap.size 0) 2) (.slice a2 y.sn c2) y.sn us y.sS/\LT true w1 (Cl B (rcol c w.heap.size 0) 3) (.slice a3 y.wn c3) y.wn uw y.wL y.wH/\LE true w1 (Cl B (rcol c w.heap.size 0) 4) (.slice a4 y.hn c4) y.hn uh y.hL y.hH):=⟨q1,OA.out.s.keep (K1.out 2 (by decide)),OA.out.t.keep (K1.out 3 (by decide)),OA.out.h.keep (K1.out 4 (by decide))⟩
 have hm1:w1.heap[w.heap.size]? = wA.heap[w.heap.size]?:=t1.block _ (zK _ _ NA.out.1) fun h=>Nat.lt_irrefl _ (HM.out 1 _ h (by decide))
 have G1:Hid (Touch (fun b=>B<=b/\b<T) w w1/\BoxC w1 w.heap.size (.slice a1 y.pn c1) (.slice a2 y.sn c2) (.slice a3 y.wn c3) (.slice a4 y.hn c4)):=⟨BA.out.trans (t1.mono (HC.out 1 (by decide))),⟨(zI hm1).trans NA.out.1,(zI hm1).trans NA.out.2.1,(zI hm1).trans NA.out.2.2.1,(zI hm1).trans NA.out.2.2.2⟩⟩
 clear hm1
 rw [show (1:Int)+5*(sumL y.pL y.pn:Nat)=mkZ2 y 1 from rfl]
 clear t1 q1 OA NA BA K1
 obtain ⟨-,p0,p1,p2,p3⟩:=G1.out
 go_wp2_with fail
 clear p0 p1 p2 p3
 refine (markStateS_own _ _ y.sn us y.sS (mkZ2 y 1) w1 HS.out.s.1 HS.out.s.2 HZ.out.1.1 (by have:=HZ.out;omega) F1.out.2.1).mono ?_
 rintro e w2 ⟨rfl,⟨ts,q2⟩,t2⟩
 have K2:Hid (∀ i,i≠2->∀ k,Cl B (rcol c w.heap.size 0) i k->k<w1.heap.size->w2.heap[k]? = w1.heap[k]?):=fun i hi k hk hl=>t2.block k hl fun h=>hi (hk.2.symm.trans h.2)
 have F2:Hid (LI true w2 (Cl B (rcol c w.heap.size 0) 1) (.slice a1 y.pn c1) y.pn up y.pL (mkY y 1).pH/\LS w2 (Cl B (rcol c w.heap.size 0) 2) (.slice a2 y.sn c2) y.sn ts (mkY y 1).sS/\LT true w2 (Cl B (rcol c w.heap.size 0) 3) (.slice a3 y.wn c3) y.wn uw y.wL y.wH/\LE true w2 (Cl B (rcol c w.heap.size 0) 4) (.slice a4 y.hn c4) y.hn uh y.hL y.hH):=⟨F1.out.1.keep (K2.out 1 (by decide)),q2,F1.out.2.2.1.keep (K2.out 3 (by decide)),F1.out.2.2.2.keep (K2.out 4 (by decide))⟩
 have hm2:w2.heap[w.heap.size]? = w1.heap[w.heap.size]?:=t2.block _ (zK _ _ G1.out.2.1) fun h=>Nat.lt_irrefl _ (HM.out 2 _ h (by decide))
 have G2:Hid (Touch (fun b=>B<=b/\b<T) w w2/\BoxC w2 w.heap.size (.slice a1 y.pn c1) (.slice a2 y.sn c2) (.slice a3 y.wn c3) (.slice a4 y.hn c4)):=⟨G1.out.1.trans (t2.mono (HC.out 2 (by decide))),⟨(zI hm2).trans G1.out.2.1,(zI hm2).trans G1.out.2.2.1,(zI hm2).trans G1.out.2.2.2.1,(zI hm2).trans G1.out.2.2.2.2⟩⟩
 clear hm2
 rw [show mkZ2 y 1+(2*y.sn+sumL (lenS y.sS) y.sn:Nat)=mkZ3 y 1 from rfl]
 clear t2 q2 F1 G1 K2
 obtain ⟨-,p0,p1,p2,p3⟩:=G2.out
 go_wp2_with fail
 clear p0 p1 p2 p3
 refine (markItemSS_own _ _ y.wn uw y.wL y.wH (mkZ3 y 1) w2 HS.out.w.1 HS.out.w.2 HZ.out.2.1.1 (by have:=HZ.out;omega) F2.out.2.2.1).mono ?_
 rintro e w3 ⟨rfl,q3,t3⟩
 have K3:Hid (∀ i,i≠3->∀ k,Cl B (rcol c w.heap.size 0) i k->k<w2.heap.size->w3.heap[k]? = w2.heap[k]?):=fun i hi k hk hl=>t3.block k hl fun h=>hi (hk.2.symm.trans h.2)
 have F3:Hid (LI true w3 (Cl B (rcol c w.heap.size 0) 1) (.slice a1 y.pn c1) y.pn up y.pL (mkY y 1).pH/\LS w3 (Cl B (rcol c w.heap.size 0) 2) (.slice a2 y.sn c2) y.sn ts (mkY y 1).sS/\LT true w3 (Cl B (rcol c w.heap.size 0) 3) (.slice a3 y.wn c3) y.wn uw y.wL (mkY y 1).wH/\LE true w3 (Cl B (rcol c w.heap.size 0) 4) (.slice a4 y.hn c4) y.hn uh y.hL y.hH):=⟨F2.out.1.keep (K3.out 1 (by decide)),F2.out.2.1.keep (K3.out 2 (by decide)),q3,F2.out.2.2.2.keep (K3.out 4 (by decide))⟩
 have hm3:w3.heap[w.heap.size]? = w2.heap[w.heap.size]?:=t3.block _ (zK _ _ G2.out.2.1) fun h=>Nat.lt_irrefl _ (HM.out 3 _ h (by decide))
 have G3:Hid (Touch (fun b=>B<=b/\b<T) w w3/\BoxC w3 w.heap.size (.slice a1 y.pn c1) (.slice a2 y.sn c2) (.slice a3 y.wn c3) (.slice a4 y.hn c4)):=⟨G2.out.1.trans (t3.mono (HC.out 3 (by decide))),⟨(zI hm3).trans G2.out.2.1,(zI hm3).trans G2.out.2.2.1,(zI hm3).trans G2.out.2.2.2.1,(zI hm3).trans G2.out.2.2.2.2⟩⟩
 clear hm3
 rw [show mkZ3 y 1+2*(sumL y.wL y.wn:Nat)=mkZ4 y 1 from rfl]
 clear t3 q3 F2 G2 K3
 obtain ⟨-,p0,p1,p2,p3⟩:=G3.out
 go_wp2_with fail
 clear p0 p1 p2 p3
 refine (markEventSS_own _ _ y.hn uh y.hL y.hH (mkZ4 y 1) w3 HS.out.h.1 HS.out.h.2 HZ.out.2.2.1.1 (by have:=HZ.out;omega) F3.out.2.2.2).mono ?_
 rintro e w4 ⟨rfl,q4,t4⟩
 have K4:Hid (∀ i,i≠4->∀ k,Cl B (rcol c w.heap.size 0) i k->k<w3.heap.size->w4.heap[k]? = w3.heap[k]?):=fun i hi k hk hl=>t4.block k hl fun h=>hi (hk.2.symm.trans h.2)
 have F4:Hid (Own0 w4 B T (mkY y 1) (.slice a1 y.pn c1) (.slice a2 y.sn c2) (.slice a3 y.wn c3) (.slice a4 y.hn c4)):=⟨_,up,ts,uw,uh,⟨F3.out.1.keep (K4.out 1 (by decide)),F3.out.2.1.keep (K4.out 2 (by decide)),F3.out.2.2.1.keep (K4.out 3 (by decide)),q4⟩,HT.out⟩
 have hm4:w4.heap[w.heap.size]? = w3.heap[w.heap.size]?:=t4.block _ (zK _ _ G3.out.2.1) fun h=>Nat.lt_irrefl _ (HM.out 4 _ h (by decide))
 have G4:Hid (Touch (fun b=>B<=b/\b<T) w w4/\BoxC w4 w.heap.size (.slice a1 y.pn c1) (.slice a2 y.sn c2) (.slice a3 y.wn c3) (.slice a4 y.hn c4)):=⟨G3.out.1.trans (t4.mono (HC.out 4 (by decide))),⟨(zI hm4).trans G3.out.2.1,(zI hm4).trans G3.out.2.2.1,(zI hm4).trans G3.out.2.2.2.1,(zI hm4).trans G3.out.2.2.2.2⟩⟩
 clear hm4
 rw [show mkZ4 y 1+3*(sumL y.hL y.hn:Nat)=mkZ5 y 1 from rfl]
 clear t4 q4 F3 G3 K4
 go_wp2
 go_ret
 exact ⟨rfl,F4.out,G4.out.1⟩
theorem sumL_bd {L:Nat->Nat} {M:Nat}:∀ {n:Nat},(∀ i,i<n->L i<=M)->sumL L n<=n*M
 | 0,_=>by simp [sumL]
 | n+1,h=>by
  have h1:=sumL_bd fun i hi=>h i (Nat.lt_succ_of_lt hi)
  have h2:=h n (Nat.lt_succ_self n)
  show sumL L n+L n<=(n+1)*M
  rw [Nat.add_mul,Nat.one_mul]
  omega
theorem Sy.Sm.sums {y:Sy} (h:y.Sm):y.Sums:=by
 obtain ⟨h1,h2,h3,h4⟩:=h.n
 have a1:=sumL_bd h.p
 have a2:=sumL_bd (L:=lenS y.sS) (M:=2000) (n:=y.sn) fun i hi=>by
  have:=h.s i hi
  simp only [lenS]
  omega
 have a3:=sumL_bd h.w
 have a4:=sumL_bd h.h
 exact ⟨⟨by omega,by omega⟩,⟨by omega,by omega⟩,⟨by omega,by omega⟩,⟨by omega,by omega⟩⟩
theorem Sy.Sm.len {y:Sy} (h:y.Sm):y.Len:=by
 obtain ⟨h1,h2,h3,h4⟩:=h.n
 exact ⟨⟨by omega,fun i hi=>by have:=h.p i hi;omega⟩,⟨by omega,fun i hi=>by have:=h.s i hi;omega⟩,⟨by omega,fun i hi=>by have:=h.w i hi;omega⟩,⟨by omega,fun i hi=>by have:=h.h i hi;omega⟩⟩
