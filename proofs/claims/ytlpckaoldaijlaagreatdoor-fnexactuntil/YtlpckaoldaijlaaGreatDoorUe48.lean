import Derived.Test.YtlpckaoldaijlaaGreatDoorUe0
import Derived.Test.YtlpckaoldaijlaaGreatDoorUe46
import Derived.Test.YtlpckaoldaijlaaGreatDoorUe38
import Derived.Test.YtlpckaoldaijlaaGreatDoorUe47
import Derived.Test.YtlpckaoldaijlaaGreatDoorUe16
import Derived.Deep.RegionHeld3
namespace Go.Proofs.YtlpckaoldaijlaaGreatDoor
set_option maxRecDepth 100000
set_option maxHeartbeats 4000000
open Go.ChangeShapes Go.WideShapes Go.ChangeAt Go.RowKit Go.Deep
variable {z:Bool}
theorem Sy.Ok.stY {y:Sy} (h:y.Ok) (p f:Int):(stY y p f).Ok:=by
 unfold Go.Proofs.YtlpckaoldaijlaaGreatDoor.stY
 rw [if_pos (Sy.okB_true h)]
 by_cases hb:belB p y.pn=true
 ·rw [if_pos hb]
  have hb':0<=p/\p<(y.pn:Int):=of_decide_eq_true hb
  by_cases hc:cmS y p.toNat f=0
  ·exact h.step (by omega) hc
  ·rw [Sy.step_no hc]
   exact h
 ·rw [if_neg hb]
  exact h
noncomputable def utY (y:Sy) (h:Nat->Pk2):Nat->Sy
 | 0=>y
 | i+1=>stY (utY y h i) (h i).m (h i).v
theorem utY_ok {y:Sy} (h:y.Ok) (g:Nat->Pk2):∀ i,(utY y g i).Ok
 | 0=>h
 | i+1=>(utY_ok h g i).stY _ _
noncomputable def utF (y:Sy) (h:Nat->Pk2) (p k v:Int) (i:Nat):Bool:=(stC (utY y h i) (h i).m (h i).v == 0) && hsB (utY y h (i+1)) p k v
def fsN (f:Nat->Bool):Nat->Nat->Nat
 | 0,i=>i
 | m+1,i=>if f i=true then i+1 else fsN f m (i+1)
noncomputable def unB (y:Sy) (p k:Int) (n:Nat):Bool:=spB y p k && decide (n<=200)
noncomputable def unY (y:Sy) (h:Nat->Pk2) (n:Nat) (p k v:Int):Sy:=if unB y p k n=true then utY y h (fsN (utF y h p k v) n 0) else { y with pn:=0,sn:=0,wn:=0,hn:=0 }
noncomputable def unC (y:Sy) (h:Nat->Pk2) (n:Nat) (p k v:Int):Int:=if unB y p k n=true then (fsN (utF y h p k v) n 0:Int) else -1
theorem unY_sm (y:Sy) (h:Nat->Pk2) (n:Nat) (p k v:Int):(unY y h n p k v).Sm:=by
 unfold unY
 split
 ·rename_i hb
  simp only [unB,Bool.and_eq_true] at hb
  exact (utY_ok ((Sy.ok_of (by have h9:=hb.1;simp only [spB,Bool.and_eq_true] at h9;exact h9.2.2))) h _).sm
 ·exact ⟨⟨Nat.zero_le _,Nat.zero_le _,Nat.zero_le _,Nat.zero_le _⟩,fun i hi=>absurd hi (Nat.not_lt_zero _),fun i hi=>absurd hi (Nat.not_lt_zero _),fun i hi=>absurd hi (Nat.not_lt_zero _),fun i hi=>absurd hi (Nat.not_lt_zero _)⟩
theorem sm_inLen {x:SysIn} (h:x.y.Sm):x.Len:=by
 obtain ⟨⟨a,b,c,d⟩,h1,h2,h3,h4⟩:=h
 refine ⟨⟨?_,fun i hi=>?_⟩,⟨?_,fun i hi=>?_⟩,⟨?_,fun i hi=>?_⟩,⟨?_,fun i hi=>?_⟩⟩
 ·exact zS a (by omega)
 ·exact zS (h1 i hi) (by omega)
 ·exact zS b (by omega)
 ·exact ⟨zS (h2 i hi).1 (by omega),zS (h2 i hi).2 (by omega)⟩
 ·exact zS c (by omega)
 ·exact zS (h3 i hi) (by omega)
 ·exact zS d (by omega)
 ·exact zS (h4 i hi) (by omega)
theorem stepIn_any (y:Sy) (p f:Int) (w:World) (B:Nat) (c:Nat->Nat) (vp vs vw vh:Value) (up us uw uh:Nat->Value) (o:OwnS z w B c y vp vs vw vh up us uw uh) (hB:B<=w.heap.size) (hO:y.Ok):
  Calls Tryz.prog 78 #[.agg #[vp,vs,vw,vh],pkV p f] w fun e w'=>e=.returned (.int .i64 (stC y p f))/\Below B w w'/\(∀ b,b<w.heap.size->c b=0->w'.heap[b]? = w.heap[b]?)/\OwnK z w' B c w.heap.size (stY y p f) vp vs vw vh:=by
 obtain ⟨x,hx⟩:∃ x,y.sysIn vp vs vw vh up us uw uh=x:=⟨_,rfl⟩
 have ey:x.y=y:=by rw [<- hx];rfl
 have ev:x.v=.agg #[vp,vs,vw,vh]:=by rw [<- hx];exact o.v
 have hG:SysG w x:=by rw [<- hx];exact o.g
 have HG:Hid (SysG w x):=hG
 have HL:Hid x.Len:=sm_inLen (by rw [ey];exact hO.sm)
 have HO:Hid x.y.Ok:=by rw [ey];exact hO
 have t:x.y.okB=true:=Sy.okB_true HO.out
 obtain ⟨k,q,v0,HCM⟩:∃ k q v0:Int,Hid ((∀ wx,Below w.heap.size w wx->Calls Tryz.prog 130 #[x.v,.int .i64 p,.int .i64 f] wx fun e w'=>e=.returned (.tuple #[evV k q v0,.int .i64 (stC x.y p f)])/\Below wx.heap.size wx w')/\(stC x.y p f≠0->stY x.y p f=x.y)/\(stC x.y p f=0->∃ a:Nat,p=a/\a<x.y.pn/\stY x.y p f=(x.y.evt a k q v0).way a k q v0/\(k=2->0<=q/\q<x.y.pn)/\(k=3->0<=q/\q<x.y.pn/\0<x.y.wL (q.toNat*x.y.pn+a)))):=by
  by_cases hb:belB p x.y.pn=true
  ·have hb':0<=p/\p<(x.y.pn:Int):=by simpa [belB] using hb
   obtain ⟨a,rfl⟩:∃ a:Nat,p=a:=⟨p.toNat,by omega⟩
   have ha:a<x.y.pn:=by omega
   obtain ⟨⟨h1,h4⟩,hs,hh,hw⟩:=HO.out.cn
   have hC:stC x.y (a:Int) f=cmS x.y a f:=by rw [stC,if_pos t,if_pos hb,Int.toNat_natCast]
   have hY:stY x.y (a:Int) f=x.y.step a f:=by rw [stY,if_pos t,if_pos hb,Int.toNat_natCast]
   have hcall:∀ wx,Below w.heap.size w wx->Calls Tryz.prog 130 #[x.v,.int .i64 a,.int .i64 f] wx fun e w'=>e=.returned (.tuple #[cmV x a f,.int .i64 (cmC x a f)])/\Below wx.heap.size wx w':=fun wx hbx=>comingIn_any x a f wx (HG.out.below hbx) HL.out ha h4 hs hh hw (HO.out.four ha) (HO.out.peer ha)
   by_cases h0:cmS x.y a f=0
   ·refine ⟨x.y.nk a,x.y.eq a f,x.y.ev a f,fun wx hbx=>?_,fun hne=>absurd (hC.trans h0) hne,fun _=>⟨a,rfl,ha,?_,fun hk=>?_,fun hk=>?_⟩⟩
    ·rw [hC,<- cmV_step h0]
     exact hcall wx hbx
    ·rw [hY,Sy.step,if_pos h0,Sy.way_evt]
    ·have:=HO.out.peer ha hk
     rw [Sy.eq,if_neg (by rw [hk];decide)]
     exact this
    ·exact tk_zero (cm_take h0 hk)
   ·refine ⟨0,0,0,fun wx hbx=>?_,fun _=>hY.trans (Sy.step_no h0),fun h=>absurd (hC.symm.trans h) h0⟩
    have e:cmV x a f=evV 0 0 0:=if_neg h0
    rw [hC,<- e]
    exact hcall wx hbx
  ·have hC:stC x.y p f=2:=by rw [stC,if_pos t,if_neg hb]
   refine ⟨0,0,0,fun wx _=>?_,fun _=>?_,fun h=>?_⟩
   ·rw [hC]
    exact comingIn_out x p f wx (by
     cases h:belB p x.pn with
     | false=>rfl
     | true=>exact absurd h hb)
   ·rw [stY,if_pos t,if_neg hb]
   ·rw [hC] at h
    cases h
 rw [ev,ey] at HCM
 obtain ⟨pa,pc,rfl⟩:=zW o.p.row
 obtain ⟨sa,sc,rfl⟩:=zW o.s.row
 obtain ⟨wa,wc,rfl⟩:=zW o.t.row
 obtain ⟨ha,hc,rfl⟩:=zW o.h.row
 have HOW:Hid (OwnS z w B c y (.slice pa y.pn pc) (.slice sa y.sn sc) (.slice wa y.wn wc) (.slice ha y.hn hc) up us uw uh/\B<=w.heap.size/\y.Ok):=⟨o,hB,hO⟩
 generalize hC:stC y p f=C at *
 generalize hY:stY y p f=Y at *
 clear hC hY
 clear HG HL HO t hG ev ey hx x o hB hO
 have BA:Hid (Below w.heap.size w ((w.alloc (oQ4 pa y.pn pc sa y.sn sc wa y.wn wc ha y.hn hc)).alloc (.cells #[.int .i64 p,.int .i64 f] 112))):=(zT _ _).trans ((zT _ _).mono (by simp))
 have NB:Hid (BoxC ((w.alloc (oQ4 pa y.pn pc sa y.sn sc wa y.wn wc ha y.hn hc)).alloc (.cells #[.int .i64 p,.int .i64 f] 112)) w.heap.size (.slice pa y.pn pc) (.slice sa y.sn sc) (.slice wa y.wn wc) (.slice ha y.hn hc)):=(BoxC.new w _ _ _ _ _).below (zT _ _)
 have PB:Hid (QsC ((w.alloc (oQ4 pa y.pn pc sa y.sn sc wa y.wn wc ha y.hn hc)).alloc (.cells #[.int .i64 p,.int .i64 f] 112)) (w.heap.size+1) (.int .i64 p) (.int .i64 f)):=by
  have:=QsC.new (w.alloc (oQ4 pa y.pn pc sa y.sn sc wa y.wn wc ha y.hn hc)) (.int .i64 p) (.int .i64 f) 112
  rw [World.size_alloc] at this
  exact this
 go_enter Tryz.func78,Tryz.ntmps78
 go_wp2_with fail
 generalize (w.alloc (oQ4 pa y.pn pc sa y.sn sc wa y.wn wc ha y.hn hc)).alloc (.cells #[.int .i64 p,.int .i64 f] 112)=W2 at *
 refine (HCM.out.1 W2 BA.out).mono ?_
 rintro e w5 ⟨rfl,q5⟩
 have bb:=zT w5 (oQ0 k q v0)
 have Q6:=q5.trans (bb.mono q5.size)
 have B6:Hid (Below w.heap.size w (w5.alloc (oQ0 k q v0))/\BoxC (w5.alloc (oQ0 k q v0)) w.heap.size (.slice pa y.pn pc) (.slice sa y.sn sc) (.slice wa y.wn wc) (.slice ha y.hn hc)/\QsC (w5.alloc (oQ0 k q v0)) (w.heap.size+1) (.int .i64 p) (.int .i64 f)/\EvK (w5.alloc (oQ0 k q v0)) w5.heap.size k q v0):=⟨BA.out.trans (Q6.mono BA.out.size),NB.out.below Q6,PB.out.below Q6,EvK.new w5 _ _ _ _⟩
 go_upto_region 2 with fail
 clear q5 bb Q6 BA NB PB
 generalize w5.heap.size=E at *
 generalize w5.alloc (oQ0 k q v0)=W6 at *
 clear w5 W2
 by_cases hc0:C=0
 ·obtain ⟨a,ea,ha',hY,hk2,hk3⟩:=HCM.out.2.2 hc0
  subst ea
  subst hc0
  have HH:Hid (Calls Tryz.prog 131 #[.agg #[.slice pa y.pn pc,.slice sa y.sn sc,.slice wa y.wn wc,.slice ha y.hn hc],.int .i64 a,evV k q v0] W6 fun e w'=>e=.returned (.tuple #[])/\Below B W6 w'/\(∀ b,b<W6.heap.size->c b=0->w'.heap[b]? = W6.heap[b]?)/\OwnK z w' B c W6.heap.size Y (.slice pa y.pn pc) (.slice sa y.sn sc) (.slice wa y.wn wc) (.slice ha y.hn hc)):=by
   have h:=happen_own y a k q v0 W6 B _ _ _ _ _ up us uw uh (HOW.out.1.below B6.out.1) (zS HOW.out.2.1 B6.out.1.size) HOW.out.2.2 ha' hk2 hk3
   rw [<- hY] at h
   exact h
  obtain ⟨a0,a1,a2,a3⟩:=B6.out.2.1
  obtain ⟨e0,e1,e2,-⟩:=B6.out.2.2.2
  obtain ⟨f0,f1,-⟩:=B6.out.2.2.1
  clear hY hk2 hk3 HCM
  go_wp2_with fail
  refine HH.out.mono ?_
  rintro e w7 ⟨rfl,q7,kp,c7,up7,us7,uw7,uh7,o7,kc7⟩
  have B7:Hid (Below B w w7/\(∀ b,b<w.heap.size->c b=0->w7.heap[b]? = w.heap[b]?)/\OwnK z w7 B c w.heap.size Y (.slice pa y.pn pc) (.slice sa y.sn sc) (.slice wa y.wn wc) (.slice ha y.hn hc)):=⟨(B6.out.1.mono HOW.out.2.1).trans q7,fun b hb hz=>(kp b (zP hb B6.out.1.size) hz).trans (B6.out.1.block b hb),c7,up7,us7,uw7,uh7,o7,fun b hb=>kc7 b (zP hb B6.out.1.size)⟩
  clear a0 a1 a2 a3 e0 e1 e2 f0 f1 kp o7 q7 HH kc7
  go_wp2
  go_ret
  exact ⟨rfl,B7.out⟩
 ·have tc:(C == 0)=false:=by simpa using hc0
  have hY:=HCM.out.2.1 hc0
  have B7:Hid (Below B w W6/\(∀ b,b<w.heap.size->c b=0->W6.heap[b]? = w.heap[b]?)/\OwnK z W6 B c w.heap.size Y (.slice pa y.pn pc) (.slice sa y.sn sc) (.slice wa y.wn wc) (.slice ha y.hn hc)):=⟨B6.out.1.mono HOW.out.2.1,fun b hb _=>B6.out.1.block b hb,c,up,us,uw,uh,by rw [hY];exact HOW.out.1.below B6.out.1,fun _ _=>rfl⟩
  clear hY HCM hc0
  go_wp2
  go_ret
  exact ⟨rfl,B7.out⟩
variable {z:Bool}
theorem stY_pn {y:Sy} (h:y.Ok) (p f:Int):(stY y p f).pn=y.pn:=by
 unfold Go.Proofs.YtlpckaoldaijlaaGreatDoor.stY
 rw [if_pos (Sy.okB_true h)]
 by_cases hb:belB p y.pn=true
 ·rw [if_pos hb]
  unfold Sy.step
  split <;> rfl
 ·rw [if_neg hb]
theorem utY_pn {y:Sy} (h:y.Ok) (g:Nat->Pk2):∀ i,(utY y g i).pn=y.pn
 | 0=>rfl
 | i+1=>(stY_pn (utY_ok h g i) _ _).trans (utY_pn h g i)
def PkL (w:World) (a:Option Addr) (len:Nat) (h:Nat->Pk2):Prop:=len=0\/∃ b off,a=some ⟨b,off,none⟩/\b<w.heap.size/\PkAt w b off len h
theorem PkL.below {w w':World} {a:Option Addr} {len:Nat} {h:Nat->Pk2} (hh:PkL w a len h) (hb:Below w.heap.size w w'):PkL w' a len h:=by
 rcases hh with e | ⟨b,off,e,hl,ha⟩
 ·exact .inl e
 ·exact .inr ⟨b,off,e,zP hl hb.size,ha.below hb hl⟩
theorem PkL.at {w:World} {a:Option Addr} {len:Nat} {h:Nat->Pk2} (hh:PkL w a len h) {k:Nat} (hk:k<len):∃ b off,a=some ⟨b,off,none⟩/\b<w.heap.size/\w.cell? ⟨b,off+k*2,none⟩=some (.int .i64 (h k).m)/\w.cell? ⟨b,off+k*2+1,none⟩=some (.int .i64 (h k).v):=by
 rcases hh with e | ⟨b,off,e,hl,ha⟩
 ·omega
 ·exact ⟨b,off,e,hl,ha k hk⟩
structure Uw (w:World) (x:SysIn) (p k v:Int) (wx:World):Prop where
 be:Below w.heap.size w wx
 bs:BoxC wx w.heap.size (.slice x.pa x.pn x.pc) (.slice x.sa x.sn x.sc) (.slice x.wa x.wn x.wc) (.slice x.ha x.hn x.hc)
 bx:EvK wx (w.heap.size+1) p k v
 bo:BoxC wx (w.heap.size+1+1) (.slice none 0 0) (.slice none 0 0) (.slice none 0 0) (.slice none 0 0)
 fo:∀ j,wx.frozen? ⟨w.heap.size+1+1,j,none⟩=false
 lt:w.heap.size+1+1<wx.heap.size
theorem Uw.keep {w:World} {x:SysIn} {p k v:Int} {wx wy:World} {B:Nat} (h:Uw w x p k v wx) (hB:w.heap.size+1+1<B) (hb:Below B wx wy):Uw w x p k v wy:=by
 have hs:wx.heap.size<=wy.heap.size:=hb.size
 exact ⟨h.be.trans (hb.mono (by omega)),h.bs.blkM (hb.block _ (by omega)),h.bx.blk (hb.block _ (by omega)),h.bo.blkM (hb.block _ hB),fun j=>(zJ (hb.block _ hB)).trans (h.fo j),zP h.lt hs⟩
theorem Uw.below {w:World} {x:SysIn} {p k v:Int} {wx wy:World} (h:Uw w x p k v wx) (hb:Below wx.heap.size wx wy):Uw w x p k v wy:=h.keep h.lt hb
theorem Uw.new (w:World) (x:SysIn) (p k v:Int) (t t' t'':TypeId):Uw w x p k v (((w.alloc (.cells #[.slice x.pa x.pn x.pc,.slice x.sa x.sn x.sc,.slice x.wa x.wn x.wc,.slice x.ha x.hn x.hc] t)).alloc (.cells #[.int .i64 p,.int .i64 k,.int .i64 v] t')).alloc (.cells #[.slice none 0 0,.slice none 0 0,.slice none 0 0,.slice none 0 0] t'')):=by
 obtain ⟨h1,h2,h3⟩:=box43 w (.slice x.pa x.pn x.pc) (.slice x.sa x.sn x.sc) (.slice x.wa x.wn x.wc) (.slice x.ha x.hn x.hc) p k v t t'
 have hsz:((w.alloc (.cells #[.slice x.pa x.pn x.pc,.slice x.sa x.sn x.sc,.slice x.wa x.wn x.wc,.slice x.ha x.hn x.hc] t)).alloc (.cells #[.int .i64 p,.int .i64 k,.int .i64 v] t')).heap.size=w.heap.size+1+1:=by simp
 generalize (w.alloc (.cells #[.slice x.pa x.pn x.pc,.slice x.sa x.sn x.sc,.slice x.wa x.wn x.wc,.slice x.ha x.hn x.hc] t)).alloc (.cells #[.int .i64 p,.int .i64 k,.int .i64 v] t')=W at *
 have ba:=zV W (.cells #[.slice none 0 0,.slice none 0 0,.slice none 0 0,.slice none 0 0] t'')
 have hn:=BoxC.new W (.slice none 0 0) (.slice none 0 0) (.slice none 0 0) (.slice none 0 0) t''
 rw [hsz] at hn
 exact ⟨h3.trans (ba.mono (by omega)),h1.below ba,h2.below ba,hn,fun j=>yD _ _ _ _ hsz.symm,by rw [World.size_alloc];omega⟩
structure UtB (z:Bool) (w:World) (x:SysIn) (p k v:Int) (N F B A:Nat) (Y:Sy) (vp vs vw vh:Value) (wx:World):Prop where
 uw:Uw w x p k v wx
 qs:QsC wx N (.int .i64 p) (.func (.func F) #[spV p k v] #[])
 bx:BoxC wx A vp vs vw vh
 ow:∃ c up us uw uh,OwnS z wx B c Y vp vs vw vh up us uw uh/\c A=0
 nb:N<B/\w.heap.size+1+1<B/\B<=A
theorem UtB.below {w:World} {x:SysIn} {p k v:Int} {N F B A:Nat} {Y:Sy} {vp vs vw vh:Value} {wx wy:World} (h:UtB z w x p k v N F B A Y vp vs vw vh wx) (hb:Below wx.heap.size wx wy):UtB z w x p k v N F B A Y vp vs vw vh wy:=by
 obtain ⟨c,up,us,uw,uh,o,hc⟩:=h.ow
 exact ⟨h.uw.below hb,h.qs.below hb,h.bx.below hb,⟨c,up,us,uw,uh,o.below hb,hc⟩,h.nb⟩
theorem UtB.lt {w:World} {x:SysIn} {p k v:Int} {N F B A:Nat} {Y:Sy} {vp vs vw vh:Value} {wx:World} (h:UtB z w x p k v N F B A Y vp vs vw vh wx):A<wx.heap.size:=zK wx _ h.bx.1
theorem UtB.step {w:World} {x:SysIn} {p k v:Int} {N F B A:Nat} {Y:Sy} {vp vs vw vh:Value} {wx:World} (h:UtB z w x p k v N F B A Y vp vs vw vh wx) (hO:Y.Ok) (a f:Int):
  Calls Tryz.prog 78 #[.agg #[vp,vs,vw,vh],pkV a f] wx fun e w'=>e=.returned (.int .i64 (stC Y a f))/\UtB z w x p k v N F B A (stY Y a f) vp vs vw vh w':=by
 obtain ⟨c,up,us,uw,uh,o,hc⟩:=h.ow
 have hA:=h.lt
 refine (stepIn_any Y a f wx B c vp vs vw vh up us uw uh o (by have:=h.nb;omega) hO).mono ?_
 rintro e w' ⟨rfl,b1,kp,c',up',us',uw',uh',o',kc⟩
 refine ⟨rfl,h.uw.keep h.nb.2.1 b1,?_,h.bx.blkM (kp A hA hc),⟨c',up',us',uw',uh',o',(kc A hA).trans hc⟩,h.nb⟩
 have hN:=b1.block N h.nb.1
 exact ⟨(zI hN).trans h.qs.c0,(zI hN).trans h.qs.c1,fun j=>(zJ hN).trans (h.qs.fz j)⟩
theorem UtB.holds {w:World} {x:SysIn} {J:Nat} {k v:Int} {N B A:Nat} {Y:Sy} {vp vs vw vh:Value} {wx:World} (h:UtB z w x J k v N (qsF k) B A Y vp vs vw vh wx) (hO:Y.Ok) (hk:knB k=true) (hJ:J<Y.pn):
  Calls Tryz.prog 73 #[qsV J k v,.agg #[vp,vs,vw,vh]] wx fun e w'=>e=.returned (.bool (hsB Y J k v))/\Below wx.heap.size wx w':=by
 obtain ⟨c,up,us,uw,uh,o,hc⟩:=h.ow
 obtain ⟨x',hx⟩:∃ x',Y.sysIn vp vs vw vh up us uw uh=x':=⟨_,rfl⟩
 have ey:x'.y=Y:=by rw [<- hx];rfl
 have ev:x'.v=.agg #[vp,vs,vw,vh]:=by rw [<- hx];exact o.v
 have hG:SysG wx x':=by rw [<- hx];exact o.g
 have e1:x'.sn=x'.pn/\x'.hn=x'.pn/\x'.pn=Y.pn:=by
  have h1:x'.y.sn=x'.y.pn:=by rw [ey];exact hO.cn.2.1
  have h2:x'.y.hn=x'.y.pn:=by rw [ey];exact hO.cn.2.2.1
  have h3:x'.y.pn=Y.pn:=by rw [ey]
  exact ⟨h1,h2,h3⟩
 have:=holdsIn_any x' J k v wx hk hG (sm_inLen (by rw [ey];exact hO.sm)) (by omega) (by omega)
 have e2:hsB Y (J:Int) k v=hoB (x'.sQ J).s (x'.hH J) (x'.hL J) k v:=by
  rw [<- ey,hsB,spB,hk,Sy.okB_true (by rw [ey];exact hO),show belB (J:Int) x'.y.pn=true from decide_eq_true ⟨by omega,by have:x'.y.pn=x'.pn:=rfl;omega⟩]
  rfl
 rw [e2,<- ev]
 exact this
theorem UtB.own {w:World} {x:SysIn} {p k v:Int} {N F B A:Nat} {Y:Sy} {vp vs vw vh:Value} {wx:World} (h:UtB z w x p k v N F B A Y vp vs vw vh wx):OwnSys z ((((wx.setCell ⟨w.heap.size+1+1,0,none⟩ vp).setCell ⟨w.heap.size+1+1,1,none⟩ vs).setCell ⟨w.heap.size+1+1,2,none⟩ vw).setCell ⟨w.heap.size+1+1,3,none⟩ vh) w.heap.size Y (.agg #[vp,vs,vw,vh])/\Below w.heap.size w ((((wx.setCell ⟨w.heap.size+1+1,0,none⟩ vp).setCell ⟨w.heap.size+1+1,1,none⟩ vs).setCell ⟨w.heap.size+1+1,2,none⟩ vw).setCell ⟨w.heap.size+1+1,3,none⟩ vh):=by
 obtain ⟨c,up,us,uw,uh,o,hc⟩:=h.ow
 have o1:OwnSys z wx B Y (.agg #[vp,vs,vw,vh]):=⟨c,vp,vs,vw,vh,up,us,uw,uh,rfl,o⟩
 have l1:=h.nb.2.1
 exact ⟨((((o1.setBelow l1 0 _).setBelow l1 1 _).setBelow l1 2 _).setBelow l1 3 _).base (by omega),(((h.uw.be.setCell (leTwo _) _).setCell (leTwo _) _).setCell (leTwo _) _).setCell (leTwo _) _⟩
variable {z:Bool}
theorem unC_no {y:Sy} {h:Nat->Pk2} {n:Nat} {p k v:Int} (e:unB y p k n=false):unC y h n p k v = -1/\unY y h n p k v={ y with pn:=0,sn:=0,wn:=0,hn:=0 }:=by
 rw [unC,unY,e]
 exact ⟨rfl,rfl⟩
theorem unC_yes {y:Sy} {h:Nat->Pk2} {n:Nat} {p k v:Int} (e:unB y p k n=true):unC y h n p k v=(fsN (utF y h p k v) n 0:Int)/\unY y h n p k v=utY y h (fsN (utF y h p k v) n 0):=by
 rw [unC,unY,e]
 exact ⟨rfl,rfl⟩
theorem implUntil_any (x:SysIn) (la:Option Addr) (n lc:Nat) (h:Nat->Pk2) (p k v:Int) (w:World) (hG:SysG w x) (hL:x.Len) (hN:x.Nn z) (hP:PkL w la n h) (hn:n<=1048576) (hV:w.cell? ⟨0,0,none⟩=some (.iface 294 (.agg #[.pointer (some ⟨1,179,none⟩)]))):
  Calls Tryz.prog 31 #[x.v,.slice la n lc,spV p k v] w fun e w'=>∃ u,e=.returned (.tuple #[u,.int .i64 (unC x.y h n p k v)])/\OwnSys z w' w.heap.size (unY x.y h n p k v) u/\Below w.heap.size w w':=by
 have HV0:0<w.heap.size:=zK w _ hV
 have HS:Hid (∀ wx,Below w.heap.size w wx->Calls Tryz.prog 67 #[x.v,spV p k v] wx fun e w'=>e=.returned (.tuple #[qsO (spB x.y p k) p k v,.bool (spB x.y p k)])/\Below wx.heap.size wx w'):=fun wx hb=>questionIn_any x p k v wx (hG.below hb) hL ((hb.cell (p:=⟨0,0,none⟩) HV0).trans hV)
 have HC4:Hid (∀ wx,Below w.heap.size w wx->Calls Tryz.prog 77 #[x.v] wx fun e w'=>∃ v,e=.returned v/\OwnSys z w' wx.heap.size x.y v/\Below wx.heap.size wx w'):=fun wx hb=>copySys_any x wx (hG.below hb) hL hN
 have HX:Hid (Uw w x p k v (((w.alloc (oQ4 x.pa x.pn x.pc x.sa x.sn x.sc x.wa x.wn x.wc x.ha x.hn x.hc)).alloc (oQ5 p k v)).alloc (zQ1))):=Uw.new w x p k v _ _ _
 have HP:Hid (PkL w la n h):=hP
 have hn':(n:Int)<=1048576:=by omega
 rcases zO (spB x.y p k) with hT | hT
 case inr=>
  have HN:Hid (unC x.y h n p k v = -1/\unY x.y h n p k v={ x.y with pn:=0,sn:=0,wn:=0,hn:=0 }):=unC_no (by rw [unB,hT,Bool.false_and])
  rw [hT] at HS
  clear hG hL hN hP hT hV HV0 HC4 HP
  generalize unC x.y h n p k v=C at *
  generalize unY x.y h n p k v=Y at *
  go_enter Tryz.func31,Tryz.ntmps31
  go_wp2_with fail
  generalize ((w.alloc (oQ4 x.pa x.pn x.pc x.sa x.sn x.sc x.wa x.wn x.wc x.ha x.hn x.hc)).alloc (oQ5 p k v)).alloc (zQ1)=W2 at *
  refine (HS.out W2 HX.out.be).mono ?_
  rintro e w1 ⟨rfl,b1⟩
  rw [show qsO false p k v=qsZ from rfl]
  have H1:Hid (Uw w x p k v (w1.alloc (.cells #[.int .i64 0,.nilFunc] 101))):=(HX.out.below b1).below (zV _ _)
  clear b1 HX HS
  go_upto_region 2 with fail
  generalize w1.alloc (.cells #[.int .i64 0,.nilFunc] 101)=w2 at *
  obtain ⟨be,-,-,⟨r0,r1,r2,r3⟩,rf,lt⟩:=H1.out
  clear be
  go_wp2
  exact bodyPost_ret (v:=.tuple #[sysV none 0 0 none 0 0 none 0 0 none 0 0,.int .i64 (-1)]) (by simp [results,Tryz.results31,go_sem,r0,r1,r2,r3]) rfl ⟨_,by rw [HN.out.1],by rw [HN.out.2];exact OwnSys.zero _ _ _,(((H1.out.be.setCell (leTwo _) _).setCell (leTwo _) _).setCell (leTwo _) _).setCell (leTwo _) _⟩
 obtain ⟨h1,h2,h3⟩:=spB_parts hT
 have h4:0<=p/\p<(x.pn:Int):=of_decide_eq_true h2
 obtain ⟨J,rfl⟩:∃ J:Nat,p=(J:Int):=⟨p.toNat,by omega⟩
 have HO:Hid (x.y.Ok/\knB k=true/\J<x.y.pn/\spB x.y (J:Int) k=true):=⟨h3,h1,by show J<x.pn;omega,hT⟩
 rw [hT] at HS
 obtain ⟨C,hC⟩:∃ C,unC x.y h n J k v=C:=⟨_,rfl⟩
 obtain ⟨YW,hY⟩:∃ Y,unY x.y h n J k v=Y:=⟨_,rfl⟩
 have HCY:Hid (unC x.y h n J k v=C/\unY x.y h n J k v=YW):=⟨hC,hY⟩
 rw [hC,hY]
 clear hC hY
 clear hG hL hN hP hT hV HV0 h1 h2 h3 h4
 go_enter Tryz.func31,Tryz.ntmps31
 go_wp2_with fail
 generalize ((w.alloc (oQ4 x.pa x.pn x.pc x.sa x.sn x.sc x.wa x.wn x.wc x.ha x.hn x.hc)).alloc (oQ5 J k v)).alloc (zQ1)=W2 at *
 refine (HS.out W2 HX.out.be).mono ?_
 rintro e w1 ⟨rfl,b1⟩
 rw [show qsO true (J:Int) k v=qsV (J:Int) k v from rfl]
 have H1:Hid (Uw w x J k v (w1.alloc (.cells #[.int .i64 J,.func (.func (qsF k)) #[spV J k v] #[]] 101))):=(HX.out.below b1).below (zV _ _)
 have Q1:Hid (QsC (w1.alloc (.cells #[.int .i64 J,.func (.func (qsF k)) #[spV J k v] #[]] 101)) w1.heap.size (.int .i64 J) (.func (.func (qsF k)) #[spV J k v] #[])):=QsC.new w1 _ _ _
 have HHo:Hid (∀ (B A:Nat) (Y:Sy) (vp vs vw vh:Value) (wx:World),UtB z w x J k v w1.heap.size (qsF k) B A Y vp vs vw vh wx->Y.Ok->J<Y.pn->Calls Tryz.prog 73 #[.agg #[.int .i64 J,.func (.func (qsF k)) #[spV J k v] #[]],.agg #[vp,vs,vw,vh]] wx fun e w'=>e=.returned (.bool (hsB Y J k v))/\Below wx.heap.size wx w'):=fun B A Y vp vs vw vh wx hu hY hJ=>hu.holds hY HO.out.2.1 hJ
 clear b1 HX HS
 unfold qsV
 generalize qsF k=F at *
 go_upto_region 2 with fail
 generalize w1.alloc (.cells #[.int .i64 J,.func (.func F) #[spV J k v] #[]] 101)=w2 at *
 generalize w1.heap.size=N at *
 clear w1 W2
 by_cases h200:n<=200
 case neg=>
  have hgt:(200:Int)<(n:Int):=by omega
  have HN:Hid (C = -1/\YW={ x.y with pn:=0,sn:=0,wn:=0,hn:=0 }):=by
   have:=unC_no (y:=x.y) (h:=h) (n:=n) (p:=J) (k:=k) (v:=v) (by rw [unB,decide_eq_false h200,Bool.and_false])
   rw [HCY.out.1,HCY.out.2] at this
   exact this
  obtain ⟨be,-,-,⟨r0,r1,r2,r3⟩,rf,lt⟩:=H1.out
  clear be h200 HC4
  go_wp2
  exact bodyPost_ret (v:=.tuple #[sysV none 0 0 none 0 0 none 0 0 none 0 0,.int .i64 (-1)]) (by simp [results,Tryz.results31,go_sem,r0,r1,r2,r3]) rfl ⟨_,by rw [HN.out.1],by rw [HN.out.2];exact OwnSys.zero _ _ _,(((H1.out.be.setCell (leTwo _) _).setCell (leTwo _) _).setCell (leTwo _) _).setCell (leTwo _) _⟩
 have hgt:¬ (200:Int)<(n:Int):=by omega
 have HN:Hid (C=(fsN (utF x.y h J k v) n 0:Int)/\YW=utY x.y h (fsN (utF x.y h J k v) n 0)):=by
  have:=unC_yes (y:=x.y) (h:=h) (n:=n) (p:=J) (k:=k) (v:=v) (by rw [unB,HO.out.2.2.2,decide_eq_true h200];rfl)
  rw [HCY.out.1,HCY.out.2] at this
  exact this
 obtain ⟨-,⟨s0,s1,s2,s3⟩,-,-,-,lt⟩:=H1.out
 clear h200 lt
 go_wp2_with fail
 clear s0 s1 s2 s3 hgt
 refine (HC4.out w2 H1.out.be).mono ?_
 rintro e w3 ⟨v3,rfl,o3,q3⟩
 obtain ⟨c,vp,vs,vw,vh,up,us,uw,uh,rfl,o3⟩:=o3
 obtain ⟨pa,pc,rfl⟩:=zW o3.p.row
 obtain ⟨sa,sc,rfl⟩:=zW o3.s.row
 obtain ⟨wa,wc,rfl⟩:=zW o3.t.row
 obtain ⟨ha,hc,rfl⟩:=zW o3.h.row
 have ba:=zT w3 (oQ4 pa x.y.pn pc sa x.y.sn sc wa x.y.wn wc ha x.y.hn hc)
 have Q4:=q3.trans (ba.mono q3.size)
 have L4:Hid (UtB z w x J k v N F w2.heap.size w3.heap.size (utY x.y h 0) (.slice pa x.y.pn pc) (.slice sa x.y.sn sc) (.slice wa x.y.wn wc) (.slice ha x.y.hn hc) (w3.alloc (oQ4 pa x.y.pn pc sa x.y.sn sc wa x.y.wn wc ha x.y.hn hc))):=⟨H1.out.below Q4,Q1.out.below Q4,BoxC.new w3 _ _ _ _ _,⟨_,up,us,uw,uh,(o3.recol 0).below ba,rcol_new (Nat.le_refl _)⟩,zK w2 _ Q1.out.c0,H1.out.lt,q3.size⟩
 go_upto_region 5 with fail
 clear o3 q3 ba Q4 H1 Q1 HC4
 generalize w2.heap.size=B at *
 generalize w3.heap.size=A at *
 generalize w3.alloc (oQ4 pa x.y.pn pc sa x.y.sn sc wa x.y.wn wc ha x.y.hn hc)=w4 at *
 clear w2 w3
 go_wp2_with fail
 go_loopw [31] (fun i wr=>∃ j:Nat,j<=n/\i=.int .i64 j/\Hid (fsN (utF x.y h J k v) n 0=fsN (utF x.y h J k v) (n - j) j)/\Hid (UtB z w x J k v N F B A (utY x.y h j) (.slice pa x.y.pn pc) (.slice sa x.y.sn sc) (.slice wa x.y.wn wc) (.slice ha x.y.hn hc) wr)) (fun i _=>n - (intOf i).toNat)
 case atStart=>exact ⟨0,Nat.zero_le _,rfl,rfl,L4.out⟩
 case round=>
  clear L4
  obtain ⟨j,hj,rfl,HQ,HW⟩:=hrel
  by_cases hlt:j<n
  ·have hlt':(j:Int)<(n:Int):=by omega
   have hj1:(j:Int)<=1048576:=by omega
   obtain ⟨b,off,rfl,hb,c0,c1⟩:=(HP.out.below HW.out.uw.be).at hlt
   have HQ2:Hid (fsN (utF x.y h J k v) n 0=if utF x.y h J k v j=true then j+1 else fsN (utF x.y h J k v) (n - (j+1)) (j+1)):=by
    have e1:=HQ.out
    rw [show n - j=(n - (j+1))+1 by omega] at e1
    exact e1
   have HF:Hid (utF x.y h J k v j=((stC (utY x.y h j) (h j).m (h j).v == 0) && hsB (utY x.y h (j+1)) J k v)):=rfl
   have HOj:Hid ((utY x.y h j).Ok/\(utY x.y h (j+1)).Ok/\J<(utY x.y h (j+1)).pn):=⟨utY_ok HO.out.1 h j,utY_ok HO.out.1 h (j+1),by rw [utY_pn HO.out.1];exact HO.out.2.2.1⟩
   have HW1:Hid (UtB z w x J k v N F B A (utY x.y h j) (.slice pa x.y.pn pc) (.slice sa x.y.sn sc) (.slice wa x.y.wn wc) (.slice ha x.y.hn hc) (wr.alloc (.cells #[.int .i64 (h j).m,.int .i64 (h j).v] 112))):=HW.out.below (zV _ _)
   have K1:Hid (QsC (wr.alloc (.cells #[.int .i64 (h j).m,.int .i64 (h j).v] 112)) wr.heap.size (.int .i64 (h j).m) (.int .i64 (h j).v)):=QsC.new wr _ _ _
   clear HQ
   go_upto_region 8 with fail
   clear c0 c1 HW
   generalize wr.heap.size=P at *
   generalize wr.alloc (.cells #[.int .i64 (h j).m,.int .i64 (h j).v] 112)=w5 at *
   clear wr
   obtain ⟨a0,a1,a2,a3⟩:=HW1.out.bx
   obtain ⟨k0,k1,-⟩:=K1.out
   have HSt:=HW1.out.step HOj.out.1 (h j).m (h j).v
   have HSt2:Hid (Calls Tryz.prog 78 #[.agg #[.slice pa x.y.pn pc,.slice sa x.y.sn sc,.slice wa x.y.wn wc,.slice ha x.y.hn hc],pkV (h j).m (h j).v] w5 fun e w'=>e=.returned (.int .i64 (stC (utY x.y h j) (h j).m (h j).v))/\UtB z w x J k v N F B A (utY x.y h (j+1)) (.slice pa x.y.pn pc) (.slice sa x.y.sn sc) (.slice wa x.y.wn wc) (.slice ha x.y.hn hc) w'):=HSt
   clear HSt
   generalize stC (utY x.y h j) (h j).m (h j).v=Cd at *
   go_wp2_with fail
   refine HSt2.out.mono ?_
   clear a0 a1 a2 a3 k0 k1 HSt2 HW1 K1
   rintro e w6 ⟨rfl,u6⟩
   have U6:Hid (UtB z w x J k v N F B A (utY x.y h (j+1)) (.slice pa x.y.pn pc) (.slice sa x.y.sn sc) (.slice wa x.y.wn wc) (.slice ha x.y.hn hc) w6):=u6
   clear u6
   obtain ⟨a0,a1,a2,a3⟩:=U6.out.bx
   obtain ⟨q0,q1,-⟩:=U6.out.qs
   rcases zO (Cd == 0) with tc | tc
   case inr=>
    have HQ3:Hid (fsN (utF x.y h J k v) n 0=fsN (utF x.y h J k v) (n - (j+1)) (j+1)):=by
     show _=_
     rw [HQ2.out,HF.out,tc,Bool.false_and]
     rfl
    clear HQ2 HF
    go_wp2
    go_roundw
    case rel=>exact ⟨j+1,by omega,by go_num,HQ3.out,U6.out⟩
    case measure=>simp [intOf];omega
   have HHo2:Hid (Calls Tryz.prog 73 #[.agg #[.int .i64 J,.func (.func F) #[spV J k v] #[]],.agg #[.slice pa x.y.pn pc,.slice sa x.y.sn sc,.slice wa x.y.wn wc,.slice ha x.y.hn hc]] w6 fun e w'=>e=.returned (.bool (hsB (utY x.y h (j+1)) J k v))/\Below w6.heap.size w6 w'):=HHo.out _ _ _ _ _ _ _ w6 U6.out HOj.out.2.1 HOj.out.2.2
   have HF2:Hid (utF x.y h J k v j=hsB (utY x.y h (j+1)) J k v):=by
    show _=_
    rw [HF.out,tc,Bool.true_and]
   clear HF
   generalize hsB (utY x.y h (j+1)) J k v=R at *
   go_wp2_with fail
   refine HHo2.out.mono ?_
   clear a0 a1 a2 a3 q0 q1 HHo2
   rintro e w7 ⟨rfl,b7⟩
   have U7:Hid (UtB z w x J k v N F B A (utY x.y h (j+1)) (.slice pa x.y.pn pc) (.slice sa x.y.sn sc) (.slice wa x.y.wn wc) (.slice ha x.y.hn hc) w7):=U6.out.below b7
   clear b7 U6 tc
   cases R with
   | false=>
    have HQ3:Hid (fsN (utF x.y h J k v) n 0=fsN (utF x.y h J k v) (n - (j+1)) (j+1)):=by
     show _=_
     rw [HQ2.out,HF2.out]
     rfl
    clear HQ2 HF2
    go_wp2
    go_roundw
    case rel=>exact ⟨j+1,by omega,by go_num,HQ3.out,U7.out⟩
    case measure=>simp [intOf];omega
   | true=>
    have HQ3:Hid (C=((j+1:Nat):Int)/\YW=utY x.y h (j+1)):=by
     have e1:fsN (utF x.y h J k v) n 0=j+1:=by
      rw [HQ2.out,HF2.out]
      rfl
     exact ⟨by rw [HN.out.1,e1],by rw [HN.out.2,e1]⟩
    clear HQ2 HF2
    obtain ⟨a0,a1,a2,a3⟩:=U7.out.bx
    obtain ⟨r0,r1,r2,r3⟩:=U7.out.uw.bo
    have rf:=U7.out.uw.fo
    go_wp2
    exact bodyPost_ret (v:=.tuple #[.agg #[.slice pa x.y.pn pc,.slice sa x.y.sn sc,.slice wa x.y.wn wc,.slice ha x.y.hn hc],.int .i64 ((j:Int)+1)]) (by simp [results,Tryz.results31,go_sem,r0,r1,r2,r3]) rfl ⟨_,by rw [HQ3.out.1];rfl,by rw [HQ3.out.2];exact U7.out.own.1,U7.out.own.2⟩
  ·have hjn:j=n:=by omega
   have HQ3:Hid (C=(n:Int)/\YW=utY x.y h n):=by
    have e1:fsN (utF x.y h J k v) n 0=n:=by
     have e2:=HQ.out
     rw [hjn,Nat.sub_self] at e2
     exact e2
    exact ⟨by rw [HN.out.1,e1],by rw [HN.out.2,e1]⟩
   subst hjn
   obtain ⟨a0,a1,a2,a3⟩:=HW.out.bx
   obtain ⟨r0,r1,r2,r3⟩:=HW.out.uw.bo
   have rf:=HW.out.uw.fo
   clear HQ hlt
   go_wp2
   exact bodyPost_ret (v:=.tuple #[.agg #[.slice pa x.y.pn pc,.slice sa x.y.sn sc,.slice wa x.y.wn wc,.slice ha x.y.hn hc],.int .i64 j]) (by simp [results,Tryz.results31,go_sem,r0,r1,r2,r3]) rfl ⟨_,by rw [HQ3.out.1],by rw [HQ3.out.2];exact HW.out.own.1,HW.out.own.2⟩
theorem OwnSys.inU {z:Bool} {w:World} {B:Nat} {y:Sy} {v:Value} (o:OwnSys z w B y v):∃ x:SysIn,v=x.v/\x.y=y/\SysG w x/\∀ i,i<x.hn->x.hL i<=x.hC i:=by
 obtain ⟨c,vp,vs,vw,vh,up,us,uw,uh,rfl,o⟩:=o
 refine ⟨y.sysIn vp vs vw vh up us uw uh,o.v.symm,rfl,o.g,fun i hi=>?_⟩
 rcases (o.h.own i hi).2 with ⟨e,h⟩ | ⟨g,cap,cur,e,_,_,hnc,_⟩
 ·show y.hL i<=cpOf (uh i)
  rw [h];exact Nat.zero_le _
 ·show y.hL i<=cpOf (uh i)
  rw [e];exact hnc
structure UtO (w:World) (M B:Nat) (Y:Sy) (vp vs vw vh:Value):Prop where
 bx:BoxC w M vp vs vw vh
 ow:OwnSys true w B Y (.agg #[vp,vs,vw,vh])
theorem UtO.below {w w':World} {M B:Nat} {Y:Sy} {vp vs vw vh:Value} (h:UtO w M B Y vp vs vw vh) (hb:Below w.heap.size w w'):UtO w' M B Y vp vs vw vh:=⟨h.bx.below hb,h.ow.below hb⟩
structure UtS (w:World) (x:SysIn) (p k v:Int) (M B:Nat) (Y:Sy) (wx:World):Prop where
 uw:Uw w x p k v wx
 fm:∀ j,wx.frozen? ⟨M,j,none⟩=false
 ow:∃ pa pc sa sc wa wc ha hc,UtO wx M B Y (.slice pa Y.pn pc) (.slice sa Y.sn sc) (.slice wa Y.wn wc) (.slice ha Y.hn hc)
 nb:w.heap.size+1+1<B/\B<=M
theorem UtS.below {w:World} {x:SysIn} {p k v:Int} {M B:Nat} {Y:Sy} {wx wy:World} (h:UtS w x p k v M B Y wx) (hb:Below wx.heap.size wx wy):UtS w x p k v M B Y wy:=by
 obtain ⟨pa,pc,sa,sc,wa,wc,ha,hc,o⟩:=h.ow
 exact ⟨h.uw.below hb,fun j=>((bcell hb).2 M j (zK wx _ o.bx.1)).trans (h.fm j),⟨pa,pc,sa,sc,wa,wc,ha,hc,o.below hb⟩,h.nb⟩
theorem UtS.put {w:World} {x:SysIn} {p k v:Int} {M B N L:Nat} {Y0 Y1:Sy} {wx:World} {pa sa wa ha:Option Addr} {pc sc wc hc:Nat} (h:UtS w x p k v M B Y0 wx) (o:UtO wx N L Y1 (.slice pa Y1.pn pc) (.slice sa Y1.sn sc) (.slice wa Y1.wn wc) (.slice ha Y1.hn hc)) (hM:M<L) (hB:B<=L):
  UtS w x p k v M B Y1 ((((wx.setCell ⟨M,0,none⟩ (.slice pa Y1.pn pc)).setCell ⟨M,1,none⟩ (.slice sa Y1.sn sc)).setCell ⟨M,2,none⟩ (.slice wa Y1.wn wc)).setCell ⟨M,3,none⟩ (.slice ha Y1.hn hc))/\UtO ((((wx.setCell ⟨M,0,none⟩ (.slice pa Y1.pn pc)).setCell ⟨M,1,none⟩ (.slice sa Y1.sn sc)).setCell ⟨M,2,none⟩ (.slice wa Y1.wn wc)).setCell ⟨M,3,none⟩ (.slice ha Y1.hn hc)) M B Y1 (.slice pa Y1.pn pc) (.slice sa Y1.sn sc) (.slice wa Y1.wn wc) (.slice ha Y1.hn hc):=by
 obtain ⟨pa',pc',sa',sc',wa',wc',ha',hc',o'⟩:=h.ow
 have hb:Below B wx ((((wx.setCell ⟨M,0,none⟩ (.slice pa Y1.pn pc)).setCell ⟨M,1,none⟩ (.slice sa Y1.sn sc)).setCell ⟨M,2,none⟩ (.slice wa Y1.wn wc)).setCell ⟨M,3,none⟩ (.slice ha Y1.hn hc)):=((((Below.refl B wx).setCell h.nb.2 _).setCell h.nb.2 _).setCell h.nb.2 _).setCell h.nb.2 _
 have u:UtO ((((wx.setCell ⟨M,0,none⟩ (.slice pa Y1.pn pc)).setCell ⟨M,1,none⟩ (.slice sa Y1.sn sc)).setCell ⟨M,2,none⟩ (.slice wa Y1.wn wc)).setCell ⟨M,3,none⟩ (.slice ha Y1.hn hc)) M B Y1 (.slice pa Y1.pn pc) (.slice sa Y1.sn sc) (.slice wa Y1.wn wc) (.slice ha Y1.hn hc):=⟨o'.bx.set4 _ _ _ _,((((o.ow.setBelow hM 0 _).setBelow hM 1 _).setBelow hM 2 _).setBelow hM 3 _).base hB⟩
 exact ⟨⟨h.uw.keep h.nb.1 hb,fun j=>by simpa using h.fm j,⟨pa,pc,sa,sc,wa,wc,ha,hc,u⟩,h.nb⟩,u⟩
theorem UtS.out {w:World} {x:SysIn} {p k v:Int} {M B:Nat} {Y:Sy} {wx:World} {vp vs vw vh:Value} (h:UtS w x p k v M B Y wx) (o:UtO wx M B Y vp vs vw vh):OwnSys true ((((wx.setCell ⟨w.heap.size+1+1,0,none⟩ vp).setCell ⟨w.heap.size+1+1,1,none⟩ vs).setCell ⟨w.heap.size+1+1,2,none⟩ vw).setCell ⟨w.heap.size+1+1,3,none⟩ vh) w.heap.size Y (.agg #[vp,vs,vw,vh])/\Below w.heap.size w ((((wx.setCell ⟨w.heap.size+1+1,0,none⟩ vp).setCell ⟨w.heap.size+1+1,1,none⟩ vs).setCell ⟨w.heap.size+1+1,2,none⟩ vw).setCell ⟨w.heap.size+1+1,3,none⟩ vh):=by
 have l1:=h.nb.1
 exact ⟨((((o.ow.setBelow l1 0 _).setBelow l1 1 _).setBelow l1 2 _).setBelow l1 3 _).base (by omega),(((h.uw.be.setCell (leTwo _) _).setCell (leTwo _) _).setCell (leTwo _) _).setCell (leTwo _) _⟩
theorem specUntil_any (x:SysIn) (la:Option Addr) (n lc:Nat) (h:Nat->Pk2) (p k v:Int) (w:World) (hG:SysG w x) (hL:x.Len) (hcap:∀ i,i<x.hn->x.hL i<=x.hC i) (hP:PkL w la n h) (hn:n<=1048576):
  Calls Tryz.prog 29 #[x.v,.slice la n lc,spV p k v] w fun e w'=>∃ u,e=.returned (.tuple #[u,.int .i64 (unC x.y h n p k v)])/\OwnSys true w' w.heap.size (unY x.y h n p k v) u/\Below w.heap.size w w':=by
 have HS:Hid (∀ wx,Below w.heap.size w wx->Calls Tryz.prog 21 #[x.v,spV p k v] wx fun e w'=>e=.returned (.bool (spB x.y p k))/\Below wx.heap.size wx w'):=fun wx hb=>specStopOk_any x p k v wx (hG.below hb) hL hcap
 have HC4:Hid (∀ wx,Below w.heap.size w wx->Calls Tryz.prog 74 #[x.v] wx fun e w'=>∃ v,e=.returned v/\OwnSys true w' wx.heap.size x.y v/\Below wx.heap.size wx w'):=fun wx hb=>l4Copy_any x wx (hG.below hb) hL
 have HX:Hid (Uw w x p k v (((w.alloc (oQ4 x.pa x.pn x.pc x.sa x.sn x.sc x.wa x.wn x.wc x.ha x.hn x.hc)).alloc (oQ5 p k v)).alloc (zQ1))):=Uw.new w x p k v _ _ _
 have HP:Hid (PkL w la n h):=hP
 have hn':(n:Int)<=1048576:=by omega
 obtain ⟨C,hC⟩:∃ C,unC x.y h n p k v=C:=⟨_,rfl⟩
 obtain ⟨YW,hY⟩:∃ Y,unY x.y h n p k v=Y:=⟨_,rfl⟩
 have HCY:Hid (unC x.y h n p k v=C/\unY x.y h n p k v=YW):=⟨hC,hY⟩
 rw [hC,hY]
 clear hC hY hP
 have HG:Hid (SysG w x):=hG
 obtain ⟨T,hT⟩:∃ T,spB x.y p k=T:=⟨_,rfl⟩
 have HT:Hid (spB x.y p k=T):=hT
 rw [hT] at HS
 clear hG hL hcap hT
 go_enter Tryz.func29,Tryz.ntmps29
 go_wp2_with fail
 generalize ((w.alloc (oQ4 x.pa x.pn x.pc x.sa x.sn x.sc x.wa x.wn x.wc x.ha x.hn x.hc)).alloc (oQ5 p k v)).alloc (zQ1)=W2 at *
 refine (HS.out W2 HX.out.be).mono ?_
 rintro e w2 ⟨rfl,b1⟩
 have H1:Hid (Uw w x p k v w2):=HX.out.below b1
 clear b1 HX HS W2
 by_cases hu:T=true/\n<=200
 case neg=>
  have HN:Hid (C = -1/\YW={ x.y with pn:=0,sn:=0,wn:=0,hn:=0 }):=by
   have := unC_no (y := x.y) (h := h) (n := n) (p := p) (k := k) (v := v) (by
    rw [unB,HT.out]
    cases T with
    | false=>rfl
    | true=>rw [decide_eq_false fun h9=>hu ⟨rfl,h9⟩];rfl)
   rw [HCY.out.1,HCY.out.2] at this
   exact this
  obtain ⟨be,-,-,⟨r0,r1,r2,r3⟩,rf,lt⟩:=H1.out
  clear be HC4 HT HCY
  cases T with
  | false=>
   clear hu
   go_wp2
   exact bodyPost_ret (v:=.tuple #[sysV none 0 0 none 0 0 none 0 0 none 0 0,.int .i64 (-1)]) (by simp [results,Tryz.results29,go_sem,r0,r1,r2,r3]) rfl ⟨_,by rw [HN.out.1],by rw [HN.out.2];exact OwnSys.zero _ _ _,(((H1.out.be.setCell (leTwo _) _).setCell (leTwo _) _).setCell (leTwo _) _).setCell (leTwo _) _⟩
  | true=>
   have hgt:(200:Int)<(n:Int):=by
    have:¬ n<=200:=fun h9=>hu ⟨rfl,h9⟩
    omega
   clear hu
   go_wp2
   exact bodyPost_ret (v:=.tuple #[sysV none 0 0 none 0 0 none 0 0 none 0 0,.int .i64 (-1)]) (by simp [results,Tryz.results29,go_sem,r0,r1,r2,r3]) rfl ⟨_,by rw [HN.out.1],by rw [HN.out.2];exact OwnSys.zero _ _ _,(((H1.out.be.setCell (leTwo _) _).setCell (leTwo _) _).setCell (leTwo _) _).setCell (leTwo _) _⟩
 obtain ⟨rfl,h200⟩:=hu
 have HN:Hid (C=(fsN (utF x.y h p k v) n 0:Int)/\YW=utY x.y h (fsN (utF x.y h p k v) n 0)):=by
  have:=unC_yes (y:=x.y) (h:=h) (n:=n) (p:=p) (k:=k) (v:=v) (by rw [unB,HT.out,decide_eq_true h200];rfl)
  rw [HCY.out.1,HCY.out.2] at this
  exact this
 have HO:Hid x.y.Ok:=(spB_parts HT.out).2.2
 have hgt:¬ (200:Int)<(n:Int):=by omega
 obtain ⟨-,⟨s0,s1,s2,s3⟩,-,-,-,lt⟩:=H1.out
 clear h200 lt HCY HT
 go_wp2_with fail
 clear s0 s1 s2 s3 hgt
 refine (HC4.out w2 H1.out.be).mono ?_
 rintro e w3 ⟨v3,rfl,o3,q3⟩
 obtain ⟨pa,pc,sa,sc,wa,wc,ha,hc,rfl⟩:=o3.form
 have ba:=zT w3 (oQ4 pa x.y.pn pc sa x.y.sn sc wa x.y.wn wc ha x.y.hn hc)
 have Q4:=q3.trans (ba.mono q3.size)
 have L4:Hid (UtS w x p k v w3.heap.size w2.heap.size (utY x.y h 0) (w3.alloc (oQ4 pa x.y.pn pc sa x.y.sn sc wa x.y.wn wc ha x.y.hn hc))):=⟨H1.out.below Q4,fun j=>yD _ _ _ _ rfl,⟨pa,pc,sa,sc,wa,wc,ha,hc,BoxC.new w3 _ _ _ _ _,o3.below ba⟩,H1.out.lt,q3.size⟩
 go_upto_region 4 with fail
 clear o3 q3 ba Q4 H1 HC4
 generalize w2.heap.size=B at *
 generalize w3.heap.size=M at *
 generalize w3.alloc (oQ4 pa x.y.pn pc sa x.y.sn sc wa x.y.wn wc ha x.y.hn hc)=w4 at *
 clear w2 w3
 go_wp2_with fail
 go_loopw [9] (fun i wr=>∃ j:Nat,j<=n/\i=.int .i64 j/\Hid (fsN (utF x.y h p k v) n 0=fsN (utF x.y h p k v) (n - j) j)/\Hid (UtS w x p k v M B (utY x.y h j) wr)) (fun i _=>n - (intOf i).toNat)
 case atStart=>exact ⟨0,Nat.zero_le _,rfl,rfl,L4.out⟩
 case round=>
  clear L4
  obtain ⟨j,hj,rfl,HQ,HW⟩:=hrel
  obtain ⟨pa,pc,sa,sc,wa,wc,ha,hc,hUo⟩:=HW.out.ow
  have UO:Hid (UtO wr M B (utY x.y h j) (.slice pa (utY x.y h j).pn pc) (.slice sa (utY x.y h j).sn sc) (.slice wa (utY x.y h j).wn wc) (.slice ha (utY x.y h j).hn hc)):=hUo
  clear hUo
  by_cases hlt:j<n
  ·have hlt':(j:Int)<(n:Int):=by omega
   have hj1:(j:Int)<=1048576:=by omega
   obtain ⟨b,off,rfl,hb,c0,c1⟩:=(HP.out.below HW.out.uw.be).at hlt
   have HQ2:Hid (fsN (utF x.y h p k v) n 0=if utF x.y h p k v j=true then j+1 else fsN (utF x.y h p k v) (n - (j+1)) (j+1)):=by
    have e1:=HQ.out
    rw [show n - j=(n - (j+1))+1 by omega] at e1
    exact e1
   have HF:Hid (utF x.y h p k v j=((stC (utY x.y h j) (h j).m (h j).v == 0) && hsB (utY x.y h (j+1)) p k v)):=rfl
   have HSt:Hid (∀ wx,Below wr.heap.size wr wx->Calls Tryz.prog 75 #[.agg #[.slice pa (utY x.y h j).pn pc,.slice sa (utY x.y h j).sn sc,.slice wa (utY x.y h j).wn wc,.slice ha (utY x.y h j).hn hc],.int .i64 (h j).m,.int .i64 (h j).v] wx fun e w'=>∃ v,e=.returned (.tuple #[v,.int .i64 (stC (utY x.y h j) (h j).m (h j).v)])/\OwnSys true w' wx.heap.size (utY x.y h (j+1)) v/\Below wx.heap.size wx w'):=fun wx hbx=>by
    obtain ⟨x',e1,e2,g',cp'⟩:=(UO.out.ow.below hbx).inU
    have h9:=specStep_any x' (h j).m (h j).v wx g' (sm_inLen (by rw [e2];exact (utY_ok HO.out h j).sm)) cp'
    rw [e2,<- e1] at h9
    exact h9
   have HZ:Hid (stC (utY x.y h j) (h j).m (h j).v≠0->utY x.y h (j+1)=utY x.y h j):=fun h9=>by
    show stY (utY x.y h j) (h j).m (h j).v=_
    have ok:=Sy.okB_true (utY_ok HO.out h j)
    rw [stC,if_pos ok] at h9
    rw [stY,if_pos ok]
    by_cases hb9:belB (h j).m (utY x.y h j).pn=true
    ·rw [if_pos hb9] at h9 ⊢
     exact Sy.step_no h9
    ·rw [if_neg hb9]
   have HHo:Hid (∀ (B':Nat) (u:Value) (wx:World),OwnSys true wx B' (utY x.y h (j+1)) u->Calls Tryz.prog 26 #[u,spV p k v] wx fun e w'=>e=.returned (.bool (hsB (utY x.y h (j+1)) p k v))/\Below wx.heap.size wx w'):=fun B' u wx o=>by
    obtain ⟨x',rfl,e2,g',cp'⟩:=o.inU
    have h9:=specHolds_any x' p k v wx g' (sm_inLen (by rw [e2];exact (utY_ok HO.out h (j+1)).sm)) cp'
    rw [e2] at h9
    exact h9
   obtain ⟨Y0,hY0⟩:∃ Y0,utY x.y h j=Y0:=⟨_,rfl⟩
   obtain ⟨Y1,hY1⟩:∃ Y1,utY x.y h (j+1)=Y1:=⟨_,rfl⟩
   have HY1:Hid (utY x.y h (j+1)=Y1):=hY1
   have HY0:Hid (utY x.y h j=Y0):=hY0
   rw [hY0,hY1] at HF HSt HZ
   rw [hY1] at HHo
   rw [hY0] at HW UO
   clear hY0 hY1 HQ
   generalize stC Y0 (h j).m (h j).v=Cd at *
   have lM:M<wr.heap.size:=zK wr _ UO.out.bx.1
   obtain ⟨a0,a1,a2,a3⟩:=UO.out.bx
   have d1:wr.heap.size≠M:=by omega
   have d2:wr.heap.size≠b:=by omega
   go_upto_region 7 with fail
   go_cut [10,11] from 30 to 44 (fun s t wx=>∃ N:Nat,s=.pointer (some ⟨N,0,none⟩)/\t=.int .i64 Cd/\Hid (Below wr.heap.size wr wx/\wr.heap.size<=N/\∃ pa pc sa sc wa wc ha hc,UtO wx N wr.heap.size Y1 (.slice pa Y1.pn pc) (.slice sa Y1.sn sc) (.slice wa Y1.wn wc) (.slice ha Y1.hn hc)))
   case first=>
    go_region_held3 (fun w'=>w'.cell? ⟨M,0,none⟩=some (.slice pa Y0.pn pc)/\w'.cell? ⟨M,1,none⟩=some (.slice sa Y0.sn sc)/\w'.cell? ⟨M,2,none⟩=some (.slice wa Y0.wn wc)/\w'.cell? ⟨M,3,none⟩=some (.slice ha Y0.hn hc)/\w'.cell? ⟨b,off+j*2,none⟩=some (.int .i64 (h j).m)/\w'.cell? ⟨b,off+j*2+1,none⟩=some (.int .i64 (h j).v)) (go_keep)
     (first
      | (go_at_call 75;refine (HSt.out _ (by go_grown)).mono ?_;rintro e w5 ⟨v5,rfl,o5,b5⟩;obtain ⟨pa5,pc5,sa5,sc5,wa5,wc5,ha5,hc5,rfl⟩:=o5.form;have q5:Below wr.heap.size wr w5:=below_up (by go_grown) b5 (by simp);(try simp only [World.size_alloc,World.size_drew] at o5);have O5:Hid (OwnSys true w5 _ Y1 (.agg #[.slice pa5 Y1.pn pc5,.slice sa5 Y1.sn sc5,.slice wa5 Y1.wn wc5,.slice ha5 Y1.hn hc5])):=o5;obtain ⟨hc5',hf5⟩:=bcell b5;have z5:=b5.size;(try simp only [World.size_alloc,World.size_drew,Nat.add_one_le_iff] at z5);have j5:wr.heap.size<=w5.heap.size:=q5.size;have Q5:Hid (Below wr.heap.size wr w5):=q5;have y0:=(q5.cell (p:=⟨M,0,none⟩) lM).trans a0;have y1:=(q5.cell (p:=⟨M,1,none⟩) lM).trans a1;have y2:=(q5.cell (p:=⟨M,2,none⟩) lM).trans a2;have y3:=(q5.cell (p:=⟨M,3,none⟩) lM).trans a3;have y4:=(q5.cell (p:=⟨b,off+j*2,none⟩) hb).trans c0;have y5:=(q5.cell (p:=⟨b,off+j*2+1,none⟩) hb).trans c1;clear o5 b5 q5))
    all_goals
     go_wp2_with fail
     go_meet
     case rel=>
      first
      | (refine ⟨w5.heap.size, by with_reducible rfl, rfl, ?_⟩
         exact ⟨Q5.out.trans ((zV _ _).mono j5),j5,_,_,_,_,_,_,_,_,BoxC.new _ _ _ _ _ _,(O5.out.base (by omega)).below (zV _ _)⟩)
      | (refine ⟨wr.heap.size, by with_reducible rfl, rfl, ?_⟩
         exact ⟨(((Q5.out.setCell (Nat.le_refl _) _).setCell (Nat.le_refl _) _).setCell (Nat.le_refl _) _).setCell (Nat.le_refl _) _,Nat.le_refl _,_,_,_,_,_,_,_,_,BoxC.set4 (z0:=.slice none 0 0) (z1:=.slice none 0 0) (z2:=.slice none 0 0) (z3:=.slice none 0 0) ⟨by rw [hc5' _ _ (by simp)];simp,by rw [hc5' _ _ (by simp)];simp,by rw [hc5' _ _ (by simp)];simp,by rw [hc5' _ _ (by simp)];simp⟩ _ _ _ _,((((O5.out.setBelow (Nat.lt_succ_self _) 0 _).setBelow (Nat.lt_succ_self _) 1 _).setBelow (Nat.lt_succ_self _) 2 _).setBelow (Nat.lt_succ_self _) 3 _).base (by omega)⟩)
   case rest=>
    obtain ⟨N,rfl,rfl,HR⟩:=hcut
    have W5:Hid (UtS w x p k v M B Y0 wc):=HW.out.below HR.out.1
    have LM:Hid (M<wr.heap.size/\B<=wr.heap.size):=⟨lM,by have:=HW.out.nb;omega⟩
    obtain ⟨pa,pc,sa,sc,wa,wc',ha,hc,hUn⟩:=HR.out.2.2
    have UN:Hid (UtO wc N wr.heap.size Y1 (.slice pa Y1.pn pc) (.slice sa Y1.sn sc) (.slice wa Y1.wn wc') (.slice ha Y1.hn hc)):=hUn
    clear hUn HR a0 a1 a2 a3 c0 c1 d1 d2 lM hb HW UO HSt
    by_cases hc0:Cd=0
    case neg=>
     have tc:(Cd != 0)=true:=by simpa using hc0
     have HQ3:Hid (fsN (utF x.y h p k v) n 0=fsN (utF x.y h p k v) (n - (j+1)) (j+1)):=by
      show _=_
      rw [HQ2.out,HF.out,show (Cd == 0)=false by simpa using hc0,Bool.false_and]
      rfl
     have W6:Hid (UtS w x p k v M B (utY x.y h (j+1)) wc):=by
      show UtS w x p k v M B (utY x.y h (j+1)) wc
      rw [HY1.out,HZ.out hc0]
      exact W5.out
     clear HQ2 HF hc0 HZ W5 UN HHo
     go_wp2
     go_roundw
     case rel=>exact ⟨j+1,by omega,by go_num,HQ3.out,W6.out⟩
     case measure=>simp [intOf];omega
    have tc:(Cd != 0)=false:=by simpa using hc0
    have HF2:Hid (utF x.y h p k v j=hsB Y1 p k v):=by
     show _=_
     rw [HF.out,show (Cd == 0)=true by simpa using hc0,Bool.true_and]
    have W6:Hid (UtS w x p k v M B Y1 ((((wc.setCell ⟨M,0,none⟩ (.slice pa Y1.pn pc)).setCell ⟨M,1,none⟩ (.slice sa Y1.sn sc)).setCell ⟨M,2,none⟩ (.slice wa Y1.wn wc')).setCell ⟨M,3,none⟩ (.slice ha Y1.hn hc))/\UtO ((((wc.setCell ⟨M,0,none⟩ (.slice pa Y1.pn pc)).setCell ⟨M,1,none⟩ (.slice sa Y1.sn sc)).setCell ⟨M,2,none⟩ (.slice wa Y1.wn wc')).setCell ⟨M,3,none⟩ (.slice ha Y1.hn hc)) M B Y1 (.slice pa Y1.pn pc) (.slice sa Y1.sn sc) (.slice wa Y1.wn wc') (.slice ha Y1.hn hc)):=W5.out.put UN.out LM.out.1 LM.out.2
    obtain ⟨n0,n1,n2,n3⟩:=UN.out.bx
    obtain ⟨pa0,pc0,sa0,sc0,wa0,wc0,ha0,hc9,hU0⟩:=W5.out.ow
    obtain ⟨m0,m1,m2,m3⟩:=hU0.bx
    have mf:=W5.out.fm
    clear HF hc0 HZ hU0
    go_upto_region 10 with fail
    clear n0 n1 n2 n3 m0 m1 m2 m3 mf tc UN W5 LM
    generalize (((wc.setCell ⟨M,0,none⟩ (.slice pa Y1.pn pc)).setCell ⟨M,1,none⟩ (.slice sa Y1.sn sc)).setCell ⟨M,2,none⟩ (.slice wa Y1.wn wc')).setCell ⟨M,3,none⟩ (.slice ha Y1.hn hc)=w6 at *
    have HH2:Hid (Calls Tryz.prog 26 #[.agg #[.slice pa Y1.pn pc,.slice sa Y1.sn sc,.slice wa Y1.wn wc',.slice ha Y1.hn hc],spV p k v] w6 fun e w'=>e=.returned (.bool (hsB Y1 p k v))/\Below w6.heap.size w6 w'):=HHo.out _ _ w6 W6.out.2.ow
    generalize hsB Y1 p k v=R at *
    obtain ⟨m0,m1,m2,m3⟩:=W6.out.2.bx
    obtain ⟨x0,x1,x2,-⟩:=W6.out.1.uw.bx
    clear HHo
    go_wp2_with fail
    refine HH2.out.mono ?_
    clear m0 m1 m2 m3 x0 x1 x2 HH2
    rintro e w7 ⟨rfl,b7⟩
    have W7:Hid (UtS w x p k v M B Y1 w7/\UtO w7 M B Y1 (.slice pa Y1.pn pc) (.slice sa Y1.sn sc) (.slice wa Y1.wn wc') (.slice ha Y1.hn hc)):=⟨W6.out.1.below b7,W6.out.2.below b7⟩
    clear b7 W6
    cases R with
    | false=>
     have HQ3:Hid (fsN (utF x.y h p k v) n 0=fsN (utF x.y h p k v) (n - (j+1)) (j+1)):=by
      show _=_
      rw [HQ2.out,HF2.out]
      rfl
     have W8:Hid (UtS w x p k v M B (utY x.y h (j+1)) w7):=by
      show UtS w x p k v M B (utY x.y h (j+1)) w7
      rw [HY1.out]
      exact W7.out.1
     clear HQ2 HF2 W7
     go_wp2
     go_roundw
     case rel=>exact ⟨j+1,by omega,by go_num,HQ3.out,W8.out⟩
     case measure=>simp [intOf];omega
    | true=>
     have HQ3:Hid (C=((j+1:Nat):Int)/\YW=Y1):=by
      have e1:fsN (utF x.y h p k v) n 0=j+1:=by
       rw [HQ2.out,HF2.out]
       rfl
      exact ⟨by rw [HN.out.1,e1],by rw [HN.out.2,e1,HY1.out]⟩
     clear HQ2 HF2
     obtain ⟨a0,a1,a2,a3⟩:=W7.out.2.bx
     obtain ⟨r0,r1,r2,r3⟩:=W7.out.1.uw.bo
     have rf:=W7.out.1.uw.fo
     go_wp2
     exact bodyPost_ret (v:=.tuple #[.agg #[.slice pa Y1.pn pc,.slice sa Y1.sn sc,.slice wa Y1.wn wc',.slice ha Y1.hn hc],.int .i64 ((j:Int)+1)]) (by simp [results,Tryz.results29,go_sem,r0,r1,r2,r3]) rfl ⟨_,by rw [HQ3.out.1];rfl,by rw [HQ3.out.2];exact (W7.out.1.out W7.out.2).1,(W7.out.1.out W7.out.2).2⟩
  ·have hjn:j=n:=by omega
   have HQ3:Hid (C=(n:Int)/\YW=utY x.y h n):=by
    have e1:fsN (utF x.y h p k v) n 0=n:=by
     have e2:=HQ.out
     rw [hjn,Nat.sub_self] at e2
     exact e2
    exact ⟨by rw [HN.out.1,e1],by rw [HN.out.2,e1]⟩
   subst hjn
   obtain ⟨a0,a1,a2,a3⟩:=UO.out.bx
   obtain ⟨r0,r1,r2,r3⟩:=HW.out.uw.bo
   have rf:=HW.out.uw.fo
   generalize utY x.y h j=Y0 at *
   clear HQ hlt
   go_wp2
   exact bodyPost_ret (v:=.tuple #[.agg #[.slice pa Y0.pn pc,.slice sa Y0.sn sc,.slice wa Y0.wn wc,.slice ha Y0.hn hc],.int .i64 j]) (by simp [results,Tryz.results29,go_sem,r0,r1,r2,r3]) rfl ⟨_,by rw [HQ3.out.1],by rw [HQ3.out.2];exact (HW.out.out UO.out).1,(HW.out.out UO.out).2⟩
