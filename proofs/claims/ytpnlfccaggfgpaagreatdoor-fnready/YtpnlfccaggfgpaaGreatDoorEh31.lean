import Derived.Test.YtpnlfccaggfgpaaGreatDoorEh0
import Derived.Test.YtpnlfccaggfgpaaGreatDoorEh21
import Derived.Test.YtpnlfccaggfgpaaGreatDoorEh29
import Derived.Test.YtpnlfccaggfgpaaGreatDoorEh26
import Derived.Test.YtpnlfccaggfgpaaGreatDoorEh19
import Derived.Test.YtpnlfccaggfgpaaGreatDoorEh22
import Derived.Test.YtpnlfccaggfgpaaGreatDoorEh24
import Derived.Test.YtpnlfccaggfgpaaGreatDoorEh28
import Derived.Test.YtpnlfccaggfgpaaGreatDoorEh25
namespace Go.Proofs.YtpnlfccaggfgpaaGreatDoor
set_option maxRecDepth 100000
set_option maxHeartbeats 20000000
open Go.ChangeShapes Go.WideShapes Go.ChangeAt Go.RowKit Go.Deep
theorem BoxC.blkV {w w':World} {N:Nat} {p vr vo code:Value} (h:BoxC w N p vr vo code) (hb:w'.heap[N]? = w.heap[N]?):BoxC w' N p vr vo code:=⟨(zH hb).trans h.1,(zH hb).trans h.2.1,(zH hb).trans h.2.2.1,(zH hb).trans h.2.2.2⟩
structure Rvw (w:World) (x:SysIn) (wx:World):Prop where
 be:Below w.heap.size w wx
 bs:BoxC wx w.heap.size (.slice x.pa x.pn x.pc) (.slice x.sa x.sn x.sc) (.slice x.wa x.wn x.wc) (.slice x.ha x.hn x.hc)
 bo:BoxC wx (w.heap.size+1) (.slice none 0 0) (.slice none 0 0) (.slice none 0 0) (.slice none 0 0)
 fo:∀ j,wx.frozen? ⟨w.heap.size+1,j,none⟩=false
 lt:w.heap.size+1<wx.heap.size
theorem Rvw.keep {w:World} {x:SysIn} {wx wy:World} {B:Nat} (h:Rvw w x wx) (hB:w.heap.size+1<B) (hb:Below B wx wy):Rvw w x wy:=by
 have hs:wx.heap.size<=wy.heap.size:=hb.size
 exact ⟨h.be.trans (hb.mono (by omega)),h.bs.blkV (hb.block _ (by omega)),h.bo.blkV (hb.block _ hB),fun j=>(zI (hb.block _ hB)).trans (h.fo j),zL h.lt hs⟩
theorem Rvw.below {w:World} {x:SysIn} {wx wy:World} (h:Rvw w x wx) (hb:Below wx.heap.size wx wy):Rvw w x wy:=h.keep h.lt hb
theorem Rvw.new (w:World) (x:SysIn):Rvw w x ((w.alloc (oQ4 x.pa x.pn x.pc x.sa x.sn x.sc x.wa x.wn x.wc x.ha x.hn x.hc)).alloc (zQ3)):=by
 have hn:=BoxC.new (w.alloc (oQ4 x.pa x.pn x.pc x.sa x.sn x.sc x.wa x.wn x.wc x.ha x.hn x.hc)) (.slice none 0 0) (.slice none 0 0) (.slice none 0 0) (.slice none 0 0) 29
 rw [World.size_alloc] at hn
 have hs:(w.alloc (oQ4 x.pa x.pn x.pc x.sa x.sn x.sc x.wa x.wn x.wc x.ha x.hn x.hc)).heap.size=w.heap.size+1:=by simp
 refine ⟨(zT _ _).trans ((zT _ _).mono (by simp)),(BoxC.new w _ _ _ _ _).below (zT _ _),hn,fun j=>?_,by simp⟩
 rw [<- hs]
 exact yB _ _ _ _ rfl
structure RvK (w:World) (x:SysIn) (B A:Nat) (Y:Sy) (vp vs vw vh:Value) (wx:World):Prop where
 rw:Rvw w x wx
 bx:BoxC wx A vp vs vw vh
 ow:∃ c up us uw uh,OwnS false wx B c Y vp vs vw vh up us uw uh/\c A=0
 nb:w.heap.size+1<B/\B<=A
theorem RvK.below {w:World} {x:SysIn} {B A:Nat} {Y:Sy} {vp vs vw vh:Value} {wx wy:World} (h:RvK w x B A Y vp vs vw vh wx) (hb:Below wx.heap.size wx wy):RvK w x B A Y vp vs vw vh wy:=by
 obtain ⟨c,up,us,uw,uh,o,hc⟩:=h.ow
 exact ⟨h.rw.below hb,h.bx.below hb,⟨c,up,us,uw,uh,o.below hb,hc⟩,h.nb⟩
theorem RvK.lt {w:World} {x:SysIn} {B A:Nat} {Y:Sy} {vp vs vw vh:Value} {wx:World} (h:RvK w x B A Y vp vs vw vh wx):A<wx.heap.size:=zJ wx _ h.bx.1
theorem RvK.own {w:World} {x:SysIn} {B A:Nat} {Y:Sy} {vp vs vw vh:Value} {wx:World} (h:RvK w x B A Y vp vs vw vh wx):OwnSys false ((((wx.setCell ⟨w.heap.size+1,0,none⟩ vp).setCell ⟨w.heap.size+1,1,none⟩ vs).setCell ⟨w.heap.size+1,2,none⟩ vw).setCell ⟨w.heap.size+1,3,none⟩ vh) w.heap.size Y (.agg #[vp,vs,vw,vh])/\Below w.heap.size w ((((wx.setCell ⟨w.heap.size+1,0,none⟩ vp).setCell ⟨w.heap.size+1,1,none⟩ vs).setCell ⟨w.heap.size+1,2,none⟩ vw).setCell ⟨w.heap.size+1,3,none⟩ vh):=by
 obtain ⟨c,up,us,uw,uh,o,hc⟩:=h.ow
 have o1:OwnSys false wx B Y (.agg #[vp,vs,vw,vh]):=⟨c,vp,vs,vw,vh,up,us,uw,uh,rfl,o⟩
 have l1:=h.nb.1
 have le1:∀ t,w.heap.size<=(⟨w.heap.size+1,t,none⟩:Addr).block:=fun _=>Nat.le_succ _
 exact ⟨((((o1.setBelow l1 0 _).setBelow l1 1 _).setBelow l1 2 _).setBelow l1 3 _).base (by omega),(((h.rw.be.setCell (le1 _) _).setCell (le1 _) _).setCell (le1 _) _).setCell (le1 _) _⟩
structure RvJ (w:World) (x:SysIn) (B A:Nat) (Y:Sy) (vp vs vw vh:Value) (wx:World):Prop where
 k:RvK w x B A Y vp vs vw vh wx
 fa:∀ j,wx.frozen? ⟨A,j,none⟩=false
theorem RvJ.below {w:World} {x:SysIn} {B A:Nat} {Y:Sy} {vp vs vw vh:Value} {wx wy:World} (h:RvJ w x B A Y vp vs vw vh wx) (hb:Below wx.heap.size wx wy):RvJ w x B A Y vp vs vw vh wy:=
 ⟨h.k.below hb,fun j=>(hb.frozen (p:=⟨A,j,none⟩) h.k.lt).trans (h.fa j)⟩
theorem RvJ.l5 {w:World} {x:SysIn} {B A:Nat} {Y:Sy} {vp vs vw vh:Value} {wr wx:World} (h:RvJ w x B A Y vp vs vw vh wr) (hO:Y.Ok) (hb:Below wr.heap.size wr wx) (p:Nat) (f:Int) (hp:p<Y.pn):
  Calls Tryz.prog 45 #[.agg #[vp,vs,vw,vh],.int .i64 p,.int .i64 f] wx fun e w'=>e=.returned (.tuple #[.agg #[vp,vs,vw,vh],.int .i64 (stC Y p f)])/\RvJ w x B A (stY Y p f) vp vs vw vh w'/\(∀ b,wr.heap.size<=b->b<wx.heap.size->w'.heap[b]? = wx.heap[b]?)/\∀ N,wr.heap.size<=N->N<wx.heap.size->∀ a b d t,RvJ w x B A (stY Y p f) vp vs vw vh ((((w'.setCell ⟨N,0,none⟩ a).setCell ⟨N,1,none⟩ b).setCell ⟨N,2,none⟩ d).setCell ⟨N,3,none⟩ t):=by
 obtain ⟨c,up,us,uw,uh,o,hc⟩:=h.k.ow
 have hA:=h.k.lt
 have hAx:A<wx.heap.size:=zL hA hb.size
 have o2:=(o.recol 0).below hb
 have hbl:belB (p:Int) Y.pn=true:=decide_eq_true ⟨by omega,by omega⟩
 have eC:stC Y (p:Int) f=cmS Y p f:=by
  unfold stC
  rw [if_pos (Sy.okB_true hO),if_pos hbl,Int.toNat_natCast]
 have eY:stY Y (p:Int) f=Y.step p f:=by
  unfold Go.Proofs.YtpnlfccaggfgpaaGreatDoor.stY
  rw [if_pos (Sy.okB_true hO),if_pos hbl,Int.toNat_natCast]
 rw [eC,eY]
 refine (l5Step_kp Y p f wx B _ vp vs vw vh up us uw uh o2 hp hO).mono ?_
 rintro e w' ⟨rfl,b1,c',us',uw',uh',o',kp⟩
 have kA:=kp A hAx ((rcol_old hA).trans hc)
 have hbx:=h.below hb
 have r1:RvJ w x B A (Y.step p f) vp vs vw vh w':=⟨⟨hbx.k.rw.keep h.k.nb.1 b1,hbx.k.bx.blkV kA.1,⟨c',up,us',uw',uh',o',kA.2⟩,h.k.nb⟩,fun j=>(zI kA.1).trans (hbx.fa j)⟩
 refine ⟨rfl,r1,fun b h1 h2=>(kp b h2 (rcol_new h1)).1,fun N h1 h2 a b d t=>?_⟩
 have hcN:=(kp N h2 (rcol_new h1)).2
 have hBN:B<=N:=by have:=h.k.nb.2;omega
 have hAN:A≠N:=by omega
 refine ⟨⟨r1.k.rw.keep h.k.nb.1 (((((Below.refl B w').setCell (p:=⟨N,0,none⟩) hBN a).setCell (p:=⟨N,1,none⟩) hBN b).setCell (p:=⟨N,2,none⟩) hBN d).setCell (p:=⟨N,3,none⟩) hBN t),r1.k.bx.blkV ?_,⟨c',up,us',uw',uh',(((o'.setOut hcN 0 a).setOut hcN 1 b).setOut hcN 2 d).setOut hcN 3 t,kA.2⟩,h.k.nb⟩,fun j=>?_⟩
 ·rw [zO _ _ _ _ hAN,zO _ _ _ _ hAN,zO _ _ _ _ hAN,zO _ _ _ _ hAN]
 ·rw [World.frozen?_setCell,World.frozen?_setCell,World.frozen?_setCell,World.frozen?_setCell]
  exact r1.fa j
theorem RvJ.put4 {w:World} {x:SysIn} {B A:Nat} {Y:Sy} {vp vs vw vh:Value} {wx:World} (h:RvJ w x B A Y vp vs vw vh wx):RvJ w x B A Y vp vs vw vh ((((wx.setCell ⟨A,0,none⟩ vp).setCell ⟨A,1,none⟩ vs).setCell ⟨A,2,none⟩ vw).setCell ⟨A,3,none⟩ vh):=by
 obtain ⟨c,up,us,uw,uh,o,hc⟩:=h.k.ow
 have hBA:B<=A:=h.k.nb.2
 obtain ⟨c0,c1,c2,c3⟩:=h.k.bx
 refine ⟨⟨h.k.rw.keep h.k.nb.1 (((((Below.refl B wx).setCell (p:=⟨A,0,none⟩) hBA vp).setCell (p:=⟨A,1,none⟩) hBA vs).setCell (p:=⟨A,2,none⟩) hBA vw).setCell (p:=⟨A,3,none⟩) hBA vh),⟨by go_cell,by go_cell,by go_cell,by go_cell⟩,⟨c,up,us,uw,uh,(((o.setOut hc 0 vp).setOut hc 1 vs).setOut hc 2 vw).setOut hc 3 vh,hc⟩,h.k.nb⟩,fun j=>?_⟩
 rw [World.frozen?_setCell,World.frozen?_setCell,World.frozen?_setCell,World.frozen?_setCell]
 exact h.fa j
theorem sysV_injV {pa sa wa ha:Option Addr} {pn pc sn sc wn wc hn hc:Nat} {vp vs vw vh:Value} (h:sysV pa pn pc sa sn sc wa wn wc ha hn hc=.agg #[vp,vs,vw,vh]):vp=.slice pa pn pc/\vs=.slice sa sn sc/\vw=.slice wa wn wc/\vh=.slice ha hn hc:=by
 simp only [sysV,Value.agg.injEq,Array.mk.injEq,List.cons.injEq,and_true] at h
 exact ⟨h.1.symm,h.2.1.symm,h.2.2.1.symm,h.2.2.2.symm⟩
theorem stY_okV {y:Sy} (h:y.Ok) (p:Nat) (f:Int) (hp:p<y.pn):(stY y p f).Ok/\(stY y p f).pn=y.pn:=by
 have hb:belB (p:Int) y.pn=true:=decide_eq_true ⟨by omega,by omega⟩
 have e:stY y p f=y.step p f:=by
  unfold Go.Proofs.YtpnlfccaggfgpaaGreatDoor.stY
  rw [if_pos (Sy.okB_true h),if_pos hb,Int.toNat_natCast]
 rw [e]
 by_cases hc:cmS y p f=0
 ·exact ⟨h.step hp hc,by unfold Sy.step;rw [if_pos hc];rfl⟩
 ·rw [Sy.step_no hc]
  exact ⟨h,rfl⟩
theorem l1Min_30 (w:World):Calls Tryz.prog 47 #[.int .i64 30,.int .i64 60] w fun e w'=>e=.returned (.int .i64 30)/\w'=w:=by
 go_enter Tryz.func47,Tryz.ntmps47
 go_wp2
 go_ret
 exact ⟨rfl,rfl⟩
def FrH (w:World) (x:SysIn) (B A:Nat) (vp vs vw vh:Value) (wr:World):Prop:=∃ Y:Sy,Y.Ok/\Y.pn=x.y.pn/\RvJ w x B A Y vp vs vw vh wr
theorem FrH.below {w:World} {x:SysIn} {B A:Nat} {vp vs vw vh:Value} {wr w':World} (h:FrH w x B A vp vs vw vh wr) (hb:Below wr.heap.size wr w'):FrH w x B A vp vs vw vh w':=by
 obtain ⟨Y,h1,h2,h3⟩:=h
 exact ⟨Y,h1,h2,h3.below hb⟩
def FrP (w:World) (e:Ending) (w':World):Prop:=∃ (v:Value) (m:Int) (Y:Sy),e=.returned (.tuple #[v,.int .i64 m])/\Y.Ok/\OwnSys false w' w.heap.size Y v/\Below w.heap.size w w'
theorem specFair_ok (x:SysIn) (w:World) (hG:SysG w x) (hL:x.Len) (hcap:∀ i,i<x.hn->x.hL i<=x.hC i) (hO:x.y.Ok):
  Calls Tryz.prog 22 #[x.v,.int .i64 30] w (FrP w):=by
 have HS:Hid (∀ wx,Below w.heap.size w wx->Calls Tryz.prog 19 #[x.v] wx fun e w'=>e=.returned (.bool true)/\Below wx.heap.size wx w'):=fun wx hb=>by
  have h9:=specSysOk_any x wx (hG.below hb) hL hcap
  rw [Sy.okB_true hO] at h9
  exact h9
 have HC4:Hid (∀ wx,Below w.heap.size w wx->Calls Tryz.prog 46 #[x.v] wx fun e w'=>∃ v,e=.returned v/\OwnSys true w' wx.heap.size x.y v/\Below wx.heap.size wx w'):=fun wx hb=>l4Copy_any x wx (hG.below hb) hL
 have X0:Hid (Rvw w x ((w.alloc (oQ4 x.pa x.pn x.pc x.sa x.sn x.sc x.wa x.wn x.wc x.ha x.hn x.hc)).alloc (zQ3))):=Rvw.new w x
 have HO:Hid (x.y.Ok/\x.pn<=4):=⟨hO,hO.cn.1.2⟩
 clear hG hL hcap hO
 go_enter Tryz.func22,Tryz.ntmps22
 go_upto_region 1 with fail
 generalize (w.alloc (oQ4 x.pa x.pn x.pc x.sa x.sn x.sc x.wa x.wn x.wc x.ha x.hn x.hc)).alloc (zQ3)=W1 at *
 obtain ⟨k0,k1,k2,k3⟩:=X0.out.bs
 go_wp2_with fail
 clear k0 k1 k2 k3
 refine (HS.out W1 X0.out.be).mono ?_
 rintro e w2 ⟨rfl,b2⟩
 have X2:Hid (Rvw w x w2):=X0.out.below b2
 clear b2 X0 HS
 obtain ⟨k0,k1,k2,k3⟩:=X2.out.bs
 go_wp2_with fail
 clear k0 k1 k2 k3
 refine (HC4.out w2 X2.out.be).mono ?_
 rintro e w3 ⟨v,rfl,o3,q3⟩
 obtain ⟨pa,pc,sa,sc,wa,wc,ha,hc,rfl⟩:=o3.form
 obtain ⟨Y0,hY0⟩:∃ Y0,Y0=x.y:=⟨_,rfl⟩
 rw [<- hY0] at o3 ⊢
 replace hY0:Hid (Y0=x.y):=hY0
 obtain ⟨c,vp,vs,vw,vh,up,us,uw,uh,ev,o3⟩:=o3
 obtain ⟨rfl,rfl,rfl,rfl⟩:=sysV_injV ev
 replace o3:=o3.weak
 have ba:=zT w3 (oQ4 pa Y0.pn pc sa Y0.sn sc wa Y0.wn wc ha Y0.hn hc)
 have L4:Hid (FrH w x w2.heap.size w3.heap.size (.slice pa Y0.pn pc) (.slice sa Y0.sn sc) (.slice wa Y0.wn wc) (.slice ha Y0.hn hc) (w3.alloc (oQ4 pa Y0.pn pc sa Y0.sn sc wa Y0.wn wc ha Y0.hn hc))):=⟨Y0,by rw [hY0.out];exact HO.out.1,by rw [hY0.out],⟨⟨X2.out.below (q3.trans (ba.mono q3.size)),BoxC.new w3 _ _ _ _ _,⟨_,up,us,uw,uh,(o3.recol 0).below ba,rcol_new (Nat.le_refl _)⟩,X2.out.lt,q3.size⟩,fun j=>yB _ _ _ _ rfl⟩⟩
 go_upto_region 4 with fail
 clear o3 q3 ba X2 HC4 ev
 generalize w2.heap.size=B at *
 generalize w3.alloc (oQ4 pa Y0.pn pc sa Y0.sn sc wa Y0.wn wc ha Y0.hn hc)=w4 at *
 generalize w3.heap.size=A at *
 generalize Y0.pn=n0 at *
 generalize Y0.sn=n1 at *
 generalize Y0.wn=n2 at *
 generalize Y0.hn=n3 at *
 have hpn:(x.pn:Int)<=4:=by have:=HO.out.2;omega
 clear hY0
 go_wp2_with fail
 go_loopw [7,8] (fun m i wr=>∃ (j:Nat) (z:Int),j<=30/\i=.int .i64 (j:Nat)/\m=.int .i64 z/\Hid (FrH w x B A (.slice pa n0 pc) (.slice sa n1 sc) (.slice wa n2 wc) (.slice ha n3 hc) wr)) (fun _ i _=>30 - (intOf i).toNat)
 case atStart=>exact ⟨0,0,Nat.zero_le _,rfl,rfl,L4.out⟩
 case round=>
  clear L4
  rename World=>wr
  obtain ⟨j,z,hj,rfl,rfl,HK⟩:=hrel
  go_wp2_with fail
  refine (l1Min_30 wr).mono ?_
  rintro e w' ⟨rfl,e9⟩
  obtain rfl:=e9.symm
  by_cases hlt:j<30
  case neg=>
   have hge:¬ (j:Int)<30:=by omega
   obtain ⟨Y,hYo,hYp,HJ⟩:=HK.out
   have HY:Hid (Y.Ok):=hYo
   have HE:Hid (OwnSys false ((((wr.setCell ⟨w.heap.size+1,0,none⟩ (.slice pa n0 pc)).setCell ⟨w.heap.size+1,1,none⟩ (.slice sa n1 sc)).setCell ⟨w.heap.size+1,2,none⟩ (.slice wa n2 wc)).setCell ⟨w.heap.size+1,3,none⟩ (.slice ha n3 hc)) w.heap.size Y (.agg #[.slice pa n0 pc,.slice sa n1 sc,.slice wa n2 wc,.slice ha n3 hc])/\Below w.heap.size w ((((wr.setCell ⟨w.heap.size+1,0,none⟩ (.slice pa n0 pc)).setCell ⟨w.heap.size+1,1,none⟩ (.slice sa n1 sc)).setCell ⟨w.heap.size+1,2,none⟩ (.slice wa n2 wc)).setCell ⟨w.heap.size+1,3,none⟩ (.slice ha n3 hc))):=HJ.k.own
   obtain ⟨k0,k1,k2,k3⟩:=HJ.k.bx
   obtain ⟨r0,r1,r2,r3⟩:=HJ.k.rw.bo
   have rf:=HJ.k.rw.fo
   clear HJ hYo HK
   go_wp2
   exact bodyPost_ret (v:=.tuple #[.agg #[.slice pa n0 pc,.slice sa n1 sc,.slice wa n2 wc,.slice ha n3 hc],.int .i64 z]) (by simp [results,Tryz.results22,go_sem,r0,r1,r2,r3]) rfl ⟨_,z,Y,rfl,HY.out,HE.out.1,HE.out.2⟩
  have hlt':(j:Int)<30:=by omega
  go_wp2_with fail
  go_loopw [7,9] (fun m i wq=>∃ (q:Nat) (z:Int),q<=x.pn/\i=.int .i64 (q:Nat)/\m=.int .i64 z/\Hid (FrH w x B A (.slice pa n0 pc) (.slice sa n1 sc) (.slice wa n2 wc) (.slice ha n3 hc) wq)) (fun _ i _=>x.pn - (intOf i).toNat)
  case atStart=>exact ⟨0,z,Nat.zero_le _,rfl,rfl,HK.out⟩
  case round=>
   clear HK
   rename World=>wq
   obtain ⟨q,z,hq,rfl,rfl,HK⟩:=hrel
   obtain ⟨Y,hYo,hYp,HJ⟩:=HK.out
   have HY:Hid (Y.Ok/\Y.pn=x.pn):=⟨hYo,hYp⟩
   obtain ⟨b0,b1,b2,b3⟩:=HJ.k.rw.bs
   obtain ⟨k0,k1,k2,k3⟩:=HJ.k.bx
   by_cases hqt:q<x.pn
   case neg=>
    have hqn:¬ (q:Int)<(x.pn:Int):=by omega
    clear HJ hYo hYp
    go_wp2
    go_roundw
    case rel=>exact ⟨j+1,z,by omega,by go_num,rfl,HK.out⟩
    case measure=>simp [intOf];omega
   have hqt':(q:Int)<(x.pn:Int):=by omega
   have HRd:Hid (Calls Tryz.prog 20 #[.agg #[.slice pa n0 pc,.slice sa n1 sc,.slice wa n2 wc,.slice ha n3 hc],.int .i64 (q:Nat)] wq fun e w'=>∃ u R,e=.returned u/\OwnI w' wq.heap.size u R/\R.length<=4/\Below wq.heap.size wq w'):=by
    obtain ⟨c,up,us,uw,uh,o,-⟩:=HJ.k.ow
    obtain ⟨x',hx⟩:∃ x',Y.sysIn (.slice pa n0 pc) (.slice sa n1 sc) (.slice wa n2 wc) (.slice ha n3 hc) up us uw uh=x':=⟨_,rfl⟩
    have ey:x'.y=Y:=by rw [<- hx];rfl
    have ev:x'.v=.agg #[.slice pa n0 pc,.slice sa n1 sc,.slice wa n2 wc,.slice ha n3 hc]:=by rw [<- hx];exact o.v
    have hG:SysG wq x':=by rw [<- hx];exact o.g
    have h9 := l5Ready_any x' q wq hG (Sy.Sm.inLen (by rw [ey]; exact hYo.sm)) (by rw [ey]; exact hYo) (by
     have h8:x'.pn=Y.pn:=congrArg (fun y:Sy=>y.pn) ey
     have h7:x.y.pn=x.pn:=rfl
     omega)
    rw [ev] at h9
    refine h9.mono ?_
    rintro e w' ⟨u,h1,h2,h3⟩
    refine ⟨u,_,h1,h2,?_,h3⟩
    refine zP (rdL_le _ _) ?_
    unfold chN
    have h4:=hYo.cn.1.2
    have h8:x'.pn=Y.pn:=congrArg (fun y:Sy=>y.pn) ey
    split <;> omega
   have HJq:Hid (RvJ w x B A Y (.slice pa n0 pc) (.slice sa n1 sc) (.slice wa n2 wc) (.slice ha n3 hc) wq):=HJ
   clear HJ hYo hYp HK
   go_wp2_with fail
   clear b0 b1 b2 b3 k0 k1 k2 k3
   refine HRd.out.mono ?_
   rintro e w5 ⟨u5,R,rfl,o5,hR4,q5⟩
   obtain ⟨ra,rc,rfl,rsl⟩:=o5.form
   have hR4':(R.length:Int)<=4:=by omega
   have HJ5:Hid (RvJ w x B A Y (.slice pa n0 pc) (.slice sa n1 sc) (.slice wa n2 wc) (.slice ha n3 hc) w5):=HJq.out.below q5
   by_cases h0:R.length=0
   ·have h0':¬ (0:Int)<(R.length:Int):=by omega
    have HK5:Hid (FrH w x B A (.slice pa n0 pc) (.slice sa n1 sc) (.slice wa n2 wc) (.slice ha n3 hc) w5):=⟨Y,HY.out.1,HY.out.2,HJ5.out⟩
    clear o5 q5 rsl HRd HJq
    go_wp2
    go_roundw
    case rel=>exact ⟨q+1,z,by omega,by go_num,rfl,HK5.out⟩
    case measure=>simp [intOf];omega
   have h0':(0:Int)<(R.length:Int):=by omega
   obtain ⟨gb,go,ea,-,gc⟩:=rsl.at (k:=0) (by omega)
   have hgl:wq.heap.size<=gb:=by
    rcases o5.2 with ⟨e9,h9⟩ | ⟨g9,c9,cur9,e9,-⟩
    ·omega
    ·have h8:=(o5.lt g9 (by rw [e9];rfl)).1
     rw [ea] at e9
     simp only [Value.slice.injEq,Option.some.injEq,Addr.mk.injEq] at e9
     omega
   subst ea
   obtain ⟨F,hF⟩:∃ F,zi R 0=F:=⟨_,rfl⟩
   rw [hF] at gc
   go_upto_region 13 with fail
   have Q0:Below wq.heap.size wq w5.drew:=q5.drew
   have hgd:gb<w5.drew.heap.size:=zJ w5 _ gc
   have gc0:w5.drew.cell? ⟨gb,go,none⟩=some (.int .i64 F):=(World.cell?_drew _ _).trans (by simpa using gc)
   have hAq:A<wq.heap.size:=HJq.out.k.lt
   have hqY:q<Y.pn:=by rw [HY.out.2];exact hqt
   have HL5:=HJq.out.l5 HY.out.1 Q0 q F hqY
   have bx0:BoxC w5.drew A (.slice pa n0 pc) (.slice sa n1 sc) (.slice wa n2 wc) (.slice ha n3 hc):=HJ5.out.k.bx.blkV rfl
   clear hF gc rsl o5 q5 HRd HJ5 h0
   refine wp_region_G (fun w'=>BoxC w' A (.slice pa n0 pc) (.slice sa n1 sc) (.slice wa n2 wc) (.slice ha n3 hc)/\w'.cell? ⟨gb,go,none⟩=some (.int .i64 F)) (fun _=>false) (by kernel_rfl) ?_
   have hHeld:(fun w':World=>BoxC w' A (.slice pa n0 pc) (.slice sa n1 sc) (.slice wa n2 wc) (.slice ha n3 hc)/\w'.cell? ⟨gb,go,none⟩=some (.int .i64 F)) w5.drew:=⟨bx0,gc0⟩
   refine wpGT_of [0,1,2,3,4] ?_
   iterate 5 (refine wpGT_k rfl hHeld ?_)
   refine wpGT_nil ?_
   refine wpG_one 5 rfl (by kernel_rfl) (fun K hK=>?_)
   refine stepR_callD rfl 45 _ _ rfl #[.agg #[.slice pa n0 pc,.slice sa n1 sc,.slice wa n2 wc,.slice ha n3 hc],.int .i64 (q:Nat),.int .i64 F] (by simp [Act.eval]) (yA Tryz.func45 (by kernel_rfl) rfl) HL5 ?_
   rintro e w7 ⟨rfl,j7,k7,-⟩
   refine ⟨_,rfl,?_⟩
   have gc7:w7.cell? ⟨gb,go,none⟩=some (.int .i64 F):=(zH (k7 gb hgl hgd)).trans gc0
   refine hK.out _ _ (fun _=>⟨j7.k.bx,gc7⟩) ?_
   clear hK K hHeld
   have hHeld:(fun w':World=>BoxC w' A (.slice pa n0 pc) (.slice sa n1 sc) (.slice wa n2 wc) (.slice ha n3 hc)/\w'.cell? ⟨gb,go,none⟩=some (.int .i64 F)) w7:=⟨j7.k.bx,gc7⟩
   (try simp only [Act.put,zD,zE,zF])
   refine wpGT_of [6,7,8] ?_
   iterate 3 (refine wpGT_k rfl hHeld ?_)
   refine wpGT_nil ?_
   clear hHeld
   obtain ⟨m0,m1,m2,m3⟩:=j7.k.bx
   have mf:=j7.fa
   refine wpG_one 9 rfl (by kernel_rfl) (fun K hK=>?_)
   go_simp
   have j8:=j7.put4
   have gc8:((((w7.setCell ⟨A,0,none⟩ (.slice pa n0 pc)).setCell ⟨A,1,none⟩ (.slice sa n1 sc)).setCell ⟨A,2,none⟩ (.slice wa n2 wc)).setCell ⟨A,3,none⟩ (.slice ha n3 hc)).cell? ⟨gb,go,none⟩=some (.int .i64 F):=by
    have hne:gb≠A:=by omega
    refine (zH ?_).trans gc7
    show (World.heap _)[gb]? = _
    rw [zO _ _ _ _ hne,zO _ _ _ _ hne,zO _ _ _ _ hne,zO _ _ _ _ hne]
   refine hK.out _ _ (fun _=>⟨j8.k.bx,gc8⟩) ?_
   clear hK K
   (try simp only [Act.put,zD,zE,zF])
   have HK9:Hid (FrH w x B A (.slice pa n0 pc) (.slice sa n1 sc) (.slice wa n2 wc) (.slice ha n3 hc) ((((w7.setCell ⟨A,0,none⟩ (.slice pa n0 pc)).setCell ⟨A,1,none⟩ (.slice sa n1 sc)).setCell ⟨A,2,none⟩ (.slice wa n2 wc)).setCell ⟨A,3,none⟩ (.slice ha n3 hc))):=⟨_,(stY_okV HY.out.1 q F hqY).1,(stY_okV HY.out.1 q F hqY).2.trans HY.out.2,j8⟩
   clear j7 j8 k7 gc7 gc8 m0 m1 m2 m3 mf HL5 bx0 gc0 HJq
   refine wpG_done (by kernel_rfl) ?_ _
   go_wp2
   go_roundw
   case rel=>exact ⟨q+1,_,by omega,by go_num,rfl,HK9.out⟩
   case measure=>simp [intOf];omega
variable {z:Bool}
structure Hp (z:Bool) (w:World) (B:Nat) (c0:Nat->Nat) (k q v:Int) (y:Sy) (vp vs vw vh:Value) (wx:World):Prop where
 be:Below B w wx
 bx:BoxC wx w.heap.size vp vs vw vh
 ev:EvK wx (w.heap.size+1) k q v
 kp:∀ b,b<w.heap.size->c0 b=0->wx.heap[b]? = w.heap[b]?
 ow:∃ c up us uw uh,OwnS z wx B c y vp vs vw vh up us uw uh/\c w.heap.size=0/\c (w.heap.size+1)=0/\∀ b,b<w.heap.size->c b=c0 b
theorem Sy.Ok.lens {y:Sy} (h:y.Ok) {p:Nat} (hp:p<y.pn):y.pL p<=maxLen/\(y.sS p).rs.length<=1048576/\(y.sS p).os.length<=1048576:=by
 have h1:=h.four hp
 simp only [progOkB,Bool.and_eq_true,inB,decide_eq_true_eq] at h1
 obtain ⟨⟨r0,r1,r2,r3,e,-⟩,-,h60,-⟩:=st_parts (h.st hp)
 refine ⟨?_,by rw [e];simp,by omega⟩
 have:=h1.2.1
 unfold maxLen
 omega
theorem ownsRow_cap {w:World} {B sz n m c:Nat} {e:TypeId} {a:Option Addr} {xs:List Value} (h:w.ownsRow B e sz (.slice a n c) m xs):c<=maxLen:=by
 rcases h.2 with ⟨e,-⟩ | ⟨g,cap,cur,e,-,-,-,hc,-⟩
 ·simp only [Value.slice.injEq] at e
  omega
 ·simp only [Value.slice.injEq] at e
  omega
theorem Hp.below {w wx wy:World} {B:Nat} {c0:Nat->Nat} {k q v:Int} {y:Sy} {vp vs vw vh:Value} (h:Hp z w B c0 k q v y vp vs vw vh wx) (hB:B<=wx.heap.size) (b:Below wx.heap.size wx wy):Hp z w B c0 k q v y vp vs vw vh wy:=by
 obtain ⟨c,up,us,uw,uh,o,z0,z1,zc⟩:=h.ow
 exact ⟨h.be.trans (b.mono hB),h.bx.below b,h.ev.below b,fun j hj hc=>(b.block j (Nat.lt_trans hj h.bx.ltM)).trans (h.kp j hj hc),c,up,us,uw,uh,o.below b,z0,z1,zc⟩
theorem Hp.le {w wx:World} {B:Nat} {c0:Nat->Nat} {k q v:Int} {y:Sy} {vp vs vw vh:Value} (h:Hp z w B c0 k q v y vp vs vw vh wx) (hB:B<=w.heap.size):B<=wx.heap.size:=zP hB (Nat.le_of_lt h.bx.ltM)
theorem col_ne {c:Nat->Nat} {a b i j:Nat} (ha:c a=i) (hb:c b=j) (h:i≠j):a≠b:=fun e=>h (by rw [<- ha,<- hb,e])
theorem Hp.putW {w wx w1:World} {B g cap:Nat} {c0:Nat->Nat} {k q v:Int} {y:Sy} {vp vs vh:Value} (h:Hp z w B c0 k q v y vp vs (.slice (some ⟨g,0,none⟩) y.wn cap) vh wx) (hB:B<=w.heap.size) {J m:Nat} {u':Value} {H':Nat->I2} (hJ:J<y.wn) (b1:Below wx.heap.size wx w1) (hu:w1.ownsRow wx.heap.size 59 2 u' m (fT H' m)) (hne:u'≠.slice none 0 0):
  Hp z w B c0 k q v (y.setW J m H') vp vs (.slice (some ⟨g,0,none⟩) y.wn cap) vh (w1.setCell ⟨g,J,none⟩ u'):=by
 obtain ⟨c,up,us,uw,uh,o,z0,z1,zc⟩:=h.ow
 have hg:=o.t.rb g rfl
 have hz:∀ b,c b=0->b<wx.heap.size->(w1.setCell ⟨g,J,none⟩ u').heap[b]? = wx.heap[b]?:=fun b hb hl=>(zO _ _ _ _ (col_ne hb hg.2 (by decide))).trans (b1.block b hl)
 have hW:=h.le hB
 exact ⟨(h.be.trans (b1.mono hW)).setCell hg.1 _,h.bx.blkM (hz _ z0 h.bx.ltM),h.ev.blk (hz _ z1 h.ev.lt),fun j hj hc=>(hz j ((zc j hj).trans hc) (Nat.lt_trans hj h.bx.ltM)).trans (h.kp j hj hc),_,up,us,_,uh,o.putW hJ hW b1.size (fun b hb _=>b1.block b hb) (ownsRow_base0 hu) hne (fun b hb=>.inr (hu.lt b hb).1),(rcol_old h.bx.ltM).trans z0,(rcol_old h.ev.lt).trans z1,fun j hj=>(rcol_old (Nat.lt_trans hj h.bx.ltM)).trans (zc j hj)⟩
theorem Hp.putH {w wx w1:World} {B g cap:Nat} {c0:Nat->Nat} {k q v:Int} {y:Sy} {vp vs vw:Value} (h:Hp z w B c0 k q v y vp vs vw (.slice (some ⟨g,0,none⟩) y.hn cap) wx) (hB:B<=w.heap.size) {J m:Nat} {u':Value} {H':Nat->E3} (hJ:J<y.hn) (b1:Below wx.heap.size wx w1) (hu:w1.ownsRow wx.heap.size 47 3 u' m (fE H' m)) (hne:u'≠.slice none 0 0):
  Hp z w B c0 k q v (y.setH J m H') vp vs vw (.slice (some ⟨g,0,none⟩) y.hn cap) (w1.setCell ⟨g,J,none⟩ u'):=by
 obtain ⟨c,up,us,uw,uh,o,z0,z1,zc⟩:=h.ow
 have hg:=o.h.rb g rfl
 have hz:∀ b,c b=0->b<wx.heap.size->(w1.setCell ⟨g,J,none⟩ u').heap[b]? = wx.heap[b]?:=fun b hb hl=>(zO _ _ _ _ (col_ne hb hg.2 (by decide))).trans (b1.block b hl)
 have hW:=h.le hB
 exact ⟨(h.be.trans (b1.mono hW)).setCell hg.1 _,h.bx.blkM (hz _ z0 h.bx.ltM),h.ev.blk (hz _ z1 h.ev.lt),fun j hj hc=>(hz j ((zc j hj).trans hc) (Nat.lt_trans hj h.bx.ltM)).trans (h.kp j hj hc),_,up,us,uw,_,o.putH hJ hW b1.size (fun b hb _=>b1.block b hb) (ownsRow_base0 hu) hne (fun b hb=>.inr (hu.lt b hb).1),(rcol_old h.bx.ltM).trans z0,(rcol_old h.ev.lt).trans z1,fun j hj=>(rcol_old (Nat.lt_trans hj h.bx.ltM)).trans (zc j hj)⟩
theorem Hp.putS {w wx w1:World} {B g cap:Nat} {c0:Nat->Nat} {k q v:Int} {y:Sy} {vp vw vh:Value} (h:Hp z w B c0 k q v y vp (.slice (some ⟨g,0,none⟩) y.sn cap) vw vh wx) (hB:B<=w.heap.size) {i:Nat} (hi:i<y.sn) {ra oa:Option Addr} {rn rc on oc:Nat} {p code:Int} {T:S4} (b1:Below wx.heap.size wx w1) (hu:StOwn w1 wx.heap.size (stV p ra rn rc oa on oc code) T.p T.rs T.os T.c):
  Hp z w B c0 k q v (y.setS i T) vp (.slice (some ⟨g,0,none⟩) y.sn cap) vw vh ((((w1.setCell ⟨g,i*4,none⟩ (.int .i64 p)).setCell ⟨g,i*4+1,none⟩ (.slice ra rn rc)).setCell ⟨g,i*4+2,none⟩ (.slice oa on oc)).setCell ⟨g,i*4+3,none⟩ (.int .i64 code)):=by
 obtain ⟨c,up,us,uw,uh,o,z0,z1,zc⟩:=h.ow
 have hg:=o.s.rb g rfl
 have hz:∀ b,c b=0->b<wx.heap.size->((((w1.setCell ⟨g,i*4,none⟩ (.int .i64 p)).setCell ⟨g,i*4+1,none⟩ (.slice ra rn rc)).setCell ⟨g,i*4+2,none⟩ (.slice oa on oc)).setCell ⟨g,i*4+3,none⟩ (.int .i64 code)).heap[b]? = wx.heap[b]?:=fun b hb hl=>by
  have hn:=col_ne hb hg.2 (by decide)
  exact ((zO _ _ _ _ hn).trans ((zO _ _ _ _ hn).trans ((zO _ _ _ _ hn).trans (zO _ _ _ _ hn)))).trans (b1.block b hl)
 have hW:=h.le hB
 exact ⟨((((h.be.trans (b1.mono hW)).setCell hg.1 _).setCell hg.1 _).setCell hg.1 _).setCell hg.1 _,h.bx.blkM (hz _ z0 h.bx.ltM),h.ev.blk (hz _ z1 h.ev.lt),fun j hj hc=>(hz j ((zc j hj).trans hc) (Nat.lt_trans hj h.bx.ltM)).trans (h.kp j hj hc),_,up,_,uw,uh,o.putS hi hW b1 hu,(rcol_old h.bx.ltM).trans z0,(rcol_old h.ev.lt).trans z1,fun j hj=>(rcol_old (Nat.lt_trans hj h.bx.ltM)).trans (zc j hj)⟩
def OwnK (z:Bool) (w:World) (B:Nat) (c0:Nat->Nat) (N:Nat) (y:Sy) (vp vs vw vh:Value):Prop:=∃ c up us uw uh,OwnS z w B c y vp vs vw vh up us uw uh/\∀ b,b<N->c b=c0 b
theorem OwnK.own {w:World} {B N:Nat} {c0:Nat->Nat} {y:Sy} {vp vs vw vh:Value} (h:OwnK z w B c0 N y vp vs vw vh):OwnSys z w B y (.agg #[vp,vs,vw,vh]):=by
 obtain ⟨c,up,us,uw,uh,o,-⟩:=h
 exact ⟨c,vp,vs,vw,vh,up,us,uw,uh,rfl,o⟩
theorem Hp.ownK {w wx:World} {B:Nat} {c0:Nat->Nat} {k q v:Int} {y:Sy} {vp vs vw vh:Value} (h:Hp z w B c0 k q v y vp vs vw vh wx):OwnK z wx B c0 w.heap.size y vp vs vw vh:=by
 obtain ⟨c,up,us,uw,uh,o,-,-,hc⟩:=h.ow
 exact ⟨c,up,us,uw,uh,o,hc⟩
variable {z:Bool}
theorem happen_own (y:Sy) (p:Nat) (k q v0:Int) (w:World) (B:Nat) (c:Nat->Nat) (vp vs vw vh:Value) (up us uw uh:Nat->Value) (o:OwnS z w B c y vp vs vw vh up us uw uh) (hB:B<=w.heap.size) (hO:y.Ok) (hp:p<y.pn) (hk2:k=2->0<=q/\q<y.pn) (hk3:k=3->0<=q/\q<y.pn/\0<y.wL (q.toNat*y.pn+p)):
  Calls Tryz.prog 25 #[.agg #[vp,vs,vw,vh],.int .i64 p,evV k q v0] w fun e w'=>e=.returned (.tuple #[])/\Below B w w'/\(∀ b,b<w.heap.size->c b=0->w'.heap[b]? = w.heap[b]?)/\OwnK z w' B c w.heap.size ((y.evt p k q v0).way p k q v0) vp vs vw vh:=by
 obtain ⟨⟨h1,h4⟩,hs,hh,hw⟩:=hO.cn
 have hps:p<y.sn:=by omega
 have hph:p<y.hn:=by omega
 have hw0:0<y.wn:=by rw [hw];exact Nat.mul_pos (by omega) (by omega)
 obtain ⟨gp,cp,rfl,-,-,-,-⟩:=o.p.cell hp
 obtain ⟨gs,cs,rfl,-,-,-,-⟩:=o.s.cell hps
 obtain ⟨gh,ch,rfl,-,-,-,-⟩:=o.h.cell hph
 obtain ⟨gw,cw,rfl,-,-,-,-⟩:=o.t.cell hw0
 have hL200:y.hL p<=200:=hO.le200 hp
 have HP4:Hid (progOkB (y.pH p) (y.pL p) 4=true):=hO.four hp
 have HST:Hid (OkS (y.pL p) (y.sS p)):=hO.st hp
 have HLn:Hid (y.pL p<=maxLen/\(y.sS p).rs.length<=1048576/\(y.sS p).os.length<=1048576):=hO.lens hp
 have HWY:Hid (∀ a b,a<y.pn->b<y.pn->y.wL (a*y.pn+b)<=12):=fun a b ha hb=>hO.way ha hb
 have HK2:Hid (k=2->0<=q/\q<y.pn):=hk2
 have HK3:Hid (k=3->0<=q/\q<y.pn/\0<y.wL (q.toNat*y.pn+p)):=hk3
 have HN:Hid (y.sn=y.pn/\y.hn=y.pn/\y.wn=y.pn*y.pn):=⟨hs,hh,hw⟩
 have hp':(p:Int)<(y.pn:Int):=by omega
 have hps':(p:Int)<(y.sn:Int):=by omega
 have hph':(p:Int)<(y.hn:Int):=by omega
 have H0:Hid (Hp z w B c k q v0 y (.slice (some ⟨gp,0,none⟩) y.pn cp) (.slice (some ⟨gs,0,none⟩) y.sn cs) (.slice (some ⟨gw,0,none⟩) y.wn cw) (.slice (some ⟨gh,0,none⟩) y.hn ch) ((w.alloc (oQ4 (some ⟨gp,0,none⟩) y.pn cp (some ⟨gs,0,none⟩) y.sn cs (some ⟨gw,0,none⟩) y.wn cw (some ⟨gh,0,none⟩) y.hn ch)).alloc (oQ0 k q v0))):=by
  have b1:=zQ w (oQ4 (some ⟨gp,0,none⟩) y.pn cp (some ⟨gs,0,none⟩) y.sn cs (some ⟨gw,0,none⟩) y.wn cw (some ⟨gh,0,none⟩) y.hn ch)
  have b2:=zQ (w.alloc (oQ4 (some ⟨gp,0,none⟩) y.pn cp (some ⟨gs,0,none⟩) y.sn cs (some ⟨gw,0,none⟩) y.wn cw (some ⟨gh,0,none⟩) y.hn ch)) (oQ0 k q v0)
  have b:=b1.trans (b2.mono b1.size)
  exact ⟨b.mono hB,(BoxC.new w _ _ _ _ _).below b2,by simpa using EvK.new (w.alloc (oQ4 (some ⟨gp,0,none⟩) y.pn cp (some ⟨gs,0,none⟩) y.sn cs (some ⟨gw,0,none⟩) y.wn cw (some ⟨gh,0,none⟩) y.hn ch)) k q v0 47,fun j hj _=>b.block j hj,_,up,us,uw,uh,(o.recol 0).below b,rcol_new (Nat.le_refl _),rcol_new (Nat.le_succ _),fun j hj=>rcol_old hj⟩
 clear o hO hk2 hk3 hw0 hs hh hw
 go_enter Tryz.func25,Tryz.ntmps25
 go_upto_region 1 with fail
 generalize (w.alloc (oQ4 (some ⟨gp,0,none⟩) y.pn cp (some ⟨gs,0,none⟩) y.sn cs (some ⟨gw,0,none⟩) y.wn cw (some ⟨gh,0,none⟩) y.hn ch)).alloc (oQ0 k q v0)=W2 at *
 obtain ⟨c9,up9,us9,uw9,uh9,o9,-,-,-⟩:=H0.out.ow
 obtain ⟨b0,b1,b2,b3⟩:=H0.out.bx
 obtain ⟨k0,k1,k2,kf⟩:=id H0.out.ev
 have m0:=H0.out.bx.ltM
 have mN:=H0.out.ev.lt
 obtain ⟨g9,k9,ew,-,lp,cellp,-⟩:=o9.p.cell hp
 simp only [Value.slice.injEq,Option.some.injEq,Addr.mk.injEq,and_true,true_and] at ew
 obtain ⟨rfl,rfl⟩:=ew
 obtain ⟨b9,cb9,eup,hb9,hI,-⟩:=atI (o9.p.own p hp) (o9.p.nn nzI p hp)
 rw [eup] at cellp
 obtain ⟨g9,k9,ew,-,ls,cels,fs⟩:=o9.s.cell hps
 simp only [Value.slice.injEq,Option.some.injEq,Addr.mk.injEq,and_true,true_and] at ew
 obtain ⟨rfl,rfl⟩:=ew
 obtain ⟨ra9,rc9,oa9,oc9,eus,s0,s1,s2,s3⟩:=cels
 have hsl:Sl W2 ra9 (y.sS p).rs/\Sl W2 oa9 (y.sS p).os:=by
  have h4:=o9.s.own p hps
  rw [eus] at h4
  exact ⟨h4.parts.1.slOf,h4.parts.2.1.slOf⟩
 clear eup eus
 refine wp_region_G (fun w'=>w'.cell? ⟨w.heap.size,0,none⟩=some (.slice (some ⟨gp,0,none⟩) y.pn cp)/\w'.cell? ⟨w.heap.size,1,none⟩=some (.slice (some ⟨gs,0,none⟩) y.sn cs)/\w'.cell? ⟨gp,p,none⟩=some (.slice (some ⟨b9,0,none⟩) (y.pL p) cb9)/\w'.cell? ⟨gs,p*4,none⟩=some (.int .i64 (y.sS p).p)/\w'.cell? ⟨gs,p*4+1,none⟩=some (.slice ra9 (y.sS p).rs.length rc9)/\w'.cell? ⟨gs,p*4+2,none⟩=some (.slice oa9 (y.sS p).os.length oc9)/\w'.cell? ⟨gs,p*4+3,none⟩=some (.int .i64 (y.sS p).c)/\w'.cell? ⟨w.heap.size+1,0,none⟩=some (.int .i64 k)/\w'.cell? ⟨w.heap.size+1,1,none⟩=some (.int .i64 q)/\w'.cell? ⟨w.heap.size+1,2,none⟩=some (.int .i64 v0)) (fun i=>i == 19) (by kernel_rfl) ?_
 have hHeld:(fun w'=>w'.cell? ⟨w.heap.size,0,none⟩=some (.slice (some ⟨gp,0,none⟩) y.pn cp)/\w'.cell? ⟨w.heap.size,1,none⟩=some (.slice (some ⟨gs,0,none⟩) y.sn cs)/\w'.cell? ⟨gp,p,none⟩=some (.slice (some ⟨b9,0,none⟩) (y.pL p) cb9)/\w'.cell? ⟨gs,p*4,none⟩=some (.int .i64 (y.sS p).p)/\w'.cell? ⟨gs,p*4+1,none⟩=some (.slice ra9 (y.sS p).rs.length rc9)/\w'.cell? ⟨gs,p*4+2,none⟩=some (.slice oa9 (y.sS p).os.length oc9)/\w'.cell? ⟨gs,p*4+3,none⟩=some (.int .i64 (y.sS p).c)/\w'.cell? ⟨w.heap.size+1,0,none⟩=some (.int .i64 k)/\w'.cell? ⟨w.heap.size+1,1,none⟩=some (.int .i64 q)/\w'.cell? ⟨w.heap.size+1,2,none⟩=some (.int .i64 v0)) W2.drew:=⟨b0,b1,cellp,s0,s1,s2,s3,k0,k1,k2⟩
 refine wpGT_of [0,1,2,3,4,5,6,7,8,9,10,11,12,13] ?_
 iterate 14 (refine wpGT_k rfl hHeld ?_)
 refine wpGT_nil ?_
 refine wpG_one 14 rfl (by kernel_rfl) (fun K hK=>?_)
 refine stepR_call rfl 57 _ _ rfl #[.slice (some ⟨b9,0,none⟩) (y.pL p) cb9,stV (y.sS p).p ra9 (y.sS p).rs.length rc9 oa9 (y.sS p).os.length oc9 (y.sS p).c,evV k q v0] (by simp [Act.eval]) (yA Tryz.func57 (by kernel_rfl) rfl) (doIn_any b9 0 (y.pL p) cb9 (y.pH p) (y.sS p).p (y.sS p).c ra9 oa9 rc9 oc9 (y.sS p).rs (y.sS p).os k q v0 W2.drew HLn.out.1 hb9 hI HLn.out.2.1 HLn.out.2.2 hsl.1 hsl.2 HP4.out) ?_
 rintro e w5 ⟨u5,rfl,o5,d5⟩
 refine ⟨_,rfl,?_⟩
 have HT:Hid (y.evt p k q v0=(y.setS p (doS (y.pH p) (y.pL p) (y.sS p).p (y.sS p).rs (y.sS p).os (y.sS p).c k q v0)).setH p (y.hL p+1) (fun i=>if i=y.hL p then ⟨k,q,v0⟩ else y.hH p i)):=rfl
 generalize doS (y.pH p) (y.pL p) (y.sS p).p (y.sS p).rs (y.sS p).os (y.sS p).c k q v0=T at o5 HT
 generalize doB (y.pH p) (y.pL p) (y.sS p).p (y.sS p).rs (y.sS p).os (y.sS p).c k q v0=tb
 obtain ⟨ra5,rc5,oa5,oc5,rfl,-,-⟩:=o5.read
 have q5:Below W2.heap.size W2 w5:=(Below.refl W2.heap.size W2).drew.trans d5
 have hc5:=(bcell q5).1
 have hHeld5:(fun w'=>w'.cell? ⟨w.heap.size,0,none⟩=some (.slice (some ⟨gp,0,none⟩) y.pn cp)/\w'.cell? ⟨w.heap.size,1,none⟩=some (.slice (some ⟨gs,0,none⟩) y.sn cs)/\w'.cell? ⟨gp,p,none⟩=some (.slice (some ⟨b9,0,none⟩) (y.pL p) cb9)/\w'.cell? ⟨gs,p*4,none⟩=some (.int .i64 (y.sS p).p)/\w'.cell? ⟨gs,p*4+1,none⟩=some (.slice ra9 (y.sS p).rs.length rc9)/\w'.cell? ⟨gs,p*4+2,none⟩=some (.slice oa9 (y.sS p).os.length oc9)/\w'.cell? ⟨gs,p*4+3,none⟩=some (.int .i64 (y.sS p).c)/\w'.cell? ⟨w.heap.size+1,0,none⟩=some (.int .i64 k)/\w'.cell? ⟨w.heap.size+1,1,none⟩=some (.int .i64 q)/\w'.cell? ⟨w.heap.size+1,2,none⟩=some (.int .i64 v0)) w5:=⟨(hc5 _ _ m0).trans b0,(hc5 _ _ m0).trans b1,(hc5 _ _ lp).trans cellp,(hc5 _ _ ls).trans s0,(hc5 _ _ ls).trans s1,(hc5 _ _ ls).trans s2,(hc5 _ _ ls).trans s3,(hc5 _ _ mN).trans k0,(hc5 _ _ mN).trans k1,(hc5 _ _ mN).trans k2⟩
 have hf5:∀ j,w5.frozen? ⟨gs,j,none⟩=false:=fun j=>((bcell q5).2 _ j ls).trans (fs j)
 have H1:Hid (Hp z w B c k q v0 (y.setS p T) (.slice (some ⟨gp,0,none⟩) y.pn cp) (.slice (some ⟨gs,0,none⟩) y.sn cs) (.slice (some ⟨gw,0,none⟩) y.wn cw) (.slice (some ⟨gh,0,none⟩) y.hn ch) ((((w5.setCell ⟨gs,p*4,none⟩ (.int .i64 T.p)).setCell ⟨gs,p*4+1,none⟩ (.slice ra5 T.rs.length rc5)).setCell ⟨gs,p*4+2,none⟩ (.slice oa5 T.os.length oc5)).setCell ⟨gs,p*4+3,none⟩ (.int .i64 T.c))):=H0.out.putS hB hps q5 (o5.mono (by simp))
 refine hK.out _ _ (fun _=>hHeld5) ?_
 clear hHeld
 have hHeld:=hHeld5
 clear hHeld5 hc5 d5
 clear hK K
 (try simp only [Act.put,zD,zE,zF])
 refine wpG_k 15 rfl hHeld ?_
 refine wpG_k 16 rfl hHeld ?_
 refine wpG_takeW 17 rfl (by kernel_rfl) (by kernel_rfl) (by kernel_rfl) (fun _ _ _ _ h=>h) (by rfl) ?_
 apply Exists.intro
 refine ⟨fun wq=>?_,?_⟩
 ·go_simp
  try with_reducible rfl
 (try simp only [Act.put,zD,zE,zF])
 refine wpG_k 18 rfl hHeld ?_
 refine wpG_one 19 rfl (by kernel_rfl) (fun K hK=>?_)
 obtain ⟨-,-,-,p0,p1,p2,p3,-⟩:=hHeld
 go_simp
 refine hK.out _ _ (fun h=>?_) ?_
 ·exact absurd h (by decide)
 clear hK K
 (try simp only [Act.put,zD,zE,zF])
 refine wpG_done (by kernel_rfl) ?_ _
 clear o9 hb9 hI hsl b0 b1 b2 b3 k0 k1 k2 kf m0 mN lp cellp ls fs s0 s1 s2 s3 q5 hf5 p0 p1 p2 p3 o5
 go_upto_region 2 with fail
 generalize ((((w5.setCell ⟨gs,p*4,none⟩ (.int .i64 T.p)).setCell ⟨gs,p*4+1,none⟩ (.slice ra5 T.rs.length rc5)).setCell ⟨gs,p*4+2,none⟩ (.slice oa5 T.os.length oc5)).setCell ⟨gs,p*4+3,none⟩ (.int .i64 T.c))=W3 at *
 clear H0
 obtain ⟨c9,up9,us9,uw9,uh9,o9,-,-,-⟩:=H1.out.ow
 obtain ⟨b0,b1,b2,b3⟩:=H1.out.bx
 obtain ⟨k0,k1,k2,kf⟩:=id H1.out.ev
 have m0:=H1.out.bx.ltM
 have mN:=H1.out.ev.lt
 have OH9:LE z W3 (Cl B c9 4) (.slice (some ⟨gh,0,none⟩) y.hn ch) y.hn uh9 y.hL y.hH:=o9.h
 obtain ⟨g9,k9,ew,-,lh,cellh,fh⟩:=OH9.cell hph
 simp only [Value.slice.injEq,Option.some.injEq,Addr.mk.injEq,and_true,true_and] at ew
 obtain ⟨rfl,rfl⟩:=ew
 clear OH9
 have HEq:Hid (∀ wx,Below W3.heap.size W3 wx->Calls Tryz.prog 58 #[sysV (some ⟨gp,0,none⟩) y.pn cp (some ⟨gs,0,none⟩) y.sn cs (some ⟨gw,0,none⟩) y.wn cw (some ⟨gh,0,none⟩) y.hn ch,.int .i64 p] wx fun e w'=>e=.returned (.agg #[.slice (adOf (uh9 p)) (y.hL p) (cpOf (uh9 p)),.int .i64 200])/\Below wx.heap.size wx w'):=fun wx hb=>by
  have h:=eventQueue_any _ p wx (o9.g.below hb) hph
  rw [o9.v] at h
  exact h
 have HWi:Hid (∀ wx,Below W3.heap.size W3 wx->Calls Tryz.prog 59 #[.agg #[.slice (adOf (uh9 p)) (y.hL p) (cpOf (uh9 p)),.int .i64 200],.agg #[.int .i64 k,.int .i64 q,.int .i64 v0]] wx fun e w'=>∃ v,e=.returned v/\w'.ownsRow wx.heap.size 47 3 v (y.hL p+1) (fE (fun i=>if i=y.hL p then ⟨k,q,v0⟩ else y.hH p i) (y.hL p+1))/\v≠.slice none 0 0/\Below wx.heap.size wx w'):=fun wx hb=>withEvent_own _ (y.hL p) _ 200 (y.hH p) ⟨k,q,v0⟩ wx (by omega) (srcE ((o9.g.below hb).hi p hph))
 refine wp_region_G (fun w'=>w'.cell? ⟨w.heap.size,0,none⟩=some (.slice (some ⟨gp,0,none⟩) y.pn cp)/\w'.cell? ⟨w.heap.size,1,none⟩=some (.slice (some ⟨gs,0,none⟩) y.sn cs)/\w'.cell? ⟨w.heap.size,2,none⟩=some (.slice (some ⟨gw,0,none⟩) y.wn cw)/\w'.cell? ⟨w.heap.size,3,none⟩=some (.slice (some ⟨gh,0,none⟩) y.hn ch)/\w'.cell? ⟨w.heap.size+1,0,none⟩=some (.int .i64 k)/\w'.cell? ⟨w.heap.size+1,1,none⟩=some (.int .i64 q)/\w'.cell? ⟨w.heap.size+1,2,none⟩=some (.int .i64 v0)/\w'.cell? ⟨gh,p,none⟩=some (uh9 p)) (fun i=>i == 9) (by kernel_rfl) ?_
 have hHeld:(fun w'=>w'.cell? ⟨w.heap.size,0,none⟩=some (.slice (some ⟨gp,0,none⟩) y.pn cp)/\w'.cell? ⟨w.heap.size,1,none⟩=some (.slice (some ⟨gs,0,none⟩) y.sn cs)/\w'.cell? ⟨w.heap.size,2,none⟩=some (.slice (some ⟨gw,0,none⟩) y.wn cw)/\w'.cell? ⟨w.heap.size,3,none⟩=some (.slice (some ⟨gh,0,none⟩) y.hn ch)/\w'.cell? ⟨w.heap.size+1,0,none⟩=some (.int .i64 k)/\w'.cell? ⟨w.heap.size+1,1,none⟩=some (.int .i64 q)/\w'.cell? ⟨w.heap.size+1,2,none⟩=some (.int .i64 v0)/\w'.cell? ⟨gh,p,none⟩=some (uh9 p)) W3.drew:=⟨b0,b1,b2,b3,k0,k1,k2,cellh⟩
 refine wpGT_of [0,1,2,3,4,6] ?_
 iterate 6 (refine wpGT_k rfl hHeld ?_)
 refine wpGT_nil ?_
 refine wpG_one 5 rfl (by kernel_rfl) (fun K hK=>?_)
 refine stepR_call rfl 58 _ _ rfl #[sysV (some ⟨gp,0,none⟩) y.pn cp (some ⟨gs,0,none⟩) y.sn cs (some ⟨gw,0,none⟩) y.wn cw (some ⟨gh,0,none⟩) y.hn ch,.int .i64 p] (by simp [Act.eval]) (yA Tryz.func58 (by kernel_rfl) rfl) (HEq.out W3.drew (Below.refl W3.heap.size W3).drew) ?_
 rintro e w5 ⟨rfl,d5⟩
 refine ⟨_,rfl,?_⟩
 have q5:Below W3.heap.size W3 w5:=(Below.refl W3.heap.size W3).drew.trans d5
 have hc5:=(bcell q5).1
 refine hK.out _ _ (fun _=>⟨(hc5 _ _ m0).trans b0,(hc5 _ _ m0).trans b1,(hc5 _ _ m0).trans b2,(hc5 _ _ m0).trans b3,(hc5 _ _ mN).trans k0,(hc5 _ _ mN).trans k1,(hc5 _ _ mN).trans k2,(hc5 _ _ lh).trans cellh⟩) ?_
 clear hc5 d5
 clear hK K
 (try simp only [Act.put,zD,zE,zF])
 refine wpG_one 7 rfl (by kernel_rfl) (fun K hK=>?_)
 refine stepR_call rfl 59 _ _ rfl #[.agg #[.slice (adOf (uh9 p)) (y.hL p) (cpOf (uh9 p)),.int .i64 200],.agg #[.int .i64 k,.int .i64 q,.int .i64 v0]] (by simp [Act.eval]) (yA Tryz.func59 (by kernel_rfl) rfl) (HWi.out w5 q5) ?_
 rintro e w6 ⟨v6,rfl,o6,n6,d6⟩
 refine ⟨_,rfl,?_⟩
 have q6:Below W3.heap.size W3 w6:=q5.trans (d6.mono q5.size)
 have hc6:=(bcell q6).1
 have hHeld6:(fun w'=>w'.cell? ⟨w.heap.size,0,none⟩=some (.slice (some ⟨gp,0,none⟩) y.pn cp)/\w'.cell? ⟨w.heap.size,1,none⟩=some (.slice (some ⟨gs,0,none⟩) y.sn cs)/\w'.cell? ⟨w.heap.size,2,none⟩=some (.slice (some ⟨gw,0,none⟩) y.wn cw)/\w'.cell? ⟨w.heap.size,3,none⟩=some (.slice (some ⟨gh,0,none⟩) y.hn ch)/\w'.cell? ⟨w.heap.size+1,0,none⟩=some (.int .i64 k)/\w'.cell? ⟨w.heap.size+1,1,none⟩=some (.int .i64 q)/\w'.cell? ⟨w.heap.size+1,2,none⟩=some (.int .i64 v0)/\w'.cell? ⟨gh,p,none⟩=some (uh9 p)) w6:=⟨(hc6 _ _ m0).trans b0,(hc6 _ _ m0).trans b1,(hc6 _ _ m0).trans b2,(hc6 _ _ m0).trans b3,(hc6 _ _ mN).trans k0,(hc6 _ _ mN).trans k1,(hc6 _ _ mN).trans k2,(hc6 _ _ lh).trans cellh⟩
 have hf6:∀ j,w6.frozen? ⟨gh,j,none⟩=false:=fun j=>((bcell q6).2 _ j lh).trans (fh j)
 obtain ⟨a6,c6,rfl⟩:=zU o6
 have H2:Hid (Hp z w B c k q v0 (y.evt p k q v0) (.slice (some ⟨gp,0,none⟩) y.pn cp) (.slice (some ⟨gs,0,none⟩) y.sn cs) (.slice (some ⟨gw,0,none⟩) y.wn cw) (.slice (some ⟨gh,0,none⟩) y.hn ch) (w6.setCell ⟨gh,p,none⟩ (.slice a6 (y.hL p+1) c6))):=by
  have h:=H1.out.putH hB hph q6 (o6.mono q5.size) n6
  show Hp z w B c k q v0 (y.evt p k q v0) (.slice (some ⟨gp,0,none⟩) y.pn cp) (.slice (some ⟨gs,0,none⟩) y.sn cs) (.slice (some ⟨gw,0,none⟩) y.wn cw) (.slice (some ⟨gh,0,none⟩) y.hn ch) _
  rw [HT.out]
  exact h
 refine hK.out _ _ (fun _=>hHeld6) ?_
 clear hHeld
 have hHeld:=hHeld6
 clear hHeld6 hc6 d6 o6 n6
 clear hK K
 (try simp only [Act.put,zD,zE,zF])
 refine wpG_k 8 rfl hHeld ?_
 refine wpG_one 9 rfl (by kernel_rfl) (fun K hK=>?_)
 have hcN:=hHeld.2.2.2.2.2.2.2
 have hfN:=hf6 p
 go_simp
 refine hK.out _ _ (fun h=>?_) ?_
 ·exact absurd h (by decide)
 clear hK K
 (try simp only [Act.put,zD,zE,zF])
 refine wpG_done (by kernel_rfl) ?_ _
 clear o9 b0 b1 b2 b3 k0 k1 k2 kf m0 mN lh cellh fh q5 q6 hf6 hcN hfN HEq HWi hHeld HT
 go_upto_region 3 with fail
 generalize w6.setCell ⟨gh,p,none⟩ (.slice a6 (y.hL p+1) c6)=W4 at *
 clear H1
 rcases zK (k == 2) with t2 | t2
 ·have hk:k=2:=by simpa using t2
  obtain ⟨g1,g2⟩:=HK2.out hk
  obtain ⟨r,rfl⟩:∃ r:Nat,q=r:=⟨q.toNat,by omega⟩
  have hr:r<y.pn:=by omega
  have hJ:p*y.pn+r<y.wn:=by rw [HN.out.2.2];exact way_lt hp hr
  have h12:y.wL (p*y.pn+r)<=12:=HWY.out p r hp hr
  have hr4:r<4:=by omega
  have hp4:p<4:=by omega
  have HY:Hid ((y.evt p k (r:Int) v0).way p k (r:Int) v0=(y.evt p k (r:Int) v0).setW (p*y.pn+r) (y.wL (p*y.pn+r)+1) (fun i=>if i=y.wL (p*y.pn+r) then ⟨false,v0⟩ else y.wH (p*y.pn+r) i)):=by
   show (y.evt p k (r:Int) v0).way p k (r:Int) v0=_
   rw [show (y.evt p k (r:Int) v0).way p k (r:Int) v0=(y.evt p k (r:Int) v0).way p 2 (r:Int) v0 by rw [hk],Sy.way_send]
   rfl
  have HNu0:∀ x:SysIn,x.pn=y.pn->∀ wx,Calls Tryz.prog 62 #[x.v,.int .i64 p,.int .i64 r] wx fun e w'=>e=.returned (.int .i64 (p*y.pn+r:Nat))/\Below wx.heap.size wx w':=fun x e wx=>by
   have h:=wayNumber_any x p r wx hp4 hr4 (by omega)
   rw [e] at h
   exact h
  have HQu0:∀ x:SysIn,x.pn=y.pn->∀ wx,SysG wx x->p*y.pn+r<x.wn->Calls Tryz.prog 60 #[x.v,.int .i64 p,.int .i64 r] wx fun e w'=>e=.returned (.agg #[.slice (x.wA (p*y.pn+r)) (x.wL (p*y.pn+r)) (x.wC (p*y.pn+r)),.int .i64 12])/\Below wx.heap.size wx w':=fun x e wx hg hw=>by
   have h:=wayQueue_any x p r wx hg hp4 hr4 (by omega) (by rw [e];exact hw)
   rw [e] at h
   exact h
  generalize p*y.pn+r=J at *
  have hJ':(J:Int)<(y.wn:Int):=by omega
  obtain ⟨c9,up9,us9,uw9,uh9,o9,-,-,-⟩:=H2.out.ow
  obtain ⟨b0,b1,b2,b3⟩:=H2.out.bx
  obtain ⟨k0,k1,k2,kf⟩:=id H2.out.ev
  have m0:=H2.out.bx.ltM
  have mN:=H2.out.ev.lt
  have OT9:LT z W4 (Cl B c9 3) (.slice (some ⟨gw,0,none⟩) y.wn cw) y.wn uw9 y.wL y.wH:=o9.t
  obtain ⟨g9,k9,ew,-,lw,cellw,fw⟩:=OT9.cell hJ
  simp only [Value.slice.injEq,Option.some.injEq,Addr.mk.injEq,and_true,true_and] at ew
  obtain ⟨rfl,rfl⟩:=ew
  have HNu:Hid (∀ wx,Calls Tryz.prog 62 #[sysV (some ⟨gp,0,none⟩) y.pn cp (some ⟨gs,0,none⟩) y.sn cs (some ⟨gw,0,none⟩) y.wn cw (some ⟨gh,0,none⟩) y.hn ch,.int .i64 p,.int .i64 r] wx fun e w'=>e=.returned (.int .i64 (J:Nat))/\Below wx.heap.size wx w'):=fun wx=>by
   have h:=HNu0 ((y.evt p k (r:Int) v0).sysIn (.slice (some ⟨gp,0,none⟩) y.pn cp) (.slice (some ⟨gs,0,none⟩) y.sn cs) (.slice (some ⟨gw,0,none⟩) y.wn cw) (.slice (some ⟨gh,0,none⟩) y.hn ch) up9 us9 uw9 uh9) rfl wx
   rw [o9.v] at h
   exact h
  have HQu:Hid (∀ wx,Below W4.heap.size W4 wx->Calls Tryz.prog 60 #[sysV (some ⟨gp,0,none⟩) y.pn cp (some ⟨gs,0,none⟩) y.sn cs (some ⟨gw,0,none⟩) y.wn cw (some ⟨gh,0,none⟩) y.hn ch,.int .i64 p,.int .i64 r] wx fun e w'=>e=.returned (.agg #[.slice (adOf (uw9 J)) (y.wL J) (cpOf (uw9 J)),.int .i64 12])/\Below wx.heap.size wx w'):=fun wx hb=>by
   have h:=HQu0 ((y.evt p k (r:Int) v0).sysIn (.slice (some ⟨gp,0,none⟩) y.pn cp) (.slice (some ⟨gs,0,none⟩) y.sn cs) (.slice (some ⟨gw,0,none⟩) y.wn cw) (.slice (some ⟨gh,0,none⟩) y.hn ch) up9 us9 uw9 uh9) rfl wx (o9.g.below hb) hJ
   rw [o9.v] at h
   exact h
  have HWi:Hid (∀ wx,Below W4.heap.size W4 wx->Calls Tryz.prog 61 #[.agg #[.slice (adOf (uw9 J)) (y.wL J) (cpOf (uw9 J)),.int .i64 12],.agg #[.bool false,.int .i64 v0]] wx fun e w'=>∃ a c,e=.returned (.slice a (y.wL J+1) c)/\w'.ownsRow wx.heap.size 59 2 (.slice a (y.wL J+1) c) (y.wL J+1) (fT (fun i=>if i=y.wL J then ⟨false,v0⟩ else y.wH J i) (y.wL J+1))/\Value.slice a (y.wL J+1) c≠.slice none 0 0/\Below wx.heap.size wx w'):=fun wx hb=>(withItem_own _ (y.wL J) _ 12 (y.wH J) ⟨false,v0⟩ wx (by omega) (srcT ((o9.g.below hb).wi J hJ))).mono fun e w' ⟨v,e1,e2,e3,e4⟩=>by
   obtain ⟨a,c,rfl⟩:=zU e2
   exact ⟨a,c,e1,e2,e3,e4⟩
  clear HNu0 HQu0 o9 OT9 hk
  go_upto_region 5 with fail
  refine wp_region_G (fun w'=>w'.cell? ⟨w.heap.size,0,none⟩=some (.slice (some ⟨gp,0,none⟩) y.pn cp)/\w'.cell? ⟨w.heap.size,1,none⟩=some (.slice (some ⟨gs,0,none⟩) y.sn cs)/\w'.cell? ⟨w.heap.size,2,none⟩=some (.slice (some ⟨gw,0,none⟩) y.wn cw)/\w'.cell? ⟨w.heap.size,3,none⟩=some (.slice (some ⟨gh,0,none⟩) y.hn ch)/\w'.cell? ⟨w.heap.size+1,1,none⟩=some (.int .i64 (r:Int))/\w'.cell? ⟨w.heap.size+1,2,none⟩=some (.int .i64 v0)/\w'.cell? ⟨gw,J,none⟩=some (uw9 J)) (fun i=>i == 17) (by kernel_rfl) ?_
  have hHeld:(fun w'=>w'.cell? ⟨w.heap.size,0,none⟩=some (.slice (some ⟨gp,0,none⟩) y.pn cp)/\w'.cell? ⟨w.heap.size,1,none⟩=some (.slice (some ⟨gs,0,none⟩) y.sn cs)/\w'.cell? ⟨w.heap.size,2,none⟩=some (.slice (some ⟨gw,0,none⟩) y.wn cw)/\w'.cell? ⟨w.heap.size,3,none⟩=some (.slice (some ⟨gh,0,none⟩) y.hn ch)/\w'.cell? ⟨w.heap.size+1,1,none⟩=some (.int .i64 (r:Int))/\w'.cell? ⟨w.heap.size+1,2,none⟩=some (.int .i64 v0)/\w'.cell? ⟨gw,J,none⟩=some (uw9 J)) W4.drew:=⟨b0,b1,b2,b3,k1,k2,cellw⟩
  have q0:Below W4.heap.size W4 W4.drew:=(Below.refl W4.heap.size W4).drew
  refine wpGT_of [0,1,2,3,4,5,7,8,9,10,12,13,14] ?_
  iterate 13 (refine wpGT_k rfl hHeld ?_)
  refine wpGT_nil ?_
  refine wpG_one 6 rfl (by kernel_rfl) (fun K hK=>?_)
  refine stepR_call rfl 62 _ _ rfl #[sysV (some ⟨gp,0,none⟩) y.pn cp (some ⟨gs,0,none⟩) y.sn cs (some ⟨gw,0,none⟩) y.wn cw (some ⟨gh,0,none⟩) y.hn ch,.int .i64 (p:Nat),.int .i64 (r:Nat)] (by simp [Act.eval]) (yA Tryz.func62 (by kernel_rfl) rfl) (HNu.out W4.drew) ?_
  rintro e wa ⟨rfl,d5⟩
  refine ⟨_,rfl,?_⟩
  have qwa:Below W4.heap.size W4 wa:=q0.trans (d5.mono q0.size)
  have hcwa:=(bcell qwa).1
  have hHeldwa:(fun w'=>w'.cell? ⟨w.heap.size,0,none⟩=some (.slice (some ⟨gp,0,none⟩) y.pn cp)/\w'.cell? ⟨w.heap.size,1,none⟩=some (.slice (some ⟨gs,0,none⟩) y.sn cs)/\w'.cell? ⟨w.heap.size,2,none⟩=some (.slice (some ⟨gw,0,none⟩) y.wn cw)/\w'.cell? ⟨w.heap.size,3,none⟩=some (.slice (some ⟨gh,0,none⟩) y.hn ch)/\w'.cell? ⟨w.heap.size+1,1,none⟩=some (.int .i64 (r:Int))/\w'.cell? ⟨w.heap.size+1,2,none⟩=some (.int .i64 v0)/\w'.cell? ⟨gw,J,none⟩=some (uw9 J)) wa:=⟨(hcwa _ _ m0).trans b0,(hcwa _ _ m0).trans b1,(hcwa _ _ m0).trans b2,(hcwa _ _ m0).trans b3,(hcwa _ _ mN).trans k1,(hcwa _ _ mN).trans k2,(hcwa _ _ lw).trans cellw⟩
  refine hK.out _ _ (fun _=>hHeldwa) ?_
  clear hK K d5
  (try simp only [Act.put,zD,zE,zF])
  refine wpG_one 11 rfl (by kernel_rfl) (fun K hK=>?_)
  refine stepR_call rfl 60 _ _ rfl #[sysV (some ⟨gp,0,none⟩) y.pn cp (some ⟨gs,0,none⟩) y.sn cs (some ⟨gw,0,none⟩) y.wn cw (some ⟨gh,0,none⟩) y.hn ch,.int .i64 (p:Nat),.int .i64 (r:Nat)] (by simp [Act.eval]) (yA Tryz.func60 (by kernel_rfl) rfl) (HQu.out wa qwa) ?_
  rintro e wb ⟨rfl,d5⟩
  refine ⟨_,rfl,?_⟩
  have qwb:Below W4.heap.size W4 wb:=qwa.trans (d5.mono qwa.size)
  have hcwb:=(bcell qwb).1
  have hHeldwb:(fun w'=>w'.cell? ⟨w.heap.size,0,none⟩=some (.slice (some ⟨gp,0,none⟩) y.pn cp)/\w'.cell? ⟨w.heap.size,1,none⟩=some (.slice (some ⟨gs,0,none⟩) y.sn cs)/\w'.cell? ⟨w.heap.size,2,none⟩=some (.slice (some ⟨gw,0,none⟩) y.wn cw)/\w'.cell? ⟨w.heap.size,3,none⟩=some (.slice (some ⟨gh,0,none⟩) y.hn ch)/\w'.cell? ⟨w.heap.size+1,1,none⟩=some (.int .i64 (r:Int))/\w'.cell? ⟨w.heap.size+1,2,none⟩=some (.int .i64 v0)/\w'.cell? ⟨gw,J,none⟩=some (uw9 J)) wb:=⟨(hcwb _ _ m0).trans b0,(hcwb _ _ m0).trans b1,(hcwb _ _ m0).trans b2,(hcwb _ _ m0).trans b3,(hcwb _ _ mN).trans k1,(hcwb _ _ mN).trans k2,(hcwb _ _ lw).trans cellw⟩
  refine hK.out _ _ (fun _=>hHeldwb) ?_
  clear hK K d5
  (try simp only [Act.put,zD,zE,zF])
  refine wpG_one 15 rfl (by kernel_rfl) (fun K hK=>?_)
  refine stepR_call rfl 61 _ _ rfl #[.agg #[.slice (adOf (uw9 J)) (y.wL J) (cpOf (uw9 J)),.int .i64 12],.agg #[.bool false,.int .i64 v0]] (by simp [Act.eval]) (yA Tryz.func61 (by kernel_rfl) rfl) (HWi.out wb qwb) ?_
  rintro e wd ⟨a6,c6,rfl,o6,n6,d6⟩
  refine ⟨_,rfl,?_⟩
  have qwd:Below W4.heap.size W4 wd:=qwb.trans (d6.mono qwb.size)
  have hcwd:=(bcell qwd).1
  have hHeldwd:(fun w'=>w'.cell? ⟨w.heap.size,0,none⟩=some (.slice (some ⟨gp,0,none⟩) y.pn cp)/\w'.cell? ⟨w.heap.size,1,none⟩=some (.slice (some ⟨gs,0,none⟩) y.sn cs)/\w'.cell? ⟨w.heap.size,2,none⟩=some (.slice (some ⟨gw,0,none⟩) y.wn cw)/\w'.cell? ⟨w.heap.size,3,none⟩=some (.slice (some ⟨gh,0,none⟩) y.hn ch)/\w'.cell? ⟨w.heap.size+1,1,none⟩=some (.int .i64 (r:Int))/\w'.cell? ⟨w.heap.size+1,2,none⟩=some (.int .i64 v0)/\w'.cell? ⟨gw,J,none⟩=some (uw9 J)) wd:=⟨(hcwd _ _ m0).trans b0,(hcwd _ _ m0).trans b1,(hcwd _ _ m0).trans b2,(hcwd _ _ m0).trans b3,(hcwd _ _ mN).trans k1,(hcwd _ _ mN).trans k2,(hcwd _ _ lw).trans cellw⟩
  replace o6:=o6.mono qwb.size
  have hfw:∀ j,wd.frozen? ⟨gw,j,none⟩=false:=fun j=>((bcell qwd).2 _ j lw).trans (fw j)
  have H3:Hid (Hp z w B c k (r:Int) v0 ((y.evt p k (r:Int) v0).setW J (y.wL J+1) (fun i=>if i=y.wL J then ⟨false,v0⟩ else y.wH J i)) (.slice (some ⟨gp,0,none⟩) y.pn cp) (.slice (some ⟨gs,0,none⟩) y.sn cs) (.slice (some ⟨gw,0,none⟩) y.wn cw) (.slice (some ⟨gh,0,none⟩) y.hn ch) (wd.setCell ⟨gw,J,none⟩ (.slice a6 (y.wL J+1) c6))):=H2.out.putW hB hJ qwd o6 n6
  refine hK.out _ _ (fun _=>hHeldwd) ?_
  clear hHeld
  have hHeld:=hHeldwd
  clear hK K
  (try simp only [Act.put,zD,zE,zF])
  refine wpG_k 16 rfl hHeld ?_
  refine wpG_one 17 rfl (by kernel_rfl) (fun K hK=>?_)
  have hcN:=hHeld.2.2.2.2.2.2
  have hfN:=hfw J
  go_simp
  refine hK.out _ _ (fun h=>?_) ?_
  ·exact absurd h (by decide)
  clear hK K
  (try simp only [Act.put,zD,zE,zF])
  refine wpG_done (by kernel_rfl) ?_ _
  clear hcN hfN hHeld hfw
  go_wp2_with fail
  go_end0
  exact ⟨rfl, H3.out.be, H3.out.kp, by
   rw [HY.out]
   exact H3.out.ownK⟩
 rcases zK (k == 3) with t3 | t3
 ·have hk:k=3:=by simpa using t3
  obtain ⟨g1,g2,g3⟩:=HK3.out hk
  obtain ⟨r,rfl⟩:∃ r:Nat,q=r:=⟨q.toNat,by omega⟩
  rw [Int.toNat_natCast] at g3
  have hr:r<y.pn:=by omega
  have hJ:r*y.pn+p<y.wn:=by rw [HN.out.2.2];exact way_lt hr hp
  have h12:y.wL (r*y.pn+p)<=12:=HWY.out r p hr hp
  have hr4:r<4:=by omega
  have hp4:p<4:=by omega
  have HY:Hid ((y.evt p k (r:Int) v0).way p k (r:Int) v0=(y.evt p k (r:Int) v0).setW (r*y.pn+p) (y.wL (r*y.pn+p) - 1) (fun i=>y.wH (r*y.pn+p) (i+1))):=by
   show (y.evt p k (r:Int) v0).way p k (r:Int) v0=_
   rw [show (y.evt p k (r:Int) v0).way p k (r:Int) v0=(y.evt p k (r:Int) v0).way p 3 (r:Int) v0 by rw [hk],Sy.way_take]
   rfl
  have HNu0:∀ x:SysIn,x.pn=y.pn->∀ wx,Calls Tryz.prog 62 #[x.v,.int .i64 r,.int .i64 p] wx fun e w'=>e=.returned (.int .i64 (r*y.pn+p:Nat))/\Below wx.heap.size wx w':=fun x e wx=>by
   have h:=wayNumber_any x r p wx hr4 hp4 (by omega)
   rw [e] at h
   exact h
  have HQu0:∀ x:SysIn,x.pn=y.pn->∀ wx,SysG wx x->r*y.pn+p<x.wn->Calls Tryz.prog 60 #[x.v,.int .i64 r,.int .i64 p] wx fun e w'=>e=.returned (.agg #[.slice (x.wA (r*y.pn+p)) (x.wL (r*y.pn+p)) (x.wC (r*y.pn+p)),.int .i64 12])/\Below wx.heap.size wx w':=fun x e wx hg hw=>by
   have h:=wayQueue_any x r p wx hg hr4 hp4 (by omega) (by rw [e];exact hw)
   rw [e] at h
   exact h
  generalize r*y.pn+p=J at *
  have hJ':(J:Int)<(y.wn:Int):=by omega
  obtain ⟨c9,up9,us9,uw9,uh9,o9,-,-,-⟩:=H2.out.ow
  obtain ⟨b0,b1,b2,b3⟩:=H2.out.bx
  obtain ⟨k0,k1,k2,kf⟩:=id H2.out.ev
  have m0:=H2.out.bx.ltM
  have mN:=H2.out.ev.lt
  have OT9:LT z W4 (Cl B c9 3) (.slice (some ⟨gw,0,none⟩) y.wn cw) y.wn uw9 y.wL y.wH:=o9.t
  obtain ⟨g9,k9,ew,-,lw,cellw,fw⟩:=OT9.cell hJ
  simp only [Value.slice.injEq,Option.some.injEq,Addr.mk.injEq,and_true,true_and] at ew
  obtain ⟨rfl,rfl⟩:=ew
  obtain ⟨bw,cbw,euw,hbw,hIt,hcapw⟩:=atT (OT9.own J hJ) ((nil_or (OT9.own J hJ)).resolve_left (by omega))
  have hcm:cbw<=maxLen:=by
   have h:=OT9.own J hJ
   rw [euw] at h
   exact ownsRow_cap h
  have HNu:Hid (∀ wx,Calls Tryz.prog 62 #[sysV (some ⟨gp,0,none⟩) y.pn cp (some ⟨gs,0,none⟩) y.sn cs (some ⟨gw,0,none⟩) y.wn cw (some ⟨gh,0,none⟩) y.hn ch,.int .i64 r,.int .i64 p] wx fun e w'=>e=.returned (.int .i64 (J:Nat))/\Below wx.heap.size wx w'):=fun wx=>by
   have h:=HNu0 ((y.evt p k (r:Int) v0).sysIn (.slice (some ⟨gp,0,none⟩) y.pn cp) (.slice (some ⟨gs,0,none⟩) y.sn cs) (.slice (some ⟨gw,0,none⟩) y.wn cw) (.slice (some ⟨gh,0,none⟩) y.hn ch) up9 us9 uw9 uh9) rfl wx
   rw [o9.v] at h
   exact h
  have HQu:Hid (∀ wx,Below W4.heap.size W4 wx->Calls Tryz.prog 60 #[sysV (some ⟨gp,0,none⟩) y.pn cp (some ⟨gs,0,none⟩) y.sn cs (some ⟨gw,0,none⟩) y.wn cw (some ⟨gh,0,none⟩) y.hn ch,.int .i64 r,.int .i64 p] wx fun e w'=>e=.returned (.agg #[.slice (some ⟨bw,0,none⟩) (y.wL J) cbw,.int .i64 12])/\Below wx.heap.size wx w'):=fun wx hb=>by
   have h:=HQu0 ((y.evt p k (r:Int) v0).sysIn (.slice (some ⟨gp,0,none⟩) y.pn cp) (.slice (some ⟨gs,0,none⟩) y.sn cs) (.slice (some ⟨gw,0,none⟩) y.wn cw) (.slice (some ⟨gh,0,none⟩) y.hn ch) up9 us9 uw9 uh9) rfl wx (o9.g.below hb) hJ
   rw [o9.v] at h
   refine h.mono fun e w' hh=>⟨hh.1.trans ?_,hh.2⟩
   show Ending.returned (.agg #[.slice (adOf (uw9 J)) (y.wL J) (cpOf (uw9 J)),.int .i64 12])=_
   rw [euw]
   rfl
  have HWi:Hid (∀ wx,Below W4.heap.size W4 wx->Calls Tryz.prog 63 #[.agg #[.slice (some ⟨bw,0,none⟩) (y.wL J) cbw,.int .i64 12]] wx fun e w'=>∃ a c,e=.returned (.slice a (y.wL J - 1) c)/\w'.ownsRow wx.heap.size 59 2 (.slice a (y.wL J - 1) c) (y.wL J - 1) (fT (fun i=>y.wH J (i+1)) (y.wL J - 1))/\Value.slice a (y.wL J - 1) c≠.slice none 0 0/\Below wx.heap.size wx w'):=fun wx hb=>restItem_own bw (y.wL J) cbw 12 (y.wH J) wx (by omega) (by omega) hcapw hcm (zL hbw hb.size) (hIt.below hb hbw)
  clear HNu0 HQu0 o9 OT9 hk hIt
  go_upto_region 7 with fail
  refine wp_region_G (fun w'=>w'.cell? ⟨w.heap.size,0,none⟩=some (.slice (some ⟨gp,0,none⟩) y.pn cp)/\w'.cell? ⟨w.heap.size,1,none⟩=some (.slice (some ⟨gs,0,none⟩) y.sn cs)/\w'.cell? ⟨w.heap.size,2,none⟩=some (.slice (some ⟨gw,0,none⟩) y.wn cw)/\w'.cell? ⟨w.heap.size,3,none⟩=some (.slice (some ⟨gh,0,none⟩) y.hn ch)/\w'.cell? ⟨w.heap.size+1,1,none⟩=some (.int .i64 (r:Int))/\w'.cell? ⟨w.heap.size+1,2,none⟩=some (.int .i64 v0)/\w'.cell? ⟨gw,J,none⟩=some (uw9 J)) (fun i=>i == 14) (by kernel_rfl) ?_
  have hHeld:(fun w'=>w'.cell? ⟨w.heap.size,0,none⟩=some (.slice (some ⟨gp,0,none⟩) y.pn cp)/\w'.cell? ⟨w.heap.size,1,none⟩=some (.slice (some ⟨gs,0,none⟩) y.sn cs)/\w'.cell? ⟨w.heap.size,2,none⟩=some (.slice (some ⟨gw,0,none⟩) y.wn cw)/\w'.cell? ⟨w.heap.size,3,none⟩=some (.slice (some ⟨gh,0,none⟩) y.hn ch)/\w'.cell? ⟨w.heap.size+1,1,none⟩=some (.int .i64 (r:Int))/\w'.cell? ⟨w.heap.size+1,2,none⟩=some (.int .i64 v0)/\w'.cell? ⟨gw,J,none⟩=some (uw9 J)) W4.drew:=⟨b0,b1,b2,b3,k1,k2,cellw⟩
  have q0:Below W4.heap.size W4 W4.drew:=(Below.refl W4.heap.size W4).drew
  refine wpGT_of [0,1,2,3,4,5,7,8,9,10] ?_
  iterate 10 (refine wpGT_k rfl hHeld ?_)
  refine wpGT_nil ?_
  refine wpG_one 6 rfl (by kernel_rfl) (fun K hK=>?_)
  refine stepR_call rfl 62 _ _ rfl #[sysV (some ⟨gp,0,none⟩) y.pn cp (some ⟨gs,0,none⟩) y.sn cs (some ⟨gw,0,none⟩) y.wn cw (some ⟨gh,0,none⟩) y.hn ch,.int .i64 (r:Nat),.int .i64 (p:Nat)] (by simp [Act.eval]) (yA Tryz.func62 (by kernel_rfl) rfl) (HNu.out W4.drew) ?_
  rintro e wa ⟨rfl,d5⟩
  refine ⟨_,rfl,?_⟩
  have qwa:Below W4.heap.size W4 wa:=q0.trans (d5.mono q0.size)
  have hcwa:=(bcell qwa).1
  have hHeldwa:(fun w'=>w'.cell? ⟨w.heap.size,0,none⟩=some (.slice (some ⟨gp,0,none⟩) y.pn cp)/\w'.cell? ⟨w.heap.size,1,none⟩=some (.slice (some ⟨gs,0,none⟩) y.sn cs)/\w'.cell? ⟨w.heap.size,2,none⟩=some (.slice (some ⟨gw,0,none⟩) y.wn cw)/\w'.cell? ⟨w.heap.size,3,none⟩=some (.slice (some ⟨gh,0,none⟩) y.hn ch)/\w'.cell? ⟨w.heap.size+1,1,none⟩=some (.int .i64 (r:Int))/\w'.cell? ⟨w.heap.size+1,2,none⟩=some (.int .i64 v0)/\w'.cell? ⟨gw,J,none⟩=some (uw9 J)) wa:=⟨(hcwa _ _ m0).trans b0,(hcwa _ _ m0).trans b1,(hcwa _ _ m0).trans b2,(hcwa _ _ m0).trans b3,(hcwa _ _ mN).trans k1,(hcwa _ _ mN).trans k2,(hcwa _ _ lw).trans cellw⟩
  refine hK.out _ _ (fun _=>hHeldwa) ?_
  clear hK K d5
  (try simp only [Act.put,zD,zE,zF])
  refine wpG_one 11 rfl (by kernel_rfl) (fun K hK=>?_)
  refine stepR_call rfl 60 _ _ rfl #[sysV (some ⟨gp,0,none⟩) y.pn cp (some ⟨gs,0,none⟩) y.sn cs (some ⟨gw,0,none⟩) y.wn cw (some ⟨gh,0,none⟩) y.hn ch,.int .i64 (r:Nat),.int .i64 (p:Nat)] (by simp [Act.eval]) (yA Tryz.func60 (by kernel_rfl) rfl) (HQu.out wa qwa) ?_
  rintro e wb ⟨rfl,d5⟩
  refine ⟨_,rfl,?_⟩
  have qwb:Below W4.heap.size W4 wb:=qwa.trans (d5.mono qwa.size)
  have hcwb:=(bcell qwb).1
  have hHeldwb:(fun w'=>w'.cell? ⟨w.heap.size,0,none⟩=some (.slice (some ⟨gp,0,none⟩) y.pn cp)/\w'.cell? ⟨w.heap.size,1,none⟩=some (.slice (some ⟨gs,0,none⟩) y.sn cs)/\w'.cell? ⟨w.heap.size,2,none⟩=some (.slice (some ⟨gw,0,none⟩) y.wn cw)/\w'.cell? ⟨w.heap.size,3,none⟩=some (.slice (some ⟨gh,0,none⟩) y.hn ch)/\w'.cell? ⟨w.heap.size+1,1,none⟩=some (.int .i64 (r:Int))/\w'.cell? ⟨w.heap.size+1,2,none⟩=some (.int .i64 v0)/\w'.cell? ⟨gw,J,none⟩=some (uw9 J)) wb:=⟨(hcwb _ _ m0).trans b0,(hcwb _ _ m0).trans b1,(hcwb _ _ m0).trans b2,(hcwb _ _ m0).trans b3,(hcwb _ _ mN).trans k1,(hcwb _ _ mN).trans k2,(hcwb _ _ lw).trans cellw⟩
  refine hK.out _ _ (fun _=>hHeldwb) ?_
  clear hK K d5
  (try simp only [Act.put,zD,zE,zF])
  refine wpG_one 12 rfl (by kernel_rfl) (fun K hK=>?_)
  refine stepR_call rfl 63 _ _ rfl #[.agg #[.slice (some ⟨bw,0,none⟩) (y.wL J) cbw,.int .i64 12]] (by simp [Act.eval]) (yA Tryz.func63 (by kernel_rfl) rfl) (HWi.out wb qwb) ?_
  rintro e wd ⟨a6,c6,rfl,o6,n6,d6⟩
  refine ⟨_,rfl,?_⟩
  have qwd:Below W4.heap.size W4 wd:=qwb.trans (d6.mono qwb.size)
  have hcwd:=(bcell qwd).1
  have hHeldwd:(fun w'=>w'.cell? ⟨w.heap.size,0,none⟩=some (.slice (some ⟨gp,0,none⟩) y.pn cp)/\w'.cell? ⟨w.heap.size,1,none⟩=some (.slice (some ⟨gs,0,none⟩) y.sn cs)/\w'.cell? ⟨w.heap.size,2,none⟩=some (.slice (some ⟨gw,0,none⟩) y.wn cw)/\w'.cell? ⟨w.heap.size,3,none⟩=some (.slice (some ⟨gh,0,none⟩) y.hn ch)/\w'.cell? ⟨w.heap.size+1,1,none⟩=some (.int .i64 (r:Int))/\w'.cell? ⟨w.heap.size+1,2,none⟩=some (.int .i64 v0)/\w'.cell? ⟨gw,J,none⟩=some (uw9 J)) wd:=⟨(hcwd _ _ m0).trans b0,(hcwd _ _ m0).trans b1,(hcwd _ _ m0).trans b2,(hcwd _ _ m0).trans b3,(hcwd _ _ mN).trans k1,(hcwd _ _ mN).trans k2,(hcwd _ _ lw).trans cellw⟩
  replace o6:=o6.mono qwb.size
  have hfw:∀ j,wd.frozen? ⟨gw,j,none⟩=false:=fun j=>((bcell qwd).2 _ j lw).trans (fw j)
  have H3:Hid (Hp z w B c k (r:Int) v0 ((y.evt p k (r:Int) v0).setW J (y.wL J - 1) (fun i=>y.wH J (i+1))) (.slice (some ⟨gp,0,none⟩) y.pn cp) (.slice (some ⟨gs,0,none⟩) y.sn cs) (.slice (some ⟨gw,0,none⟩) y.wn cw) (.slice (some ⟨gh,0,none⟩) y.hn ch) (wd.setCell ⟨gw,J,none⟩ (.slice a6 (y.wL J - 1) c6))):=H2.out.putW hB hJ qwd o6 n6
  refine hK.out _ _ (fun _=>hHeldwd) ?_
  clear hHeld
  have hHeld:=hHeldwd
  clear hK K
  (try simp only [Act.put,zD,zE,zF])
  refine wpG_k 13 rfl hHeld ?_
  refine wpG_one 14 rfl (by kernel_rfl) (fun K hK=>?_)
  have hcN:=hHeld.2.2.2.2.2.2
  have hfN:=hfw J
  go_simp
  refine hK.out _ _ (fun h=>?_) ?_
  ·exact absurd h (by decide)
  clear hK K
  (try simp only [Act.put,zD,zE,zF])
  refine wpG_done (by kernel_rfl) ?_ _
  clear hcN hfN hHeld hfw
  go_wp2_with fail
  go_end0
  exact ⟨rfl, H3.out.be, H3.out.kp, by
   rw [HY.out]
   exact H3.out.ownK⟩
 ·have hk2:k≠2:=by simpa using t2
  have hk3:k≠3:=by simpa using t3
  have HY:Hid ((y.evt p k q v0).way p k q v0=y.evt p k q v0):=Sy.way_no _ p hk2 hk3 q v0
  obtain ⟨k0,k1,k2,kf⟩:=H2.out.ev
  clear hk2 hk3
  go_wp2_with fail
  go_end0
  exact ⟨rfl, H2.out.be, H2.out.kp, by
   rw [HY.out]
   exact H2.out.ownK⟩
theorem happen_any (y:Sy) (p:Nat) (k q v0:Int) (w:World) (B:Nat) (c:Nat->Nat) (vp vs vw vh:Value) (up us uw uh:Nat->Value) (o:OwnS z w B c y vp vs vw vh up us uw uh) (hB:B<=w.heap.size) (hO:y.Ok) (hp:p<y.pn) (hk2:k=2->0<=q/\q<y.pn) (hk3:k=3->0<=q/\q<y.pn/\0<y.wL (q.toNat*y.pn+p)):
  Calls Tryz.prog 25 #[.agg #[vp,vs,vw,vh],.int .i64 p,evV k q v0] w fun e w'=>e=.returned (.tuple #[])/\Below B w w'/\(∀ b,b<w.heap.size->c b=0->w'.heap[b]? = w.heap[b]?)/\OwnSys z w' B ((y.evt p k q v0).way p k q v0) (.agg #[vp,vs,vw,vh]):=
 (happen_own y p k q v0 w B c vp vs vw vh up us uw uh o hB hO hp hk2 hk3).mono fun _ _ h=>⟨h.1,h.2.1,h.2.2.1,h.2.2.2.own⟩
variable {z:Bool}
theorem cm_take {y:Sy} {p:Nat} {f:Int} (h:cmS y p f=0) (hk:y.nk p=3):tkS y p (y.eq p f)=0:=by
 unfold cmS at h
 rw [Sy.eq,if_pos hk]
 by_cases h1:(y.sS p).c≠0
 ·rw [if_pos h1] at h
  cases h
 ·rw [if_neg h1] at h
  by_cases h2:fuS y p (y.nk p) (y.nq p)=true
  ·rw [if_pos h2] at h
   cases h
  ·rw [if_neg h2,if_pos hk] at h
   exact h
theorem tk_zero {y:Sy} {p:Nat} {g:Int} (h:tkS y p g=0):0<=g/\g<y.pn/\0<y.wL (g.toNat*y.pn+p):=by
 unfold tkS at h
 by_cases h1:belB g y.pn=true
 ·rw [if_pos h1] at h
  simp only [belB,decide_eq_true_eq] at h1
  refine ⟨h1.1,h1.2,?_⟩
  rcases Nat.eq_zero_or_pos (y.wL (g.toNat*y.pn+p)) with e | e
  ·rw [if_pos e] at h
   cases h
  ·exact e
 ·rw [if_neg h1] at h
  cases h
theorem cmV_step {x:SysIn} {p:Nat} {f:Int} (h:cmS x.y p f=0):cmV x p f=evV (x.y.nk p) (x.y.eq p f) (x.y.ev p f):=by
 have hc:cmC x p f=0:=h
 unfold cmV
 rw [if_pos hc]
 by_cases hk:x.nk p=3
 ·have ht:tkS x.y p (x.y.eq p f)=0:=cm_take h hk
  have e:x.y.eq p f=if x.nq p=9 then f else x.nq p:=if_pos hk
  have e2:x.y.ev p f=(x.y.wH ((x.y.eq p f).toNat*x.y.pn+p) 0).v:=if_pos hk
  have e3:x.y.nk p=3:=hk
  rw [if_pos hk,<- e,e2,e3,tkV]
  have ht':tkC x p (x.y.eq p f)=0:=ht
  rw [if_pos ht']
  rfl
 ·have e:x.y.eq p f=x.nq p:=if_neg hk
  have e2:x.y.ev p f=x.nv p:=if_neg hk
  rw [if_neg hk,e,e2]
  rfl
theorem implStep_any (x:SysIn) (p f:Int) (w:World) (hG:SysG w x) (hL:x.Len) (hN:x.Nn z) (hV:w.cell? ⟨0,0,none⟩=some (.iface 204 (.agg #[.pointer (some ⟨1,150,none⟩)]))):
  Calls Tryz.prog 12 #[x.v,.int .i64 p,.int .i64 f] w fun e w'=>∃ v,e=.returned (.tuple #[v,.int .i64 (stC x.y p f)])/\OwnSys z w' w.heap.size (stY x.y p f) v/\Below w.heap.size w w':=by
 have HG:Hid (SysG w x):=hG
 have HL:Hid x.Len:=hL
 have HS:Hid (∀ wx,Below w.heap.size w wx->Calls Tryz.prog 17 #[x.v] wx fun e w'=>e=.returned (.bool x.y.okB)/\Below wx.heap.size wx w'):=fun wx hb=>implSysOk_any x wx (HG.out.below hb) hL ((hb.cell (p:=⟨0,0,none⟩) (zJ w _ hV)).trans hV)
 have HC4:Hid (∀ wx,Below w.heap.size w wx->Calls Tryz.prog 23 #[x.v] wx fun e w'=>∃ v,e=.returned v/\OwnSys z w' wx.heap.size x.y v/\Below wx.heap.size wx w'):=fun wx hb=>copySys_any x wx (HG.out.below hb) hL hN
 have BW:Hid (Below w.heap.size w ((w.alloc (oQ4 x.pa x.pn x.pc x.sa x.sn x.sc x.wa x.wn x.wc x.ha x.hn x.hc)).alloc (zQ3))):=(zQ _ _).trans ((zQ _ _).mono (by simp))
 have NB:Hid (BoxC ((w.alloc (oQ4 x.pa x.pn x.pc x.sa x.sn x.sc x.wa x.wn x.wc x.ha x.hn x.hc)).alloc (zQ3)) w.heap.size (.slice x.pa x.pn x.pc) (.slice x.sa x.sn x.sc) (.slice x.wa x.wn x.wc) (.slice x.ha x.hn x.hc)):=(BoxC.new w _ _ _ _ _).below (zQ _ _)
 have RB:Hid (BoxC ((w.alloc (oQ4 x.pa x.pn x.pc x.sa x.sn x.sc x.wa x.wn x.wc x.ha x.hn x.hc)).alloc (zQ3)) (w.heap.size+1) (.slice none 0 0) (.slice none 0 0) (.slice none 0 0) (.slice none 0 0)/\∀ j,((w.alloc (oQ4 x.pa x.pn x.pc x.sa x.sn x.sc x.wa x.wn x.wc x.ha x.hn x.hc)).alloc (zQ3)).frozen? ⟨w.heap.size+1,j,none⟩=false):=⟨⟨zW _ _ _ 0 (by simp),zW _ _ _ 1 (by simp),zW _ _ _ 2 (by simp),zW _ _ _ 3 (by simp)⟩,fun j=>yB _ _ _ _ (by simp)⟩
 have hM:w.heap.size<=w.heap.size+1:=Nat.le_succ _
 clear hG hL hN hV
 go_enter Tryz.func12,Tryz.ntmps12
 go_wp2_with fail
 generalize (w.alloc (oQ4 x.pa x.pn x.pc x.sa x.sn x.sc x.wa x.wn x.wc x.ha x.hn x.hc)).alloc (zQ3)=W2 at *
 refine (HS.out W2 BW.out).mono ?_
 rintro e w1 ⟨rfl,q1⟩
 have B1:Hid (Below w.heap.size w w1/\BoxC w1 w.heap.size (.slice x.pa x.pn x.pc) (.slice x.sa x.sn x.sc) (.slice x.wa x.wn x.wc) (.slice x.ha x.hn x.hc)/\BoxC w1 (w.heap.size+1) (.slice none 0 0) (.slice none 0 0) (.slice none 0 0) (.slice none 0 0)/\∀ j,w1.frozen? ⟨w.heap.size+1,j,none⟩=false):=⟨BW.out.trans (q1.mono BW.out.size),NB.out.below q1,RB.out.1.below q1,fun j=>((bcell q1).2 _ j (zJ _ _ RB.out.1.1)).trans (RB.out.2 j)⟩
 clear q1 BW NB RB HS
 have l1:w.heap.size+1<w1.heap.size:=zJ _ _ B1.out.2.2.1.1
 obtain ⟨b0,b1,b2,b3⟩:=B1.out.2.1
 rcases zK x.y.okB with t | t
 case inr=>
  have HV:Hid (stC x.y p f=1/\stY x.y p f={ x.y with pn:=0,sn:=0,wn:=0,hn:=0 }):=⟨if_neg (by rw [t];simp),if_neg (by rw [t];simp)⟩
  obtain ⟨⟨r0,r1,r2,r3⟩,rf⟩:=B1.out.2.2
  rw [t]
  clear t
  go_wp2
  exact bodyPost_ret (v:=.tuple #[sysV none 0 0 none 0 0 none 0 0 none 0 0,.int .i64 1]) (by simp [results,Tryz.results12,go_sem,r0,r1,r2,r3]) rfl ⟨_,by rw [HV.out.1],by rw [HV.out.2];exact OwnSys.zero _ _ _,(((B1.out.1.setCell hM _).setCell hM _).setCell hM _).setCell hM _⟩
 have HO:Hid x.y.Ok:=Sy.ok_of t
 obtain ⟨k,q,v0,HCM⟩:∃ k q v0:Int,Hid ((∀ wx,Below w.heap.size w wx->Calls Tryz.prog 24 #[x.v,.int .i64 p,.int .i64 f] wx fun e w'=>e=.returned (.tuple #[evV k q v0,.int .i64 (stC x.y p f)])/\Below wx.heap.size wx w')/\(stC x.y p f≠0->stY x.y p f=x.y)/\(stC x.y p f=0->∃ a:Nat,p=a/\a<x.y.pn/\stY x.y p f=(x.y.evt a k q v0).way a k q v0/\(k=2->0<=q/\q<x.y.pn)/\(k=3->0<=q/\q<x.y.pn/\0<x.y.wL (q.toNat*x.y.pn+a)))):=by
  by_cases hb:belB p x.y.pn=true
  ·have hb':0<=p/\p<(x.y.pn:Int):=by simpa [belB] using hb
   obtain ⟨a,rfl⟩:∃ a:Nat,p=a:=⟨p.toNat,by omega⟩
   have ha:a<x.y.pn:=by omega
   obtain ⟨⟨h1,h4⟩,hs,hh,hw⟩:=HO.out.cn
   have hC:stC x.y (a:Int) f=cmS x.y a f:=by rw [stC,if_pos t,if_pos hb,Int.toNat_natCast]
   have hY:stY x.y (a:Int) f=x.y.step a f:=by rw [stY,if_pos t,if_pos hb,Int.toNat_natCast]
   have hcall:∀ wx,Below w.heap.size w wx->Calls Tryz.prog 24 #[x.v,.int .i64 a,.int .i64 f] wx fun e w'=>e=.returned (.tuple #[cmV x a f,.int .i64 (cmC x a f)])/\Below wx.heap.size wx w':=fun wx hbx=>comingIn_any x a f wx (HG.out.below hbx) HL.out ha h4 hs hh hw (HO.out.four ha) (HO.out.peer ha)
   by_cases h0:cmS x.y a f=0
   ·refine ⟨x.y.nk a,x.y.eq a f,x.y.ev a f,fun wx hbx=>?_,fun hne=>absurd (hC.trans h0) hne,fun _=>⟨a,rfl,ha,?_,fun hk=>?_,fun hk=>?_⟩⟩
    ·rw [hC,<- cmV_step h0]
     exact hcall wx hbx
    ·rw [hY,Sy.step,if_pos h0,Sy.way_evt]
    ·have:=HO.out.peer ha hk
     rw [Sy.eq,if_neg (by rw [hk];decide)]
     exact this
    ·exact tk_zero (cm_take h0 hk)
   ·refine ⟨0,0,0,fun wx hbx=>?_,fun _=>hY.trans (Sy.step_no h0),fun h=>absurd (hC.symm.trans h) h0⟩
    have e:cmV x a f=evV 0 0 0:=if_neg h0
    rw [hC,<- e]
    exact hcall wx hbx
  ·have hC:stC x.y p f=2:=by rw [stC,if_pos t,if_neg hb]
   refine ⟨0,0,0,fun wx _=>?_,fun _=>?_,fun h=>?_⟩
   ·rw [hC]
    exact comingIn_out x p f wx (by
     cases h:belB p x.pn with
     | false=>rfl
     | true=>exact absurd h hb)
   ·rw [stY,if_pos t,if_neg hb]
   ·rw [hC] at h
    cases h
 generalize hC:stC x.y p f=C at *
 generalize hY:stY x.y p f=Y at *
 have HCY:Hid (stC x.y p f=C/\stY x.y p f=Y):=⟨hC,hY⟩
 clear hC hY
 rw [t]
 clear t HL HG
 go_wp2_with fail
 refine (HC4.out w1 B1.out.1).mono ?_
 rintro e w3 ⟨v3,rfl,o3,q3⟩
 obtain ⟨c,vp,vs,vw,vh,up,us,uw,uh,rfl,o3⟩:=o3
 obtain ⟨pa,pc,rfl⟩:=zU o3.p.row
 obtain ⟨sa,sc,rfl⟩:=zU o3.s.row
 obtain ⟨wa,wc,rfl⟩:=zU o3.t.row
 obtain ⟨ha,hc,rfl⟩:=zU o3.h.row
 have ba:=zQ w3 (oQ4 pa x.y.pn pc sa x.y.sn sc wa x.y.wn wc ha x.y.hn hc)
 have Q4:=q3.trans (ba.mono q3.size)
 have B4:Hid (Below w1.heap.size w1 (w3.alloc (oQ4 pa x.y.pn pc sa x.y.sn sc wa x.y.wn wc ha x.y.hn hc))/\BoxC (w3.alloc (oQ4 pa x.y.pn pc sa x.y.sn sc wa x.y.wn wc ha x.y.hn hc)) w3.heap.size (.slice pa x.y.pn pc) (.slice sa x.y.sn sc) (.slice wa x.y.wn wc) (.slice ha x.y.hn hc)/\OwnS z (w3.alloc (oQ4 pa x.y.pn pc sa x.y.sn sc wa x.y.wn wc ha x.y.hn hc)) w1.heap.size (rcol c w3.heap.size 0) x.y (.slice pa x.y.pn pc) (.slice sa x.y.sn sc) (.slice wa x.y.wn wc) (.slice ha x.y.hn hc) up us uw uh/\w1.heap.size<=w3.heap.size):=⟨Q4,BoxC.new w3 _ _ _ _ _,(o3.recol 0).below ba,q3.size⟩
 go_upto_region 4 with fail
 clear o3 q3 ba b0 b1 b2 b3
 generalize hA:w3.heap.size=A at *
 clear hA
 generalize w3.alloc (oQ4 pa x.y.pn pc sa x.y.sn sc wa x.y.wn wc ha x.y.hn hc)=W4 at *
 have BW4:Hid (Below w.heap.size w W4):=B1.out.1.trans (B4.out.1.mono B1.out.1.size)
 obtain ⟨b0,b1,b2,b3⟩:=B1.out.2.1.below B4.out.1
 go_wp2_with fail
 refine (HCM.out.1 W4 BW4.out).mono ?_
 rintro e w5 ⟨rfl,q5⟩
 have bb:=zQ w5 (oQ0 k q v0)
 have Q6:=q5.trans (bb.mono q5.size)
 have lA:A<W4.heap.size:=zJ _ _ B4.out.2.1.1
 have B6:Hid (Below w1.heap.size w1 (w5.alloc (oQ0 k q v0))/\BoxC (w5.alloc (oQ0 k q v0)) A (.slice pa x.y.pn pc) (.slice sa x.y.sn sc) (.slice wa x.y.wn wc) (.slice ha x.y.hn hc)/\OwnS z (w5.alloc (oQ0 k q v0)) w1.heap.size (rcol c A 0) x.y (.slice pa x.y.pn pc) (.slice sa x.y.sn sc) (.slice wa x.y.wn wc) (.slice ha x.y.hn hc) up us uw uh/\w1.heap.size<=A/\A<(w5.alloc (oQ0 k q v0)).heap.size/\EvK (w5.alloc (oQ0 k q v0)) w5.heap.size k q v0):=⟨B4.out.1.trans (Q6.mono B4.out.1.size),B4.out.2.1.below Q6,B4.out.2.2.1.below Q6,B4.out.2.2.2,zL lA Q6.size,EvK.new w5 _ _ _ _⟩
 go_upto_region 5 with fail
 clear q5 bb Q6 lA B4 BW4 b0 b1 b2 b3
 generalize hE:w5.heap.size=E at *
 clear hE
 generalize w5.alloc (oQ0 k q v0)=W6 at *
 by_cases hc0:C=0
 ·obtain ⟨a,ea,ha',hY,hk2,hk3⟩:=HCM.out.2.2 hc0
  subst ea
  subst hc0
  have HH:Hid (Calls Tryz.prog 25 #[.agg #[.slice pa x.y.pn pc,.slice sa x.y.sn sc,.slice wa x.y.wn wc,.slice ha x.y.hn hc],.int .i64 a,evV k q v0] W6 fun e w'=>e=.returned (.tuple #[])/\Below w1.heap.size W6 w'/\(∀ b,b<W6.heap.size->rcol c A 0 b=0->w'.heap[b]? = W6.heap[b]?)/\OwnSys z w' w1.heap.size Y (.agg #[.slice pa x.y.pn pc,.slice sa x.y.sn sc,.slice wa x.y.wn wc,.slice ha x.y.hn hc])):=by
   have h:=happen_any x.y a k q v0 W6 w1.heap.size _ _ _ _ _ up us uw uh B6.out.2.2.1 B6.out.1.size HO.out ha' hk2 hk3
   rw [<- hY] at h
   exact h
  obtain ⟨a0,a1,a2,a3⟩:=B6.out.2.1
  obtain ⟨e0,e1,e2,-⟩:=B6.out.2.2.2.2.2
  clear hY hk2 hk3 HCM
  go_wp2_with fail
  refine HH.out.mono ?_
  rintro e w7 ⟨rfl,q7,kp,o7⟩
  have hAb:=kp A B6.out.2.2.2.2.1 (rcol_new (Nat.le_refl _))
  have B7:Hid (Below w1.heap.size w1 w7/\OwnSys z w7 w1.heap.size Y (.agg #[.slice pa x.y.pn pc,.slice sa x.y.sn sc,.slice wa x.y.wn wc,.slice ha x.y.hn hc])):=⟨B6.out.1.trans q7,o7⟩
  have c0:=(zH hAb).trans a0
  have c1:=(zH hAb).trans a1
  have c2:=(zH hAb).trans a2
  have c3:=(zH hAb).trans a3
  obtain ⟨r0,r1,r2,r3⟩:=B1.out.2.2.1.below B7.out.1
  have rf:∀ j,w7.frozen? ⟨w.heap.size+1,j,none⟩=false:=fun j=>((bcell B7.out.1).2 _ j l1).trans (B1.out.2.2.2 j)
  clear a0 a1 a2 a3 e0 e1 e2 hAb kp o7 q7 HH
  go_wp2
  exact bodyPost_ret (v := .tuple #[.agg #[.slice pa x.y.pn pc, .slice sa x.y.sn sc, .slice wa x.y.wn wc, .slice ha x.y.hn hc], .int .i64 0]) (by simp [results, Tryz.results12, go_sem, r0, r1, r2, r3]) rfl ⟨_, by rw [HCY.out.1], by
   rw [HCY.out.2]
   exact ((((B7.out.2.setBelow l1 0 _).setBelow l1 1 _).setBelow l1 2 _).setBelow l1 3 _).base B1.out.1.size,((((B1.out.1.trans (B7.out.1.mono B1.out.1.size)).setCell hM _).setCell hM _).setCell hM _).setCell hM _⟩
 ·have tc:(C == 0)=false:=by simpa using hc0
  have hY:=HCM.out.2.1 hc0
  have B7 : Hid (Below w1.heap.size w1 W6 ∧ OwnSys z W6 w1.heap.size Y (.agg #[.slice pa x.y.pn pc, .slice sa x.y.sn sc, .slice wa x.y.wn wc, .slice ha x.y.hn hc])) := ⟨B6.out.1, by
   rw [hY]
   exact ⟨_,_,_,_,_,up,us,uw,uh,rfl,B6.out.2.2.1⟩⟩
  obtain ⟨c0,c1,c2,c3⟩:=B6.out.2.1
  obtain ⟨r0,r1,r2,r3⟩:=B1.out.2.2.1.below B7.out.1
  have rf:∀ j,W6.frozen? ⟨w.heap.size+1,j,none⟩=false:=fun j=>((bcell B7.out.1).2 _ j l1).trans (B1.out.2.2.2 j)
  clear hY HCM hc0
  go_wp2
  exact bodyPost_ret (v := .tuple #[.agg #[.slice pa x.y.pn pc, .slice sa x.y.sn sc, .slice wa x.y.wn wc, .slice ha x.y.hn hc], .int .i64 C]) (by simp [results, Tryz.results12, go_sem, r0, r1, r2, r3]) rfl ⟨_, by rw [HCY.out.1], by
   rw [HCY.out.2]
   exact ((((B7.out.2.setBelow l1 0 _).setBelow l1 1 _).setBelow l1 2 _).setBelow l1 3 _).base B1.out.1.size,((((B1.out.1.trans (B7.out.1.mono B1.out.1.size)).setCell hM _).setCell hM _).setCell hM _).setCell hM _⟩
