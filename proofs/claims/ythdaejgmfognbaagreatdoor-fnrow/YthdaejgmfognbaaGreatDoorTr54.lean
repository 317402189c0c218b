import Derived.Test.YthdaejgmfognbaaGreatDoorTe0
import Derived.Test.YthdaejgmfognbaaGreatDoorTr53
import Derived.Test.YthdaejgmfognbaaGreatDoorTe34
import Derived.Test.YthdaejgmfognbaaGreatDoorTr43
import Derived.Test.YthdaejgmfognbaaGreatDoorTe33
namespace Go.Proofs.YthdaejgmfognbaaGreatDoor
set_option maxRecDepth 100000
set_option maxHeartbeats 4000000
open Go.ChangeShapes Go.WideShapes Go.ChangeAt Go.RowKit Go.Deep Go.Sort
def dL (d:Nat->Nat) (n:Nat):List Int:=(List.range n).map fun i=>((d i:Nat):Int)
theorem dL_len (d:Nat->Nat) (n:Nat):(dL d n).length=n:=by simp [dL]
theorem dL_at (d:Nat->Nat) {n i:Nat} (h:i<n):zi (dL d n) i=(d i:Nat):=by
 unfold zi dL
 simp [h]
theorem dL_zero (n:Nat):dL (fun _=>0) n=List.replicate n 0:=by
 refine List.ext_getElem (by simp [dL]) fun i h1 h2=>?_
 simp [dL]
theorem dL_up (d:Nat->Nat) {n p:Nat} (_:p<n):(dL d n).set p ((d p:Int)+1)=dL (up d p) n:=by
 refine List.ext_getElem (by simp [dL]) fun i h1 h2=>?_
 simp only [dL,List.getElem_set,List.getElem_map,List.getElem_range]
 by_cases e:p=i
 ·subst e
  rw [if_pos rfl,up_same]
  omega
 ·rw [if_neg e,up_other (fun h=>e h.symm)]
theorem Sl.cell0 {w:World} {b:Nat} {xs:List Int} (h:Sl w (some ⟨b,0,none⟩) xs) {k:Nat} (hk:k<xs.length):w.cell? ⟨b,k,none⟩=some (.int .i64 (zi xs k)):=by
 obtain ⟨b',o',e,-,c⟩:=h.at hk
 obtain ⟨rfl,rfl⟩:b=b'/\0=o':=by simpa using e
 rw [Nat.zero_add] at c
 exact c
theorem l13Can_any (x:SysIn) (g dc p:Nat) (d:Nat->Nat) (w:World) (hG:SysG w x) (hcap:∀ i,i<x.hn->x.hL i<=x.hC i) (hO:x.y.Ok) (hS:Sl w (some ⟨g,0,none⟩) (dL d x.pn)) (hd:∀ i,d i<=x.y.hL i) (hp:p<x.pn):
  Calls Tryz.prog 56 #[x.v,.slice (some ⟨g,0,none⟩) x.pn dc,.int .i64 p] w fun e w'=>e=.returned (.bool (qB (x.y.hs.Can d p)))/\Below w.heap.size w w':=by
 have h4:(x.pn:Int)<=4:=by have:=hO.cn.1.2;have h9:x.y.pn=x.pn:=rfl;omega
 have hp':(p:Int)<(x.pn:Int):=by omega
 have hhn:x.hn=x.pn:=hO.cn.2.2.1
 have HG:Hid (SysG w x):=hG
 have HSn:Hid (d p<x.hL p->∀ wx,Below w.heap.size w wx->Calls Tryz.prog 70 #[x.v,.int .i64 p,.int .i64 (d p:Nat)] wx fun e w'=>e=.returned (.int .i64 (sndN x.y p (d p)))/\Below wx.heap.size wx w'):=fun hi wx hb=>l7Sender_any x p (d p) wx (hG.below hb) hcap hO hp hi
 have HC:Hid (d p<x.hL p->(x.y.hs.Can d p ↔ ∀ s,sdr x.y p (d p)=some s->s.2<d s.1)):=fun hi=>can_sdr_iff hO hp hi
 have HAt:Hid (∀ s,d p<x.hL p->sdr x.y p (d p)=some s->(x.y.hH p (d p)).q=(s.1:Int)/\s.1<x.pn/\sndN x.y p (d p)=(s.2:Int)):=fun s hi hs=>by
  have h9:=sdr_at hO (show p<x.y.pn from hp) (show d p<x.y.hL p from hi) hs
  exact ⟨h9.2.1,h9.2.2.1,h9.2.2.2.2.1⟩
 have HNo:Hid (sdr x.y p (d p)=none->sndN x.y p (d p) = -1):=fun hs=>if_neg (sdr_none hs)
 have hl200:(x.hL p:Int)<=200:=by have:=hO.hl200 (p:=p) hp;have h9:x.y.hL p=x.hL p:=rfl;omega
 have hdp:(d p:Int)<=(x.hL p:Int):=by have:=hd p;have h9:x.y.hL p=x.hL p:=rfl;omega
 obtain ⟨bh,oh,eh,ch⟩:=hG.h.at (k:=p) (by rw [hhn];exact hp)
 have HB:Hid (Below w.heap.size w (w.alloc (oQ4 x.pa x.pn x.pc x.sa x.sn x.sc x.wa x.wn x.wc x.ha x.hn x.hc))):=zT _ _
 have HX:Hid (BoxC (w.alloc (oQ4 x.pa x.pn x.pc x.sa x.sn x.sc x.wa x.wn x.wc x.ha x.hn x.hc)) w.heap.size (.slice x.pa x.pn x.pc) (.slice x.sa x.sn x.sc) (.slice x.wa x.wn x.wc) (.slice x.ha x.hn x.hc)):=BoxC.new w _ _ _ _ _
 have HS:Hid (∀ wx,Below w.heap.size w wx->∀ i,i<x.pn->wx.cell? ⟨g,i,none⟩=some (.int .i64 (d i:Nat))):=fun wx hb i hi=>by
  have h9:=Sl.cell0 (hS.below hb) (k:=i) (by rw [dL_len];exact hi)
  rw [dL_at d hi] at h9
  exact h9
 have HCh:Hid (∀ wx,Below w.heap.size w wx->wx.cell? ⟨bh,oh+p,none⟩=some (.slice (x.hA p) (x.hL p) (x.hC p))):=fun wx hb=>(hb.cell (zJ w _ ch)).trans ch
 have hhn':(p:Int)<(x.hn:Int):=by rw [hhn];exact hp'
 have HEv:Hid (d p<x.hL p->∃ be oe,x.hA p=some ⟨be,oe,none⟩/\∀ wx,Below w.heap.size w wx->wx.cell? ⟨be,oe+d p*3+1,none⟩=some (.int .i64 (x.y.hH p (d p)).q)):=fun hi=>by
  obtain ⟨be,oe,ee,ze,-,c1,-⟩:=(hG.hi p (by rw [hhn];exact hp)).at hi
  exact ⟨be,oe,ee,fun wx hb=>(hb.cell ze).trans c1⟩
 have HEh:Hid (x.ha=some ⟨bh,oh,none⟩):=eh
 clear hG hcap hO hS hd ch hhn eh
 go_enter Tryz.func56,Tryz.ntmps56
 go_upto_region 1 with fail
 generalize w.alloc (oQ4 x.pa x.pn x.pc x.sa x.sn x.sc x.wa x.wn x.wc x.ha x.hn x.hc)=W1 at *
 obtain ⟨-,-,-,k3⟩:=HX.out
 rw [HEh.out] at k3
 have sd:=HS.out W1 HB.out p hp
 have ch:=HCh.out W1 HB.out
 have k3':=cell_regrown k3
 have sd':=cell_regrown sd
 have ch':=cell_regrown ch
 by_cases hfull:d p<x.hL p
 case neg=>
  have hge:(x.hL p:Int)<=(d p:Int):=by omega
  have HR:Hid (qB (x.y.hs.Can d p)=false):=qB_false fun h=>hfull h.1
  refine wp_region_quiet_below (by kernel_rfl) (by kernel_rfl) ?_
  repeat (quiet_step (fail))
  refine wpQuiet_nil ?_
  intro _ hw'
  obtain ⟨⟨dq,osq⟩,hw''⟩:=hw'
  subst hw''
  have B2:Hid (Below w.heap.size w (grow (redrawn W1 dq) osq)):=HB.out.trans ((below_regrown W1 dq osq).mono HB.out.size)
  generalize grow (redrawn W1 dq) osq=W2 at *
  clear k3 sd ch k3' sd' ch' HC HAt HNo HSn HEv
  go_wp2
  go_ret
  exact ⟨by rw [HR.out];rfl,B2.out⟩
 have hlt':¬ (x.hL p:Int)<=(d p:Int):=by omega
 obtain ⟨be,oe,ee,hev⟩:=HEv.out hfull
 have HV:Hid (∀ wx,Below w.heap.size w wx->wx.cell? ⟨be,oe+d p*3+1,none⟩=some (.int .i64 (x.y.hH p (d p)).q)):=hev
 have HEe:Hid (x.hA p=some ⟨be,oe,none⟩):=ee
 have HLt:Hid (d p<x.hL p):=hfull
 have hdl:(d p:Int)<(x.hL p:Int):=by omega
 clear hev ee hfull HEv
 refine wp_region_quiet_below (by kernel_rfl) (by kernel_rfl) ?_
 repeat (quiet_step (fail))
 refine wpQuiet_nil ?_
 intro _ hw'
 obtain ⟨⟨dq,osq⟩,hw''⟩:=hw'
 subst hw''
 have B2:Hid (Below w.heap.size w (grow (redrawn W1 dq) osq)/\BoxC (grow (redrawn W1 dq) osq) w.heap.size (.slice x.pa x.pn x.pc) (.slice x.sa x.sn x.sc) (.slice x.wa x.wn x.wc) (.slice x.ha x.hn x.hc)):=⟨HB.out.trans ((below_regrown W1 dq osq).mono HB.out.size),HX.out.below (below_regrown W1 dq osq)⟩
 generalize grow (redrawn W1 dq) osq=W2 at *
 clear k3 sd ch k3' sd' ch' HB HX W1
 obtain ⟨k0,k1,k2,k3⟩:=B2.out.2
 have sd:=HS.out W2 B2.out.1 p hp
 have k0':=cell_regrown k0
 have k1':=cell_regrown k1
 have k2':=cell_regrown k2
 have k3':=cell_regrown k3
 have sd':=cell_regrown sd
 have HSn2:Hid (∀ dd os,Calls Tryz.prog 70 #[x.v,.int .i64 p,.int .i64 (d p:Nat)] (grow (redrawn W2 dd) os) fun e w'=>e=.returned (.int .i64 (sndN x.y p (d p)))/\Below (grow (redrawn W2 dd) os).heap.size (grow (redrawn W2 dd) os) w'):=fun dd os=>HSn.out HLt.out _ (B2.out.1.trans ((below_regrown W2 dd os).mono B2.out.1.size))
 go_upto_region 3 with fail
 refine wp_region_quiet_below (by kernel_rfl) (by kernel_rfl) ?_
 repeat (quiet_step (first|(go_at_call 70;exact Calls.regrown_of (HSn2.out _ _))))
 refine wpQuiet_nil ?_
 intro _ hw'
 obtain ⟨⟨dq,osq⟩,hw''⟩:=hw'
 subst hw''
 have B3:Hid (Below w.heap.size w (grow (redrawn W2 dq) osq)/\BoxC (grow (redrawn W2 dq) osq) w.heap.size (.slice x.pa x.pn x.pc) (.slice x.sa x.sn x.sc) (.slice x.wa x.wn x.wc) (.slice x.ha x.hn x.hc)):=⟨B2.out.1.trans ((below_regrown W2 dq osq).mono B2.out.1.size),B2.out.2.below (below_regrown W2 dq osq)⟩
 generalize grow (redrawn W2 dq) osq=W3 at *
 clear k0 k1 k2 k3 sd k0' k1' k2' k3' sd' HSn2 B2 W2 HSn
 go_upto_region 4 with fail
 obtain ⟨-,-,-,k3⟩:=B3.out.2
 rw [HEh.out] at k3
 have sd:=HS.out W3 B3.out.1 p hp
 have ch:=HCh.out W3 B3.out.1
 rw [HEe.out] at ch
 have ev:=HV.out W3 B3.out.1
 have k3':=cell_regrown k3
 have sd':=cell_regrown sd
 have ch':=cell_regrown ch
 have ev':=cell_regrown ev
 cases hsd:sdr x.y p (d p) with
 | none=>
  have HR:Hid (qB (x.y.hs.Can d p)=true):=qB_true ((HC.out HLt.out).2 fun s hs=>by rw [hsd] at hs;cases hs)
  rw [HNo.out hsd]
  clear HC HAt HNo hsd ev ev' HV
  refine wp_region_quiet_below (by kernel_rfl) (by kernel_rfl) ?_
  repeat (first | go_big_quiet_skip | quiet_step (fail))
  refine wpQuiet_nil ?_
  intro _ hw'
  obtain ⟨⟨dq,osq⟩,hw''⟩:=hw'
  subst hw''
  have B4:Hid (Below w.heap.size w (grow (redrawn W3 dq) osq)):=B3.out.1.trans ((below_regrown W3 dq osq).mono B3.out.1.size)
  generalize grow (redrawn W3 dq) osq=W4 at *
  clear k3 sd ch k3' sd' ch'
  go_wp2
  go_ret
  exact ⟨by rw [HR.out];rfl,B4.out⟩
 | some s=>
  obtain ⟨e1,e2,e3⟩:=HAt.out s HLt.out hsd
  have HR:Hid (qB (x.y.hs.Can d p)=decide (s.2<d s.1)):=by
   show _=_
   by_cases h9:s.2<d s.1
   ·rw [qB_true ((HC.out HLt.out).2 fun t ht=>by rw [hsd] at ht;cases ht;exact h9),decide_eq_true (by omega)]
   ·rw [qB_false fun h=>h9 ((HC.out HLt.out).1 h s hsd),decide_eq_false (by omega)]
  rw [e1] at ev ev'
  rw [e3]
  have ds:=HS.out W3 B3.out.1 s.1 e2
  have ds':=cell_regrown ds
  obtain ⟨s1,s2⟩:=s
  have hs1:(s1:Int)<(x.pn:Int):=by have e2:s1<x.pn:=e2;omega
  have hs20:¬ (s2:Int)<0:=by omega
  clear HC HAt HNo hsd HV e1 e2 e3
  simp only at ev ev' ds ds' HR ⊢
  refine wp_region_quiet_below (by kernel_rfl) (by kernel_rfl) ?_
  repeat (first | go_big_quiet_skip | quiet_step (fail))
  refine wpQuiet_nil ?_
  intro _ hw'
  obtain ⟨⟨dq,osq⟩,hw''⟩:=hw'
  subst hw''
  have B4:Hid (Below w.heap.size w (grow (redrawn W3 dq) osq)):=B3.out.1.trans ((below_regrown W3 dq osq).mono B3.out.1.size)
  generalize grow (redrawn W3 dq) osq=W4 at *
  clear k3 sd ch k3' sd' ch' ev ev' ds ds'
  go_wp2
  go_ret
  exact ⟨by rw [HR.out];rfl,B4.out⟩
structure Rk (w:World) (x:SysIn) (g:Nat) (d:Nat->Nat) (wr:World):Prop where
 be:Below w.heap.size w wr
 bs:BoxC wr w.heap.size (.slice x.pa x.pn x.pc) (.slice x.sa x.sn x.sc) (.slice x.wa x.wn x.wc) (.slice x.ha x.hn x.hc)
 ow:OwnI wr (w.heap.size+1) (.slice (some ⟨g,0,none⟩) x.pn x.pn) (dL d x.pn)
theorem Rk.lt {w:World} {x:SysIn} {g:Nat} {d:Nat->Nat} {wr:World} (h:Rk w x g d wr):w.heap.size+1<=g/\g<wr.heap.size:=h.ow.lt g rfl
theorem Rk.below {w:World} {x:SysIn} {g:Nat} {d:Nat->Nat} {wr w':World} (h:Rk w x g d wr) (hb:Below wr.heap.size wr w'):Rk w x g d w':=⟨h.be.trans (hb.mono h.be.size),h.bs.below hb,h.ow.below hb⟩
theorem Rk.cell {w:World} {x:SysIn} {g:Nat} {d:Nat->Nat} {wr:World} (h:Rk w x g d wr) {p:Nat} (hp:p<x.pn):wr.cell? ⟨g,p,none⟩=some (.int .i64 (d p:Nat))/\wr.frozen? ⟨g,p,none⟩=false:=by
 have ho:=h.ow
 have hc:=Sl.cell0 ho.slOf (k:=p) (by rw [dL_len];exact hp)
 rw [dL_at d hp] at hc
 have ho':OwnI wr (w.heap.size+1) (.slice (some ⟨g,0,none⟩) (dL d x.pn).length x.pn) (dL d x.pn):=by rw [dL_len];exact ho
 exact ⟨hc,ho'.frozen p⟩
theorem Rk.put {w:World} {x:SysIn} {g:Nat} {d:Nat->Nat} {wr:World} (h:Rk w x g d wr) {p:Nat} (hp:p<x.pn):Rk w x g (up d p) (wr.setCell ⟨g,p,none⟩ (.int .i64 ((d p:Int)+1))):=by
 have hg:=h.lt
 obtain ⟨h0,h1,h2,h3⟩:=h.bs
 have hc:∀ i,(wr.setCell ⟨g,p,none⟩ (.int .i64 ((d p:Int)+1))).cell? ⟨w.heap.size,i,none⟩=wr.cell? ⟨w.heap.size,i,none⟩:=fun i=>World.cell?_setCell_other _ _ _ _ (by intro e;injection e with e;omega)
 refine ⟨h.be.setCell (by simp;omega) _,⟨(hc _).trans h0,(hc _).trans h1,(hc _).trans h2,(hc _).trans h3⟩,?_⟩
 have h9:=(h.ow.set (dL_len _ _).symm p ((d p:Int)+1)).1
 rw [dL_up d hp] at h9
 exact h9
