import Derived.Test.YtchhijiibjijhaaGreatDoorXf42
namespace Go.Proofs.YtchhijiibjijhaaGreatDoor
set_option maxRecDepth 100000
set_option maxHeartbeats 8000000
open Go.ChangeShapes Go.WideShapes Go.ChangeAt Go.RowKit Go.Deep Go.Sort Go.Maps
def dL (d:Nat->Nat) (n:Nat):List Int:=(List.range n).map fun i=>((d i:Nat):Int)
theorem qp4 (d:Nat->Nat) (n:Nat):(dL d n).length=n:=by simp [dL]
theorem qxz (d:Nat->Nat) {n i:Nat} (h:i<n):zi (dL d n) i=(d i:Nat):=by
 unfold zi dL
 simp [h]
theorem qw5 (n:Nat):dL (fun _=>0) n=List.replicate n 0:=by
 refine List.ext_getElem (by simp [dL]) fun i h1 h2=>?_
 simp [dL]
theorem qyu (d:Nat->Nat) {n p:Nat} (_:p<n):(dL d n).set p ((d p:Int)+1)=dL (up d p) n:=by
 refine List.ext_getElem (by simp [dL]) fun i h1 h2=>?_
 simp only [dL,List.getElem_set,List.getElem_map,List.getElem_range]
 by_cases e:p=i
 ·subst e
  rw [if_pos rfl,qcy]
  omega
 ·rw [if_neg e,up_other (fun h=>e h.symm)]
theorem Sl.cell0 {w:World} {b:Nat} {xs:List Int} (h:Sl w (some ⟨b,0,none⟩) xs) {k:Nat} (hk:k<xs.length):w.cell? ⟨b,k,none⟩=some (.int .i64 (zi xs k)):=by
 obtain ⟨b',o',e,-,c⟩:=h.at hk
 obtain ⟨rfl,rfl⟩:b=b'/\0=o':=by simpa using e
 rw [Nat.zero_add] at c
 exact c
theorem qru (x:SysIn) (g dc p:Nat) (d:Nat->Nat) (w:World) (hG:SysG w x) (hcap:∀ i,i<x.hn->x.hL i<=x.hC i) (hO:x.y.Ok) (hS:Sl w (some ⟨g,0,none⟩) (dL d x.pn)) (hd:∀ i,d i<=x.y.hL i) (hp:p<x.pn):
  Calls Tryz.prog 88 #[x.v,.slice (some ⟨g,0,none⟩) x.pn dc,.int .i64 p] w fun e w'=>e=.returned (.bool (qB (x.y.hs.Can d p)))/\Below w.heap.size w w':=by
 have h4:(x.pn:Int)<=4:=by have:=hO.cn.1.2;have h9:x.y.pn=x.pn:=rfl;omega
 have hp':(p:Int)<(x.pn:Int):=by omega
 have hhn:x.hn=x.pn:=hO.cn.2.2.1
 have HG:Hid (SysG w x):=hG
 have HSn:Hid (d p<x.hL p->∀ wx,Below w.heap.size w wx->Calls Tryz.prog 150 #[x.v,.int .i64 p,.int .i64 (d p:Nat)] wx fun e w'=>e=.returned (.int .i64 (sndN x.y p (d p)))/\Below wx.heap.size wx w'):=fun hi wx hb=>qmn x p (d p) wx (hG.below hb) hcap hO hp hi
 have HC:Hid (d p<x.hL p->(x.y.hs.Can d p ↔ ∀ s,sdr x.y p (d p)=some s->s.2<d s.1)):=fun hi=>qog hO hp hi
 have HAt:Hid (∀ s,d p<x.hL p->sdr x.y p (d p)=some s->(x.y.hH p (d p)).q=(s.1:Int)/\s.1<x.pn/\sndN x.y p (d p)=(s.2:Int)):=fun s hi hs=>by
  have h9:=que hO (show p<x.y.pn from hp) (show d p<x.y.hL p from hi) hs
  exact ⟨h9.2.1,h9.2.2.1,h9.2.2.2.2.1⟩
 have HNo:Hid (sdr x.y p (d p)=none->sndN x.y p (d p) = -1):=fun hs=>if_neg (qqr hs)
 have hl200:(x.hL p:Int)<=200:=by have:=hO.hl200 (p:=p) hp;have h9:x.y.hL p=x.hL p:=rfl;omega
 have hdp:(d p:Int)<=(x.hL p:Int):=by have:=hd p;have h9:x.y.hL p=x.hL p:=rfl;omega
 obtain ⟨bh,oh,eh,ch⟩:=hG.h.at (k:=p) (by rw [hhn];exact hp)
 have HB:Hid (Below w.heap.size w (w.alloc (oQ4 x.pa x.pn x.pc x.sa x.sn x.sc x.wa x.wn x.wc x.ha x.hn x.hc))):=zT _ _
 have HX:Hid (BoxC (w.alloc (oQ4 x.pa x.pn x.pc x.sa x.sn x.sc x.wa x.wn x.wc x.ha x.hn x.hc)) w.heap.size (.slice x.pa x.pn x.pc) (.slice x.sa x.sn x.sc) (.slice x.wa x.wn x.wc) (.slice x.ha x.hn x.hc)):=BoxC.new w _ _ _ _ _
 have HS:Hid (∀ wx,Below w.heap.size w wx->∀ i,i<x.pn->wx.cell? ⟨g,i,none⟩=some (.int .i64 (d i:Nat))):=fun wx hb i hi=>by
  have h9:=Sl.cell0 (hS.below hb) (k:=i) (by rw [qp4];exact hi)
  rw [qxz d hi] at h9
  exact h9
 have HCh:Hid (∀ wx,Below w.heap.size w wx->wx.cell? ⟨bh,oh+p,none⟩=some (.slice (x.hA p) (x.hL p) (x.hC p))):=fun wx hb=>(hb.cell (zJ w _ ch)).trans ch
 have hhn':(p:Int)<(x.hn:Int):=by rw [hhn];exact hp'
 have HEv:Hid (d p<x.hL p->∃ be oe,x.hA p=some ⟨be,oe,none⟩/\∀ wx,Below w.heap.size w wx->wx.cell? ⟨be,oe+d p*3+1,none⟩=some (.int .i64 (x.y.hH p (d p)).q)):=fun hi=>by
  obtain ⟨be,oe,ee,ze,-,c1,-⟩:=(hG.hi p (by rw [hhn];exact hp)).at hi
  exact ⟨be,oe,ee,fun wx hb=>(hb.cell ze).trans c1⟩
 have HEh:Hid (x.ha=some ⟨bh,oh,none⟩):=eh
 clear hG hcap hO hS hd ch hhn eh
 go_enter Tryz.func88,Tryz.ntmps88
 go_upto_region 1 with fail
 generalize w.alloc (oQ4 x.pa x.pn x.pc x.sa x.sn x.sc x.wa x.wn x.wc x.ha x.hn x.hc)=W1 at *
 obtain ⟨-,-,-,k3⟩:=HX.out
 rw [HEh.out] at k3
 have sd:=HS.out W1 HB.out p hp
 have ch:=HCh.out W1 HB.out
 have k3':=cell_regrown k3
 have sd':=cell_regrown sd
 have ch':=cell_regrown ch
 by_cases hfull:d p<x.hL p
 case neg=>
  have hge:(x.hL p:Int)<=(d p:Int):=by omega
  have HR:Hid (qB (x.y.hs.Can d p)=false):=qap fun h=>hfull h.1
  refine wp_region_quiet_below (by kernel_rfl) (by kernel_rfl) ?_
  repeat (quiet_step (fail))
  refine wpQuiet_nil ?_
  intro _ hw'
  obtain ⟨⟨dq,osq⟩,hw''⟩:=hw'
  subst hw''
  have B2:Hid (Below w.heap.size w (grow (redrawn W1 dq) osq)):=HB.out.trans ((below_regrown W1 dq osq).mono HB.out.size)
  generalize grow (redrawn W1 dq) osq=W2 at *
  clear k3 sd ch k3' sd' ch' HC HAt HNo HSn HEv
  go_wp2
  go_ret
  exact ⟨by rw [HR.out];rfl,B2.out⟩
 have hlt':¬ (x.hL p:Int)<=(d p:Int):=by omega
 obtain ⟨be,oe,ee,hev⟩:=HEv.out hfull
 have HV:Hid (∀ wx,Below w.heap.size w wx->wx.cell? ⟨be,oe+d p*3+1,none⟩=some (.int .i64 (x.y.hH p (d p)).q)):=hev
 have HEe:Hid (x.hA p=some ⟨be,oe,none⟩):=ee
 have HLt:Hid (d p<x.hL p):=hfull
 have hdl:(d p:Int)<(x.hL p:Int):=by omega
 clear hev ee hfull HEv
 refine wp_region_quiet_below (by kernel_rfl) (by kernel_rfl) ?_
 repeat (quiet_step (fail))
 refine wpQuiet_nil ?_
 intro _ hw'
 obtain ⟨⟨dq,osq⟩,hw''⟩:=hw'
 subst hw''
 have B2:Hid (Below w.heap.size w (grow (redrawn W1 dq) osq)/\BoxC (grow (redrawn W1 dq) osq) w.heap.size (.slice x.pa x.pn x.pc) (.slice x.sa x.sn x.sc) (.slice x.wa x.wn x.wc) (.slice x.ha x.hn x.hc)):=⟨HB.out.trans ((below_regrown W1 dq osq).mono HB.out.size),HX.out.below (below_regrown W1 dq osq)⟩
 generalize grow (redrawn W1 dq) osq=W2 at *
 clear k3 sd ch k3' sd' ch' HB HX W1
 obtain ⟨k0,k1,k2,k3⟩:=B2.out.2
 have sd:=HS.out W2 B2.out.1 p hp
 have k0':=cell_regrown k0
 have k1':=cell_regrown k1
 have k2':=cell_regrown k2
 have k3':=cell_regrown k3
 have sd':=cell_regrown sd
 have HSn2:Hid (∀ dd os,Calls Tryz.prog 150 #[x.v,.int .i64 p,.int .i64 (d p:Nat)] (grow (redrawn W2 dd) os) fun e w'=>e=.returned (.int .i64 (sndN x.y p (d p)))/\Below (grow (redrawn W2 dd) os).heap.size (grow (redrawn W2 dd) os) w'):=fun dd os=>HSn.out HLt.out _ (B2.out.1.trans ((below_regrown W2 dd os).mono B2.out.1.size))
 go_upto_region 3 with fail
 refine wp_region_quiet_below (by kernel_rfl) (by kernel_rfl) ?_
 repeat (quiet_step (first|(go_at_call 150;exact Calls.regrown_of (HSn2.out _ _))))
 refine wpQuiet_nil ?_
 intro _ hw'
 obtain ⟨⟨dq,osq⟩,hw''⟩:=hw'
 subst hw''
 have B3:Hid (Below w.heap.size w (grow (redrawn W2 dq) osq)/\BoxC (grow (redrawn W2 dq) osq) w.heap.size (.slice x.pa x.pn x.pc) (.slice x.sa x.sn x.sc) (.slice x.wa x.wn x.wc) (.slice x.ha x.hn x.hc)):=⟨B2.out.1.trans ((below_regrown W2 dq osq).mono B2.out.1.size),B2.out.2.below (below_regrown W2 dq osq)⟩
 generalize grow (redrawn W2 dq) osq=W3 at *
 clear k0 k1 k2 k3 sd k0' k1' k2' k3' sd' HSn2 B2 W2 HSn
 go_upto_region 4 with fail
 obtain ⟨-,-,-,k3⟩:=B3.out.2
 rw [HEh.out] at k3
 have sd:=HS.out W3 B3.out.1 p hp
 have ch:=HCh.out W3 B3.out.1
 rw [HEe.out] at ch
 have ev:=HV.out W3 B3.out.1
 have k3':=cell_regrown k3
 have sd':=cell_regrown sd
 have ch':=cell_regrown ch
 have ev':=cell_regrown ev
 cases hsd:sdr x.y p (d p) with
 | none=>
  have HR:Hid (qB (x.y.hs.Can d p)=true):=qa3 ((HC.out HLt.out).2 fun s hs=>by rw [hsd] at hs;cases hs)
  rw [HNo.out hsd]
  clear HC HAt HNo hsd ev ev' HV
  refine wp_region_quiet_below (by kernel_rfl) (by kernel_rfl) ?_
  repeat (first | go_big_quiet_skip | quiet_step (fail))
  refine wpQuiet_nil ?_
  intro _ hw'
  obtain ⟨⟨dq,osq⟩,hw''⟩:=hw'
  subst hw''
  have B4:Hid (Below w.heap.size w (grow (redrawn W3 dq) osq)):=B3.out.1.trans ((below_regrown W3 dq osq).mono B3.out.1.size)
  generalize grow (redrawn W3 dq) osq=W4 at *
  clear k3 sd ch k3' sd' ch'
  go_wp2
  go_ret
  exact ⟨by rw [HR.out];rfl,B4.out⟩
 | some s=>
  obtain ⟨e1,e2,e3⟩:=HAt.out s HLt.out hsd
  have HR:Hid (qB (x.y.hs.Can d p)=decide (s.2<d s.1)):=by
   show _=_
   by_cases h9:s.2<d s.1
   ·rw [qa3 ((HC.out HLt.out).2 fun t ht=>by rw [hsd] at ht;cases ht;exact h9),decide_eq_true (by omega)]
   ·rw [qap fun h=>h9 ((HC.out HLt.out).1 h s hsd),decide_eq_false (by omega)]
  rw [e1] at ev ev'
  rw [e3]
  have ds:=HS.out W3 B3.out.1 s.1 e2
  have ds':=cell_regrown ds
  obtain ⟨s1,s2⟩:=s
  have hs1:(s1:Int)<(x.pn:Int):=by have e2:s1<x.pn:=e2;omega
  have hs20:¬ (s2:Int)<0:=by omega
  clear HC HAt HNo hsd HV e1 e2 e3
  simp only at ev ev' ds ds' HR ⊢
  refine wp_region_quiet_below (by kernel_rfl) (by kernel_rfl) ?_
  repeat (first | go_big_quiet_skip | quiet_step (fail))
  refine wpQuiet_nil ?_
  intro _ hw'
  obtain ⟨⟨dq,osq⟩,hw''⟩:=hw'
  subst hw''
  have B4:Hid (Below w.heap.size w (grow (redrawn W3 dq) osq)):=B3.out.1.trans ((below_regrown W3 dq osq).mono B3.out.1.size)
  generalize grow (redrawn W3 dq) osq=W4 at *
  clear k3 sd ch k3' sd' ch' ev ev' ds ds'
  go_wp2
  go_ret
  exact ⟨by rw [HR.out];rfl,B4.out⟩
structure Rk (w:World) (x:SysIn) (g:Nat) (d:Nat->Nat) (wr:World):Prop where
 be:Below w.heap.size w wr
 bs:BoxC wr w.heap.size (.slice x.pa x.pn x.pc) (.slice x.sa x.sn x.sc) (.slice x.wa x.wn x.wc) (.slice x.ha x.hn x.hc)
 ow:OwnI wr (w.heap.size+1) (.slice (some ⟨g,0,none⟩) x.pn x.pn) (dL d x.pn)
theorem Rk.lt {w:World} {x:SysIn} {g:Nat} {d:Nat->Nat} {wr:World} (h:Rk w x g d wr):w.heap.size+1<=g/\g<wr.heap.size:=h.ow.lt g rfl
theorem Rk.below {w:World} {x:SysIn} {g:Nat} {d:Nat->Nat} {wr w':World} (h:Rk w x g d wr) (hb:Below wr.heap.size wr w'):Rk w x g d w':=⟨h.be.trans (hb.mono h.be.size),h.bs.below hb,h.ow.below hb⟩
theorem Rk.cell {w:World} {x:SysIn} {g:Nat} {d:Nat->Nat} {wr:World} (h:Rk w x g d wr) {p:Nat} (hp:p<x.pn):wr.cell? ⟨g,p,none⟩=some (.int .i64 (d p:Nat))/\wr.frozen? ⟨g,p,none⟩=false:=by
 have ho:=h.ow
 have hc:=Sl.cell0 ho.slOf (k:=p) (by rw [qp4];exact hp)
 rw [qxz d hp] at hc
 have ho':OwnI wr (w.heap.size+1) (.slice (some ⟨g,0,none⟩) (dL d x.pn).length x.pn) (dL d x.pn):=by rw [qp4];exact ho
 exact ⟨hc,ho'.frozen p⟩
theorem Rk.put {w:World} {x:SysIn} {g:Nat} {d:Nat->Nat} {wr:World} (h:Rk w x g d wr) {p:Nat} (hp:p<x.pn):Rk w x g (up d p) (wr.setCell ⟨g,p,none⟩ (.int .i64 ((d p:Int)+1))):=by
 have hg:=h.lt
 obtain ⟨h0,h1,h2,h3⟩:=h.bs
 have hc:∀ i,(wr.setCell ⟨g,p,none⟩ (.int .i64 ((d p:Int)+1))).cell? ⟨w.heap.size,i,none⟩=wr.cell? ⟨w.heap.size,i,none⟩:=fun i=>World.cell?_setCell_other _ _ _ _ (by intro e;injection e with e;omega)
 refine ⟨h.be.setCell (by simp;omega) _,⟨(hc _).trans h0,(hc _).trans h1,(hc _).trans h2,(hc _).trans h3⟩,?_⟩
 have h9:=(h.ow.set (qp4 _ _).symm p ((d p:Int)+1)).1
 rw [qyu d hp] at h9
 exact h9
theorem qk1 (x:SysIn) (la:Option Addr) (n lc:Nat) (h:Nat->Wo2) (w:World) (hG:SysG w x) (hL:x.Len) (hcap:∀ i,i<x.hn->x.hL i<=x.hC i) (hW:WoL w la n h) (hn:n<=1048576):
  Calls Tryz.prog 41 #[x.v,.slice la n lc] w fun e w'=>e=.returned (.bool (rwB x.y h n))/\Below w.heap.size w w':=by
 have HSo:Hid (∀ wx,Below w.heap.size w wx->Calls Tryz.prog 70 #[x.v] wx fun e w'=>e=.returned (.bool x.y.okB)/\Below wx.heap.size wx w'):=fun wx hb=>qft x wx (hG.below hb) hL hcap
 have HCn:Hid (x.y.Ok->∀ g p d wr,Rk w x g d wr->(∀ i,d i<=x.y.hL i)->p<x.pn->∀ wx,Below wr.heap.size wr wx->Calls Tryz.prog 88 #[x.v,.slice (some ⟨g,0,none⟩) x.pn x.pn,.int .i64 (p:Nat)] wx fun e w'=>e=.returned (.bool (qB (x.y.hs.Can d p)))/\Below wx.heap.size wx w'):=fun hO g p d wr hr hd hp wx hb=>qru x g x.pn p d wx (hG.below (hr.below hb).be) hcap hO (hr.below hb).ow.slOf hd hp
 have HW:Hid (∀ wx,Below w.heap.size w wx->WoL wx la n h):=fun wx hb=>hW.below hb
 have HHs:Hid (x.y.Ok->∃ bh oh,x.ha=some ⟨bh,oh,none⟩/\∀ wx,Below w.heap.size w wx->∀ j,j<x.pn->wx.cell? ⟨bh,oh+j,none⟩=some (.slice (x.hA j) (x.hL j) (x.hC j))):=fun hO=>by
  have h1:1<=x.pn:=hO.cn.1.1
  have hhn:x.hn=x.pn:=hO.cn.2.2.1
  rcases hG.h with h9 | ⟨b,off,e,hb,hc⟩
  ·omega
  ·exact ⟨b,off,e,fun wx hbl j hj=>(hbl.cell hb).trans (hc j (by omega))⟩
 have HR:Hid (rwB x.y h n=(x.y.okB && qB (x.y.hs.RwOk h n))):=rfl
 have hn':(n:Int)<=1048576:=by omega
 have B0:Hid (Below w.heap.size w (w.alloc (oQ4 x.pa x.pn x.pc x.sa x.sn x.sc x.wa x.wn x.wc x.ha x.hn x.hc))):=zT _ _
 have X0:Hid (BoxC (w.alloc (oQ4 x.pa x.pn x.pc x.sa x.sn x.sc x.wa x.wn x.wc x.ha x.hn x.hc)) w.heap.size (.slice x.pa x.pn x.pc) (.slice x.sa x.sn x.sc) (.slice x.wa x.wn x.wc) (.slice x.ha x.hn x.hc)):=BoxC.new w _ _ _ _ _
 clear hG hL hcap hW hn
 go_enter Tryz.func41,Tryz.ntmps41
 go_wp2_with fail
 generalize w.alloc (oQ4 x.pa x.pn x.pc x.sa x.sn x.sc x.wa x.wn x.wc x.ha x.hn x.hc)=W1 at *
 refine (HSo.out W1 B0.out).mono ?_
 rintro e w2 ⟨rfl,b2⟩
 have B2:Hid (Below w.heap.size w w2/\BoxC w2 w.heap.size (.slice x.pa x.pn x.pc) (.slice x.sa x.sn x.sc) (.slice x.wa x.wn x.wc) (.slice x.ha x.hn x.hc)):=⟨B0.out.trans (b2.mono B0.out.size),X0.out.below b2⟩
 clear b2 B0 X0 HSo
 by_cases hok:x.y.okB=true
 case neg=>
  have hok':x.y.okB=false:=by simpa using hok
  rw [hok'] at HR ⊢
  go_wp2
  go_ret
  exact ⟨by rw [HR.out];rfl,B2.out.1⟩
 rw [hok] at HR ⊢
 have HO:Hid (x.y.Ok):=Sy.ok_of hok
 have hhn:x.hn=x.pn:=HO.out.cn.2.2.1
 have H4:Hid (x.pn<=4/\1<=x.pn/\x.hn=x.pn):=⟨HO.out.cn.1.2,HO.out.cn.1.1,hhn⟩
 have h4:(x.pn:Int)<=4:=by have:=H4.out.1;omega
 have h1:(1:Int)<=(x.pn:Int):=by have:=H4.out.2.1;omega
 have hmk:=qcp x.pn (by have:=H4.out.1;omega)
 have O3:Hid (Rk w x w2.heap.size (fun _=>0) (w2.alloc (.cells (madeCells #[.int .i64 0] x.pn) 3))):=by
  have h9:=qhf w2 x.pn (by have:=H4.out.1;omega)
  rw [<- qw5] at h9
  exact ⟨B2.out.1.trans ((zT _ _).mono B2.out.1.size),B2.out.2.below (zT _ _),h9.mono (zJ _ _ B2.out.2.1)⟩
 obtain ⟨bh,oh,eh,hch⟩:=HHs.out HO.out
 have HHa:Hid (x.ha=some ⟨bh,oh,none⟩/\∀ wx,Below w.heap.size w wx->∀ j,j<x.pn->wx.cell? ⟨bh,oh+j,none⟩=some (.slice (x.hA j) (x.hL j) (x.hC j))):=⟨eh,hch⟩
 obtain ⟨-,-,-,k3⟩:=B2.out.2
 rw [hhn] at k3
 clear hok eh hch HHs hhn
 go_upto_region 4 with fail
 clear k3 hmk B2
 generalize w2.alloc (.cells (madeCells #[.int .i64 0] x.pn) 3)=w3 at *
 generalize w2.heap.size=g at *
 go_wp2_with fail
 go_loopw [6] (fun i wr=>∃ k:Nat,k<=n/\i=.int .i64 k/\Hid (Rk w x g (tnD (rwF h) k) wr/\∀ j,j<k->x.y.hs.RwAt h j)) (fun i _=>n - (intOf i).toNat)
 case atStart=>exact ⟨0,Nat.zero_le _,rfl,O3.out,fun j hj=>by omega⟩
 case round=>
  clear O3
  rename World=>wr
  obtain ⟨k,hk,rfl,HF⟩:=hrel
  by_cases hlt:k<n
  case neg=>
   have HK:Hid (k=n):=by show k=n;omega
   go_wp2_with fail
   go_loopw [8] (fun i wi=>∃ j:Nat,j<=x.pn/\i=.int .i64 j/\Hid (Rk w x g (tnD (rwF h) k) wi/\(∀ j,j<k->x.y.hs.RwAt h j)/\∀ q,q<j->tnD (rwF h) k q=x.y.hs.l q)) (fun i _=>x.pn - (intOf i).toNat)
   case atStart=>exact ⟨0,Nat.zero_le _,rfl,HF.out.1,HF.out.2,fun j hj=>by omega⟩
   case round=>
    clear HF
    rename World=>wi
    obtain ⟨j,hj,rfl,HF⟩:=hrel
    by_cases hjt:j<x.pn
    case neg=>
     have HT:Hid (rwB x.y h n=true/\Below w.heap.size w wi):=by
      refine ⟨?_,HF.out.1.be⟩
      rw [HR.out,qa3 ⟨by rw [<- HK.out];exact HF.out.2.1,fun p hp=>by rw [<- HK.out];exact HF.out.2.2 p (by have hp:p<x.pn:=hp;omega)⟩]
      rfl
     clear HF HK HR
     go_wp2
     go_ret
     exact ⟨by rw [HT.out.1];rfl,HT.out.2⟩
    have hjt':(j:Int)<(x.pn:Int):=by omega
    have hjn:(j:Int)<(x.hn:Int):=by rw [H4.out.2.2];exact hjt'
    obtain ⟨-,-,-,k3⟩:=HF.out.1.bs
    rw [HHa.out.1] at k3
    have ch:=HHa.out.2 wi HF.out.1.be j hjt
    have sd:=(HF.out.1.cell hjt).1
    have k3':=cell_regrown k3
    have ch':=cell_regrown ch
    have sd':=cell_regrown sd
    have HL:Hid (x.y.hs.l j=x.hL j):=rfl
    have HF2 : Hid (∀ w', Below wi.heap.size wi w' → tnD (rwF h) k j = x.y.hs.l j → Rk w x g (tnD (rwF h) k) w' ∧ (∀ j, j < k → x.y.hs.RwAt h j) ∧ ∀ q, q < j + 1 → tnD (rwF h) k q = x.y.hs.l q) := fun w' hb he => ⟨HF.out.1.below hb, HF.out.2.1, fun q hq => by
     by_cases e:q=j
     ·subst e
      exact he
     ·exact HF.out.2.2 q (by omega)⟩
    have HN2:Hid (tnD (rwF h) k j≠x.y.hs.l j->rwB x.y h n=false):=fun he=>by
     rw [HR.out,qap fun h9=>he (by have:=h9.2 j hjt;rw [<- HK.out] at this;exact this)]
     rfl
    generalize hdj:tnD (rwF h) k j=dj at *
    by_cases hne:dj=x.hL j
    case neg=>
     have HT:Hid (rwB x.y h n=false):=HN2.out hne
     have he9:((dj:Int) != (x.hL j:Int))=true:=by
      have:¬ (dj:Int)=(x.hL j:Int):=by omega
      simpa using this
     clear hdj hne HN2 HF2
     go_upto_region 14 with fail
     refine wp_region_quiet_below (by kernel_rfl) (by kernel_rfl) ?_
     repeat (quiet_step (fail))
     refine wpQuiet_nil ?_
     intro _ hw'
     obtain ⟨⟨dq,osq⟩,hw''⟩:=hw'
     subst hw''
     have B4:Hid (Below w.heap.size w (grow (redrawn wi dq) osq)):=(HF.out.1.below (below_regrown wi dq osq)).be
     generalize grow (redrawn wi dq) osq=w4 at *
     clear k3 sd ch k3' sd' ch' HF
     go_wp2
     go_ret
     exact ⟨by rw [HT.out];rfl,B4.out⟩
    have he9:((dj:Int) != (x.hL j:Int))=false:=by simp [hne]
    have HE9:Hid (dj=x.y.hs.l j):=hne
    clear hdj hne HN2
    go_upto_region 14 with fail
    refine wp_region_quiet_below (by kernel_rfl) (by kernel_rfl) ?_
    repeat (quiet_step (fail))
    refine wpQuiet_nil ?_
    intro _ hw'
    obtain ⟨⟨dq,osq⟩,hw''⟩:=hw'
    subst hw''
    have B4:Hid (Rk w x g (tnD (rwF h) k) (grow (redrawn wi dq) osq)/\(∀ j,j<k->x.y.hs.RwAt h j)/\∀ q,q<j+1->tnD (rwF h) k q=x.y.hs.l q):=HF2.out _ (below_regrown wi dq osq) HE9.out
    generalize grow (redrawn wi dq) osq=w4 at *
    clear k3 sd ch k3' sd' ch' HF HF2
    go_wp2
    go_roundw
    case rel=>exact ⟨j+1,by omega,by go_num,B4.out⟩
    case measure=>simp [intOf];omega
  have hlt':(k:Int)<(n:Int):=by omega
  obtain ⟨b,off,rfl,-,c0,c1⟩:=(HW.out wr HF.out.1.be).at hlt
  have F2:Hid (Rk w x g (tnD (rwF h) k) (wr.alloc (.cells #[.int .i64 (h k).m,.int .i64 (h k).v] 72))/\(∀ j,j<k->x.y.hs.RwAt h j)/\BoxS (wr.alloc (.cells #[.int .i64 (h k).m,.int .i64 (h k).v] 72)) wr.heap.size (.int .i64 (h k).m) (.int .i64 (h k).v)):=⟨HF.out.1.below (zT _ _),HF.out.2,BoxS.new wr _ _ _⟩
  have LZ:Hid (g<wr.heap.size):=HF.out.1.lt.2
  go_upto_region 8 with fail
  clear c0 c1 HF
  generalize wr.heap.size=S at *
  generalize wr.alloc (.cells #[.int .i64 (h k).m,.int .i64 (h k).v] 72)=w5 at *
  clear wr
  obtain ⟨k0,k1,k2,k3⟩:=F2.out.1.bs
  obtain ⟨s0,s1⟩:=F2.out.2.2
  have HNo:Hid (¬ x.y.hs.RwAt h k->rwB x.y h n=false):=fun h9=>by
   rw [HR.out,qap (Hs.rw_no hlt h9)]
   rfl
  have k0':=cell_regrown k0
  have k1':=cell_regrown k1
  have k2':=cell_regrown k2
  have k3':=cell_regrown k3
  have s0':=cell_regrown s0
  have s1':=cell_regrown s1
  by_cases hin:0<=(h k).m/\(h k).m<=(x.pn:Int) - 1
  case neg=>
   have hib:inB (h k).m 0 ((x.pn:Int) - 1)=false:=by simpa [inB] using hin
   have HIn:Hid (∀ wx,Calls Tryz.prog 71 #[.int .i64 (h k).m,.int .i64 0,.int .i64 ((x.pn:Int) - 1)] wx fun e w'=>e=.returned (.bool false)/\w'=wx):=fun wx=>by
    have h9:=l1In_any (h k).m 0 ((x.pn:Int) - 1) wx
    rwa [hib] at h9
   have HInW:Hid (∀ wx,Calls Tryz.prog 71 #[.int .i64 (h k).m,.int .i64 0,.int .i64 (IntKind.i64.wrap ((x.pn:Int) - 1))] wx fun e w'=>e=.returned (.bool false)/\w'=wx):=fun wx=>by
    have hw:IntKind.i64.wrap ((x.pn:Int) - 1)=(x.pn:Int) - 1:=by rw [IntKind.wrap_i64];omega
    rw [hw]
    exact HIn.out wx
   clear hib
   have HT:Hid (rwB x.y h n=false):=HNo.out fun ⟨p,hp,e1,_⟩=>hin (by have hp:p<x.pn:=hp;omega)
   clear hin
   refine wp_region_quiet_below (by kernel_rfl) (by kernel_rfl) ?_
   repeat (first | go_big_quiet_skip | quiet_step (first|(go_at_call 71;exact Calls.regrown_same (HInW.out _))))
   refine wpQuiet_nil ?_
   intro _ hw'
   obtain ⟨⟨dq,osq⟩,hw''⟩:=hw'
   subst hw''
   have B6:Hid (Below w.heap.size w (grow (redrawn w5 dq) osq)):=(F2.out.1.below (below_regrown w5 dq osq)).be
   generalize grow (redrawn w5 dq) osq=w6 at *
   clear k0 k1 k2 k3 s0 s1 k0' k1' k2' k3' s0' s1' F2 HNo HR
   go_wp2
   go_ret
   exact ⟨by rw [HT.out];rfl,B6.out⟩
  have hib:inB (h k).m 0 ((x.pn:Int) - 1)=true:=by simpa [inB] using hin
  obtain ⟨P,hP⟩:∃ P:Nat,(h k).m=P:=⟨(h k).m.toNat,by omega⟩
  have hPp:P<x.pn:=by omega
  have hPI:(P:Int)<(x.pn:Int):=by omega
  have HP:Hid ((h k).m=(P:Nat)/\P<x.pn):=⟨hP,hPp⟩
  have HAt:Hid (x.y.hs.RwAt h k->(h k).v=(tnD (rwF h) k P:Nat)/\x.y.hs.Can (tnD (rwF h) k) P):=fun ⟨p,hp,e1,e2,e3⟩=>by
   obtain rfl:p=P:=by omega
   exact ⟨e2,e3⟩
  have HYe:Hid ((h k).v=(tnD (rwF h) k P:Nat)->x.y.hs.Can (tnD (rwF h) k) P->x.y.hs.RwAt h k/\tnD (rwF h) (k+1)=up (tnD (rwF h) k) P):=fun e1 e2=>Hs.rw_hit hPp hP e1 e2
  rw [hP] at s0 s0' hib
  have HIn:Hid (∀ wx,Calls Tryz.prog 71 #[.int .i64 (P:Nat),.int .i64 0,.int .i64 ((x.pn:Int) - 1)] wx fun e w'=>e=.returned (.bool true)/\w'=wx):=fun wx=>by
   have h9:=l1In_any (P:Nat) 0 ((x.pn:Int) - 1) wx
   rwa [hib] at h9
  have HInW:Hid (∀ wx,Calls Tryz.prog 71 #[.int .i64 (P:Nat),.int .i64 0,.int .i64 (IntKind.i64.wrap ((x.pn:Int) - 1))] wx fun e w'=>e=.returned (.bool true)/\w'=wx):=fun wx=>by
   have hw:IntKind.i64.wrap ((x.pn:Int) - 1)=(x.pn:Int) - 1:=by rw [IntKind.wrap_i64];omega
   rw [hw]
   exact HIn.out wx
  clear hib
  have sd:=(F2.out.1.cell hPp).1
  have sd':=cell_regrown sd
  have HD2:Hid (∀ i,tnD (rwF h) k i<=x.y.hL i):=(Hs.rw_put F2.out.2.1).le
  have HCx:Hid (∀ dd os,Calls Tryz.prog 88 #[x.v,.slice (some ⟨g,0,none⟩) x.pn x.pn,.int .i64 (P:Nat)] (grow (redrawn w5 dd) os) fun e w'=>e=.returned (.bool (qB (x.y.hs.Can (tnD (rwF h) k) P)))/\Below (grow (redrawn w5 dd) os).heap.size (grow (redrawn w5 dd) os) w'):=fun dd os=>HCn.out HO.out g P _ w5 F2.out.1 HD2.out hPp _ (below_regrown w5 dd os)
  have HDp:Hid (tnD (rwF h) k P<=200):=by
   have h9:=HD2.out P
   have h8:=HO.out.hl200 (show P<x.y.pn from hPp)
   show tnD (rwF h) k P<=200
   omega
  have hdp:((tnD (rwF h) k P:Nat):Int)<=200:=by have:=HDp.out;omega
  clear hin hP
  by_cases hv:(h k).v=(tnD (rwF h) k P:Nat)
  case neg=>
   have hve:((h k).v != ((tnD (rwF h) k P:Nat):Int))=true:=by simpa using hv
   have HT:Hid (rwB x.y h n=false):=HNo.out fun h9=>hv (HAt.out h9).1
   clear hv HAt HYe HCx
   refine wp_region_quiet_below (by kernel_rfl) (by kernel_rfl) ?_
   repeat (first | go_big_quiet_skip | quiet_step (first|(go_at_call 71;exact Calls.regrown_same (HInW.out _))))
   refine wpQuiet_nil ?_
   intro _ hw'
   obtain ⟨⟨dq,osq⟩,hw''⟩:=hw'
   subst hw''
   have B6:Hid (Below w.heap.size w (grow (redrawn w5 dq) osq)):=(F2.out.1.below (below_regrown w5 dq osq)).be
   generalize grow (redrawn w5 dq) osq=w6 at *
   clear k0 k1 k2 k3 s0 s1 k0' k1' k2' k3' s0' s1' sd sd' F2 HNo HR
   go_wp2
   go_ret
   exact ⟨by rw [HT.out];rfl,B6.out⟩
  have hve:((h k).v != ((tnD (rwF h) k P:Nat):Int))=false:=by simpa using hv
  have HV9:Hid ((h k).v=(tnD (rwF h) k P:Nat)):=hv
  clear hv
  by_cases hcn:x.y.hs.Can (tnD (rwF h) k) P
  case neg=>
   rw [qap hcn] at HCx
   have HT:Hid (rwB x.y h n=false):=HNo.out fun h9=>hcn (HAt.out h9).2
   clear hcn HAt HYe
   refine wp_region_quiet_below (by kernel_rfl) (by kernel_rfl) ?_
   repeat (first | go_big_quiet_skip | quiet_step (first|(go_at_call 71;exact Calls.regrown_same (HInW.out _))|(go_at_call 88;exact Calls.regrown_of (HCx.out _ _))))
   refine wpQuiet_nil ?_
   intro _ hw'
   obtain ⟨⟨dq,osq⟩,hw''⟩:=hw'
   subst hw''
   have B6:Hid (Below w.heap.size w (grow (redrawn w5 dq) osq)):=(F2.out.1.below (below_regrown w5 dq osq)).be
   generalize grow (redrawn w5 dq) osq=w6 at *
   clear k0 k1 k2 k3 s0 s1 k0' k1' k2' k3' s0' s1' sd sd' F2 HNo HR HCx
   go_wp2
   go_ret
   exact ⟨by rw [HT.out];rfl,B6.out⟩
  rw [qa3 hcn] at HCx
  obtain ⟨hat,hup⟩:=HYe.out HV9.out hcn
  have HAU:Hid (x.y.hs.RwAt h k/\tnD (rwF h) (k+1)=up (tnD (rwF h) k) P):=⟨hat,hup⟩
  clear hcn HAt HYe hat hup HNo
  refine wp_region_quiet_below (by kernel_rfl) (by kernel_rfl) ?_
  repeat (first | go_big_quiet_skip | quiet_step (first|(go_at_call 71;exact Calls.regrown_same (HInW.out _))|(go_at_call 88;exact Calls.regrown_of (HCx.out _ _))))
  refine wpQuiet_nil ?_
  intro _ hw'
  obtain ⟨⟨dq,osq⟩,hw''⟩:=hw'
  subst hw''
  have F6:Hid (Rk w x g (tnD (rwF h) k) (grow (redrawn w5 dq) osq)/\(∀ j,j<k->x.y.hs.RwAt h j)/\BoxS (grow (redrawn w5 dq) osq) S (.int .i64 (P:Nat)) (.int .i64 (h k).v)):=⟨F2.out.1.below (below_regrown w5 dq osq),F2.out.2.1,by rw [<- HP.out.1];exact F2.out.2.2.below (below_regrown w5 dq osq)⟩
  generalize grow (redrawn w5 dq) osq=w6 at *
  clear k0 k1 k2 k3 s0 s1 k0' k1' k2' k3' s0' s1' sd sd' F2 HCx w5
  obtain ⟨s0,s1⟩:=F6.out.2.2
  obtain ⟨sd,sf⟩:=F6.out.1.cell HP.out.2
  have F7:Hid (Rk w x g (tnD (rwF h) (k+1)) (w6.setCell ⟨g,P,none⟩ (.int .i64 ((tnD (rwF h) k P:Nat)+1:Int)))/\∀ j,j<k+1->x.y.hs.RwAt h j):=by
   refine ⟨?_,fun j hj=>?_⟩
   ·rw [HAU.out.2]
    exact F6.out.1.put HP.out.2
   ·by_cases e:j=k
    ·subst e
     exact HAU.out.1
    ·exact F6.out.2.1 j (by omega)
  clear F6 HAU
  go_wp2
  go_roundw
  case rel=>exact ⟨k+1,by omega,by go_num,F7.out⟩
  case measure=>simp [intOf];omega
structure RdJ (w:World) (x:SysIn) (B A:Nat) (Y:Sy) (vp vs vw vh:Value) (wx:World):Prop where
 k:RdK w x B A Y vp vs vw vh wx
 fa:∀ j,wx.frozen? ⟨A,j,none⟩=false
theorem RdJ.below {w:World} {x:SysIn} {B A:Nat} {Y:Sy} {vp vs vw vh:Value} {wx wy:World} (h:RdJ w x B A Y vp vs vw vh wx) (hb:Below wx.heap.size wx wy):RdJ w x B A Y vp vs vw vh wy:=
 ⟨h.k.below hb,fun j=>(hb.frozen (p:=⟨A,j,none⟩) h.k.lt).trans (h.fa j)⟩
theorem RdJ.l5 {w:World} {x:SysIn} {B A:Nat} {Y:Sy} {vp vs vw vh:Value} {wr wx:World} (h:RdJ w x B A Y vp vs vw vh wr) (hO:Y.Ok) (hb:Below wr.heap.size wr wx) (p:Nat) (f:Int) (hp:p<Y.pn):
  Calls Tryz.prog 43 #[.agg #[vp,vs,vw,vh],.int .i64 p,.int .i64 f] wx fun e w'=>e=.returned (.tuple #[.agg #[vp,vs,vw,vh],.int .i64 (stC Y p f)])/\RdJ w x B A (stY Y p f) vp vs vw vh w'/\(∀ b,wr.heap.size<=b->b<wx.heap.size->w'.heap[b]? = wx.heap[b]?)/\∀ N,wr.heap.size<=N->N<wx.heap.size->∀ a b d t,RdJ w x B A (stY Y p f) vp vs vw vh ((((w'.setCell ⟨N,0,none⟩ a).setCell ⟨N,1,none⟩ b).setCell ⟨N,2,none⟩ d).setCell ⟨N,3,none⟩ t):=by
 obtain ⟨c,up,us,uw,uh,o,hc⟩:=h.k.ow
 have hA:=h.k.lt
 have hAx:A<wx.heap.size:=zL hA hb.size
 have o2:=(o.recol 0).below hb
 have hbl:belB (p:Int) Y.pn=true:=decide_eq_true ⟨by omega,by omega⟩
 have eC:stC Y (p:Int) f=cmS Y p f:=by
  unfold stC
  rw [if_pos (Sy.okB_true hO),if_pos hbl,Int.toNat_natCast]
 have eY:stY Y (p:Int) f=Y.step p f:=by
  unfold Go.Proofs.YtchhijiibjijhaaGreatDoor.stY
  rw [if_pos (Sy.okB_true hO),if_pos hbl,Int.toNat_natCast]
 rw [eC,eY]
 refine (qtt Y p f wx B _ vp vs vw vh up us uw uh o2 hp hO).mono ?_
 rintro e w' ⟨rfl,b1,c',us',uw',uh',o',kp⟩
 have kA:=kp A hAx ((qar hA).trans hc)
 have hbx:=h.below hb
 have r1:RdJ w x B A (Y.step p f) vp vs vw vh w':=⟨⟨hbx.k.rw.keep h.k.nb.1 b1,hbx.k.bx.blkK kA.1,⟨c',up,us',uw',uh',o',kA.2⟩,h.k.nb⟩,fun j=>(zI kA.1).trans (hbx.fa j)⟩
 refine ⟨rfl,r1,fun b h1 h2=>(kp b h2 (qah h1)).1,fun N h1 h2 a b d t=>?_⟩
 have hcN:=(kp N h2 (qah h1)).2
 have hBN:B<=N:=by have:=h.k.nb.2;omega
 have hAN:A≠N:=by omega
 refine ⟨⟨r1.k.rw.keep h.k.nb.1 (((((Below.refl B w').setCell (p:=⟨N,0,none⟩) hBN a).setCell (p:=⟨N,1,none⟩) hBN b).setCell (p:=⟨N,2,none⟩) hBN d).setCell (p:=⟨N,3,none⟩) hBN t),r1.k.bx.blkK ?_,⟨c',up,us',uw',uh',(((o'.setOut hcN 0 a).setOut hcN 1 b).setOut hcN 2 d).setOut hcN 3 t,kA.2⟩,h.k.nb⟩,fun j=>?_⟩
 ·rw [zO _ _ _ _ hAN,zO _ _ _ _ hAN,zO _ _ _ _ hAN,zO _ _ _ _ hAN]
 ·rw [World.frozen?_setCell,World.frozen?_setCell,World.frozen?_setCell,World.frozen?_setCell]
  exact r1.fa j
theorem RdJ.put4 {w:World} {x:SysIn} {B A:Nat} {Y:Sy} {vp vs vw vh:Value} {wx:World} (h:RdJ w x B A Y vp vs vw vh wx):RdJ w x B A Y vp vs vw vh ((((wx.setCell ⟨A,0,none⟩ vp).setCell ⟨A,1,none⟩ vs).setCell ⟨A,2,none⟩ vw).setCell ⟨A,3,none⟩ vh):=by
 obtain ⟨c,up,us,uw,uh,o,hc⟩:=h.k.ow
 have hBA:B<=A:=h.k.nb.2
 obtain ⟨c0,c1,c2,c3⟩:=h.k.bx
 refine ⟨⟨h.k.rw.keep h.k.nb.1 (((((Below.refl B wx).setCell (p:=⟨A,0,none⟩) hBA vp).setCell (p:=⟨A,1,none⟩) hBA vs).setCell (p:=⟨A,2,none⟩) hBA vw).setCell (p:=⟨A,3,none⟩) hBA vh),⟨by go_cell,by go_cell,by go_cell,by go_cell⟩,⟨c,up,us,uw,uh,(((o.setOut hc 0 vp).setOut hc 1 vs).setOut hc 2 vw).setOut hc 3 vh,hc⟩,h.k.nb⟩,fun j=>?_⟩
 rw [World.frozen?_setCell,World.frozen?_setCell,World.frozen?_setCell,World.frozen?_setCell]
 exact h.fa j
theorem qnh (x:SysIn) (la:Option Addr) (n lc:Nat) (h:Nat->Wo2) (w:World) (hG:SysG w x) (hL:x.Len) (hcap:∀ i,i<x.hn->x.hL i<=x.hC i) (hW:WoL w la n h) (hn:n<=1048576):
  Calls Tryz.prog 11 #[x.v,.slice la n lc] w fun e w'=>∃ u,e=.returned (.tuple #[u,.bool (rdB x.y h n)])/\qbg false w' w.heap.size (rdS x.y h n) u/\Below w.heap.size w w':=by
 have HRo:Hid (∀ t,rwB x.y h n=t->∀ wx,Below w.heap.size w wx->Calls Tryz.prog 41 #[x.v,.slice la n lc] wx fun e w'=>e=.returned (.bool t)/\Below wx.heap.size wx w'):=fun t ht wx hb=>by
  rw [<- ht]
  exact qk1 x la n lc h wx (hG.below hb) hL hcap (hW.below hb) hn
 have HNw:Hid (∀ wx,Below w.heap.size w wx->Calls Tryz.prog 42 #[.slice x.pa x.pn x.pc] wx (NwR wx x.pn x.pL x.pH)):=fun wx hb=>qi4 x.pa x.pn x.pc x.pA x.pL x.pC x.pH wx hL.p.1 hL.p.2 (hG.below hb).p fun i hi=>by
  obtain ⟨b,e,hlt,hI⟩:=(hG.below hb).pi i hi
  rw [e]
  exact srcI hlt hI
 have HW:Hid (∀ wx,Below w.heap.size w wx->WoL wx la n h):=fun wx hb=>hW.below hb
 have HG:Hid (∀ wx,Below w.heap.size w wx->SysG wx x):=fun wx hb=>hG.below hb
 have X0:Hid (Rdw w x ((w.alloc (oQ4 x.pa x.pn x.pc x.sa x.sn x.sc x.wa x.wn x.wc x.ha x.hn x.hc)).alloc (zQ2))):=Rdw.new w x
 have hn':(n:Int)<=1048576:=by omega
 clear hG hL hW hcap
 go_enter Tryz.func11,Tryz.ntmps11
 go_upto_region 1 with fail
 generalize (w.alloc (oQ4 x.pa x.pn x.pc x.sa x.sn x.sc x.wa x.wn x.wc x.ha x.hn x.hc)).alloc (zQ2)=W1 at *
 obtain ⟨k0,k1,k2,k3⟩:=X0.out.bs
 go_wp2_with fail
 clear k0 k1 k2 k3
 cases hr:rwB x.y h n with
 | false=>
  have HF:Hid (rdB x.y h n=false/\rdS x.y h n={ x.y with pn:=0,sn:=0,wn:=0,hn:=0 }):=⟨qh8 hr,qjd (qh8 hr)⟩
  refine (HRo.out false hr W1 X0.out.be).mono ?_
  rintro e w2 ⟨rfl,b2⟩
  have X2:Hid (Rdw w x w2):=X0.out.below b2
  clear b2 X0
  obtain ⟨r0,r1,r2,r3⟩:=X2.out.bo
  have rf:=X2.out.fo
  go_wp2
  exact bodyPost_ret (v:=.tuple #[sysV none 0 0 none 0 0 none 0 0 none 0 0,.bool false]) (by simp [results,Tryz.results11,go_sem,r0,r1,r2,r3]) rfl ⟨_,by rw [HF.out.1],by rw [HF.out.2];exact qbg.zero _ _ _,X2.out.zero⟩
 | true=>
  refine (HRo.out true hr W1 X0.out.be).mono ?_
  rintro e w2 ⟨rfl,b2⟩
  have X2:Hid (Rdw w x w2):=X0.out.below b2
  have HAt:Hid (∀ i,i<n->∃ p q:Nat,(h i).m=(p:Nat)/\(h i).v=(q:Nat)/\p<x.y.pn/\q<x.y.hL p/\x.y.Ok):=fun i hi=>qwz hr hi
  have hOk:x.y.Ok:=Sy.ok_of (by unfold rwB at hr;simp only [Bool.and_eq_true] at hr;exact hr.1)
  have HO:Hid (x.y.Ok/\rwB x.y h n=true/\nwN x.pn x.pL x.pH=x.pn/\snB x.pn x.pL x.pH=true):=⟨hOk,hr,if_pos hOk.snB,hOk.snB⟩
  have HPn:Hid (∀ j,(rdY x.y h j).pn=x.y.pn):=fun j=>by
   induction j with
   | zero=>rfl
   | succ j ih=>exact (qyp (qm6 hOk h j) _ _).trans ih
  clear b2 X0 HRo hOk hr
  obtain ⟨k0,k1,k2,k3⟩:=X2.out.bs
  go_wp2_with fail
  clear k0 k1 k2 k3
  refine (HNw.out w2 X2.out.be).mono ?_
  rintro e w3 ⟨pa,pc,sa,sc,wa,wc,ha,hc,rfl,o3,q3⟩
  rw [HO.out.2.2.1] at o3 ⊢
  obtain ⟨c,up,us,o3⟩:=o3.s
  have ba:=zT w3 (oQ4 pa x.pn pc sa x.pn sc wa (x.pn*x.pn) wc ha x.pn hc)
  have L4:Hid (RdJ w x w2.heap.size w3.heap.size (rdY x.y h 0) (.slice pa x.pn pc) (.slice sa x.pn sc) (.slice wa (x.pn*x.pn) wc) (.slice ha x.pn hc) (w3.alloc (oQ4 pa x.pn pc sa x.pn sc wa (x.pn*x.pn) wc ha x.pn hc))):=⟨⟨X2.out.below (q3.trans (ba.mono q3.size)),BoxC.new w3 _ _ _ _ _,⟨_,up,us,_,_,(o3.recol 0).below ba,qah (Nat.le_refl _)⟩,X2.out.lt,q3.size⟩,fun j=>yB _ _ _ _ rfl⟩
  go_upto_region 4 with fail
  clear o3 q3 ba X2 HNw
  generalize w2.heap.size=B at *
  generalize w3.alloc (oQ4 pa x.pn pc sa x.pn sc wa (x.pn*x.pn) wc ha x.pn hc)=w4 at *
  generalize w3.heap.size=A at *
  go_wp2_with fail
  go_loopw [8] (fun i wr=>∃ j:Nat,j<=n/\i=.int .i64 (j:Nat)/\Hid (RdJ w x B A (rdY x.y h j) (.slice pa x.pn pc) (.slice sa x.pn sc) (.slice wa (x.pn*x.pn) wc) (.slice ha x.pn hc) wr/\∀ i,i<j->rdC x.y h i=0)) (fun i _=>n - (intOf i).toNat)
  case atStart=>exact ⟨0,Nat.zero_le _,rfl,L4.out,fun i hi=>absurd hi (Nat.not_lt_zero _)⟩
  case round=>
   clear L4
   rename World=>wr
   obtain ⟨j,hj,rfl,HK⟩:=hrel
   by_cases hlt:j<n
   case neg=>
    have hjn:j=n:=by omega
    have HF:Hid (rdB x.y h n=true/\rdS x.y h n=rdY x.y h j):=by
     have h9:rdB x.y h n=true:=qt7 HO.out.2.1 fun i hi=>HK.out.2 i (by omega)
     exact ⟨h9,by rw [qpd h9,hjn]⟩
    obtain ⟨k0,k1,k2,k3⟩:=HK.out.1.k.bx
    obtain ⟨r0,r1,r2,r3⟩:=HK.out.1.k.rw.bo
    have rf:=HK.out.1.k.rw.fo
    have HE:=HK.out.1.k.own
    clear hjn
    go_wp2
    exact bodyPost_ret (v:=.tuple #[.agg #[.slice pa x.pn pc,.slice sa x.pn sc,.slice wa (x.pn*x.pn) wc,.slice ha x.pn hc],.bool true]) (by simp [results,Tryz.results11,go_sem,r0,r1,r2,r3]) rfl ⟨_,by rw [HF.out.1],by rw [HF.out.2];exact HE.1,HE.2⟩
   have hlt':(j:Int)<(n:Int):=by omega
   obtain ⟨p,q,em,eq,hp,hq,-⟩:=HAt.out j hlt
   obtain ⟨b,off,rfl,-,c0,c1⟩:=(HW.out wr HK.out.1.k.rw.be).at hlt
   rw [em] at c0
   rw [eq] at c1
   have hhn:x.hn=x.y.pn:=HO.out.1.cn.2.2.1
   have hp':(p:Int)<(x.hn:Int):=by rw [hhn];omega
   have hq':(q:Int)<(x.hL p:Int):=by have:x.y.hL p=x.hL p:=rfl;omega
   have HQ:Hid ((h j).m=(p:Nat)/\(h j).v=(q:Nat)/\rdQ x.y (h j)=(x.hH p q).q):=⟨em,eq,by unfold rdQ;rw [em,eq,Int.toNat_natCast,Int.toNat_natCast];rfl⟩
   have HPp:Hid (p<x.hn/\q<x.hL p/\p<x.y.pn):=⟨by rw [hhn];exact hp,hq,hp⟩
   have HSt:Hid (∀ wx,Below wr.heap.size wr wx->Calls Tryz.prog 43 #[.agg #[.slice pa x.pn pc,.slice sa x.pn sc,.slice wa (x.pn*x.pn) wc,.slice ha x.pn hc],.int .i64 (p:Nat),.int .i64 (rdQ x.y (h j))] wx fun e w'=>e=.returned (.tuple #[.agg #[.slice pa x.pn pc,.slice sa x.pn sc,.slice wa (x.pn*x.pn) wc,.slice ha x.pn hc],.int .i64 (rdC x.y h j)])/\RdJ w x B A (rdY x.y h (j+1)) (.slice pa x.pn pc) (.slice sa x.pn sc) (.slice wa (x.pn*x.pn) wc) (.slice ha x.pn hc) w'/\(∀ b,wr.heap.size<=b->b<wx.heap.size->w'.heap[b]? = wx.heap[b]?)/\∀ N,wr.heap.size<=N->N<wx.heap.size->∀ a b d t,RdJ w x B A (rdY x.y h (j+1)) (.slice pa x.pn pc) (.slice sa x.pn sc) (.slice wa (x.pn*x.pn) wc) (.slice ha x.pn hc) ((((w'.setCell ⟨N,0,none⟩ a).setCell ⟨N,1,none⟩ b).setCell ⟨N,2,none⟩ d).setCell ⟨N,3,none⟩ t)):=fun wx hb=>by
    have h9:=HK.out.1.l5 (qm6 HO.out.1 h j) hb p (rdQ x.y (h j)) (by rw [HPn.out];exact HPp.out.2.2)
    have e9:stY (rdY x.y h j) ((p:Nat):Int) (rdQ x.y (h j))=rdY x.y h (j+1):=by
     show _=stY (rdY x.y h j) (h j).m (rdQ x.y (h j))
     rw [HQ.out.1]
    have e8:stC (rdY x.y h j) ((p:Nat):Int) (rdQ x.y (h j))=rdC x.y h j:=by
     show _=stC (rdY x.y h j) (h j).m (rdQ x.y (h j))
     rw [HQ.out.1]
    rw [e9,e8] at h9
    exact h9
   have K1:Hid (RdJ w x B A (rdY x.y h j) (.slice pa x.pn pc) (.slice sa x.pn sc) (.slice wa (x.pn*x.pn) wc) (.slice ha x.pn hc) (wr.alloc (.cells #[.int .i64 (p:Nat),.int .i64 (q:Nat)] 72))/\(∀ i,i<j->rdC x.y h i=0)/\BoxS (wr.alloc (.cells #[.int .i64 (p:Nat),.int .i64 (q:Nat)] 72)) wr.heap.size (.int .i64 (p:Nat)) (.int .i64 (q:Nat))/\Below wr.heap.size wr (wr.alloc (.cells #[.int .i64 (p:Nat),.int .i64 (q:Nat)] 72))/\wr.heap.size<(wr.alloc (.cells #[.int .i64 (p:Nat),.int .i64 (q:Nat)] 72)).heap.size):=⟨HK.out.1.below (zT _ _),HK.out.2,BoxS.new wr _ _ _,zT _ _,by simp⟩
   clear hhn hp hq em eq
   obtain ⟨bh,oh,eh,ch⟩:=(HG.out w (Below.refl _ _)).h.at HPp.out.1
   have hch:w.cell? ⟨bh,oh+p,none⟩=some (.slice (x.hA p) (x.hL p) (x.hC p)):=ch
   obtain ⟨be,oe,ee,ze,-,e1,-⟩:=((HG.out w (Below.refl _ _)).hi p HPp.out.1).at HPp.out.2.1
   rw [ee] at hch
   have HCe:Hid (∀ wx,Below w.heap.size w wx->wx.cell? ⟨bh,oh+p,none⟩=some (.slice (some ⟨be,oe,none⟩) (x.hL p) (x.hC p))/\wx.cell? ⟨be,oe+q*3+1,none⟩=some (.int .i64 (rdQ x.y (h j)))):=fun wx hb=>⟨(hb.cell (zJ w _ hch)).trans hch,by rw [HQ.out.2.2];exact (hb.cell ze).trans e1⟩
   have HEh:Hid (x.ha=some ⟨bh,oh,none⟩):=eh
   clear ch e1 hch eh ee ze
   go_upto_region 8 with fail
   clear c0 c1 HK
   generalize wr.alloc (.cells #[.int .i64 (p:Nat),.int .i64 (q:Nat)] 72)=w5 at *
   have hS:∀ wx,Rdw w x wx->BoxC wx A (.slice pa x.pn pc) (.slice sa x.pn sc) (.slice wa (x.pn*x.pn) wc) (.slice ha x.pn hc)->BoxS wx wr.heap.size (.int .i64 (p:Nat)) (.int .i64 (q:Nat))->(fun w':World=>BoxC w' A (.slice pa x.pn pc) (.slice sa x.pn sc) (.slice wa (x.pn*x.pn) wc) (.slice ha x.pn hc)/\w'.cell? ⟨wr.heap.size,0,none⟩=some (.int .i64 (p:Nat))/\w'.cell? ⟨wr.heap.size,1,none⟩=some (.int .i64 (q:Nat))/\w'.cell? ⟨w.heap.size,3,none⟩=some (.slice (some ⟨bh,oh,none⟩) x.hn x.hc)/\w'.cell? ⟨bh,oh+p,none⟩=some (.slice (some ⟨be,oe,none⟩) (x.hL p) (x.hC p))/\w'.cell? ⟨be,oe+q*3+1,none⟩=some (.int .i64 (rdQ x.y (h j)))) wx:=fun wx hr hx hp=>by
    refine ⟨hx,hp.1,hp.2,?_,(HCe.out wx hr.be).1,(HCe.out wx hr.be).2⟩
    rw [<- HEh.out]
    exact hr.bs.2.2.2
   have HSS:Hid (∀ wx,Rdw w x wx->BoxC wx A (.slice pa x.pn pc) (.slice sa x.pn sc) (.slice wa (x.pn*x.pn) wc) (.slice ha x.pn hc)->BoxS wx wr.heap.size (.int .i64 (p:Nat)) (.int .i64 (q:Nat))->(fun w':World=>BoxC w' A (.slice pa x.pn pc) (.slice sa x.pn sc) (.slice wa (x.pn*x.pn) wc) (.slice ha x.pn hc)/\w'.cell? ⟨wr.heap.size,0,none⟩=some (.int .i64 (p:Nat))/\w'.cell? ⟨wr.heap.size,1,none⟩=some (.int .i64 (q:Nat))/\w'.cell? ⟨w.heap.size,3,none⟩=some (.slice (some ⟨bh,oh,none⟩) x.hn x.hc)/\w'.cell? ⟨bh,oh+p,none⟩=some (.slice (some ⟨be,oe,none⟩) (x.hL p) (x.hC p))/\w'.cell? ⟨be,oe+q*3+1,none⟩=some (.int .i64 (rdQ x.y (h j)))) wx):=hS
   clear hS
   obtain ⟨P,hP⟩:∃ P,wr.heap.size=P:=⟨_,rfl⟩
   rw [hP] at K1 HSS HSt ⊢
   clear hP
   have q0:Below w5.heap.size w5 w5.drew:=(Below.refl w5.heap.size w5).drew
   have hHeld:(fun w':World=>BoxC w' A (.slice pa x.pn pc) (.slice sa x.pn sc) (.slice wa (x.pn*x.pn) wc) (.slice ha x.pn hc)/\w'.cell? ⟨P,0,none⟩=some (.int .i64 (p:Nat))/\w'.cell? ⟨P,1,none⟩=some (.int .i64 (q:Nat))/\w'.cell? ⟨w.heap.size,3,none⟩=some (.slice (some ⟨bh,oh,none⟩) x.hn x.hc)/\w'.cell? ⟨bh,oh+p,none⟩=some (.slice (some ⟨be,oe,none⟩) (x.hL p) (x.hC p))/\w'.cell? ⟨be,oe+q*3+1,none⟩=some (.int .i64 (rdQ x.y (h j)))) w5.drew:=HSS.out _ (K1.out.1.below q0).k.rw (K1.out.1.below q0).k.bx (K1.out.2.2.1.below q0)
   refine qas (fun w':World=>BoxC w' A (.slice pa x.pn pc) (.slice sa x.pn sc) (.slice wa (x.pn*x.pn) wc) (.slice ha x.pn hc)/\w'.cell? ⟨P,0,none⟩=some (.int .i64 (p:Nat))/\w'.cell? ⟨P,1,none⟩=some (.int .i64 (q:Nat))/\w'.cell? ⟨w.heap.size,3,none⟩=some (.slice (some ⟨bh,oh,none⟩) x.hn x.hc)/\w'.cell? ⟨bh,oh+p,none⟩=some (.slice (some ⟨be,oe,none⟩) (x.hL p) (x.hC p))/\w'.cell? ⟨be,oe+q*3+1,none⟩=some (.int .i64 (rdQ x.y (h j)))) (fun _=>false) (by kernel_rfl) ?_
   refine qaf 0 rfl hHeld ?_
   apply Exists.intro
   refine ⟨fun wq hSw=>?_,?_⟩
   ·obtain ⟨⟨g0,g1,g2,g3⟩,g4,g5,g6,g7,g8⟩:=hSw
    go_simp
    try with_reducible rfl
   (try simp only [Act.put,zD,zE,zF])
   refine qaf 1 rfl hHeld ?_
   apply Exists.intro
   refine ⟨fun wq hSw=>?_,?_⟩
   ·obtain ⟨⟨g0,g1,g2,g3⟩,g4,g5,g6,g7,g8⟩:=hSw
    go_simp
    try with_reducible rfl
   (try simp only [Act.put,zD,zE,zF])
   refine qaf 2 rfl hHeld ?_
   apply Exists.intro
   refine ⟨fun wq hSw=>?_,?_⟩
   ·obtain ⟨⟨g0,g1,g2,g3⟩,g4,g5,g6,g7,g8⟩:=hSw
    go_simp
    try with_reducible rfl
   (try simp only [Act.put,zD,zE,zF])
   refine qaf 3 rfl hHeld ?_
   apply Exists.intro
   refine ⟨fun wq hSw=>?_,?_⟩
   ·obtain ⟨⟨g0,g1,g2,g3⟩,g4,g5,g6,g7,g8⟩:=hSw
    go_simp
    try with_reducible rfl
   (try simp only [Act.put,zD,zE,zF])
   refine qaf 4 rfl hHeld ?_
   apply Exists.intro
   refine ⟨fun wq hSw=>?_,?_⟩
   ·obtain ⟨⟨g0,g1,g2,g3⟩,g4,g5,g6,g7,g8⟩:=hSw
    go_simp
    try with_reducible rfl
   (try simp only [Act.put,zD,zE,zF])
   refine qaf 5 rfl hHeld ?_
   apply Exists.intro
   refine ⟨fun wq hSw=>?_,?_⟩
   ·obtain ⟨⟨g0,g1,g2,g3⟩,g4,g5,g6,g7,g8⟩:=hSw
    go_simp
    try with_reducible rfl
   (try simp only [Act.put,zD,zE,zF])
   refine qaf 6 rfl hHeld ?_
   apply Exists.intro
   refine ⟨fun wq hSw=>?_,?_⟩
   ·obtain ⟨⟨g0,g1,g2,g3⟩,g4,g5,g6,g7,g8⟩:=hSw
    go_simp
    try with_reducible rfl
   (try simp only [Act.put,zD,zE,zF])
   refine qaf 7 rfl hHeld ?_
   apply Exists.intro
   refine ⟨fun wq hSw=>?_,?_⟩
   ·obtain ⟨⟨g0,g1,g2,g3⟩,g4,g5,g6,g7,g8⟩:=hSw
    go_simp
    try with_reducible rfl
   (try simp only [Act.put,zD,zE,zF])
   refine qaf 8 rfl hHeld ?_
   apply Exists.intro
   refine ⟨fun wq hSw=>?_,?_⟩
   ·obtain ⟨⟨g0,g1,g2,g3⟩,g4,g5,g6,g7,g8⟩:=hSw
    go_simp
    try with_reducible rfl
   (try simp only [Act.put,zD,zE,zF])
   refine qaf 9 rfl hHeld ?_
   apply Exists.intro
   refine ⟨fun wq hSw=>?_,?_⟩
   ·obtain ⟨⟨g0,g1,g2,g3⟩,g4,g5,g6,g7,g8⟩:=hSw
    go_simp
    try with_reducible rfl
   (try simp only [Act.put,zD,zE,zF])
   refine qaf 10 rfl hHeld ?_
   apply Exists.intro
   refine ⟨fun wq hSw=>?_,?_⟩
   ·obtain ⟨⟨g0,g1,g2,g3⟩,g4,g5,g6,g7,g8⟩:=hSw
    go_simp
    try with_reducible rfl
   (try simp only [Act.put,zD,zE,zF])
   refine qaf 11 rfl hHeld ?_
   apply Exists.intro
   refine ⟨fun wq hSw=>?_,?_⟩
   ·obtain ⟨⟨g0,g1,g2,g3⟩,g4,g5,g6,g7,g8⟩:=hSw
    go_simp
    try with_reducible rfl
   (try simp only [Act.put,zD,zE,zF])
   refine qaf 12 rfl hHeld ?_
   apply Exists.intro
   refine ⟨fun wq hSw=>?_,?_⟩
   ·obtain ⟨⟨g0,g1,g2,g3⟩,g4,g5,g6,g7,g8⟩:=hSw
    go_simp
    try with_reducible rfl
   (try simp only [Act.put,zD,zE,zF])
   refine qaf 13 rfl hHeld ?_
   apply Exists.intro
   refine ⟨fun wq hSw=>?_,?_⟩
   ·obtain ⟨⟨g0,g1,g2,g3⟩,g4,g5,g6,g7,g8⟩:=hSw
    go_simp
    try with_reducible rfl
   (try simp only [Act.put,zD,zE,zF])
   refine quz 14 18 rfl rfl (by kernel_rfl) (fun Kc hKc=>?_) (fun Kc hKc=>?_)
   ·refine qe5 rfl 43 _ _ rfl #[.agg #[.slice pa x.pn pc,.slice sa x.pn sc,.slice wa (x.pn*x.pn) wc,.slice ha x.pn hc],.int .i64 (p:Nat),.int .i64 (rdQ x.y (h j))] (by simp [Act.eval]) (yA Tryz.func43 (by kernel_rfl) rfl) (HSt.out w5.drew (K1.out.2.2.2.1.drew)) ?_
    rintro e w6 ⟨rfl,k6,kP,-⟩
    have hPb:P<w5.drew.heap.size:=K1.out.2.2.2.2
    have bP:BoxS w6 P (.int .i64 (p:Nat)) (.int .i64 (q:Nat)):=(K1.out.2.2.1.below q0).blk (kP P (Nat.le_refl _) hPb)
    refine ⟨_,rfl,?_⟩
    refine hKc.out _ _ (fun _=>HSS.out _ k6.k.rw k6.k.bx bP) ?_
    clear hKc Kc hHeld
    (try simp only [Act.put,zD,zE,zF])
    have hHeld:(fun w':World=>BoxC w' A (.slice pa x.pn pc) (.slice sa x.pn sc) (.slice wa (x.pn*x.pn) wc) (.slice ha x.pn hc)/\w'.cell? ⟨P,0,none⟩=some (.int .i64 (p:Nat))/\w'.cell? ⟨P,1,none⟩=some (.int .i64 (q:Nat))/\w'.cell? ⟨w.heap.size,3,none⟩=some (.slice (some ⟨bh,oh,none⟩) x.hn x.hc)/\w'.cell? ⟨bh,oh+p,none⟩=some (.slice (some ⟨be,oe,none⟩) (x.hL p) (x.hC p))/\w'.cell? ⟨be,oe+q*3+1,none⟩=some (.int .i64 (rdQ x.y (h j)))) w6:=HSS.out _ k6.k.rw k6.k.bx bP
    refine qb1 [15,16,17] ?_
    iterate 3 (refine qa9 rfl hHeld ?_;apply Exists.intro;refine ⟨fun wq hSw=>?_,?_⟩;(· ((try dsimp only at hSw);go_simp;try with_reducible rfl));(try simp only [Act.put,zD,zE,zF]))
    refine qbk ?_
    have ba:=zT w6 (zQ2)
    have bc:=zT w6 (oQ4 pa x.pn pc sa x.pn sc wa (x.pn*x.pn) wc ha x.pn hc)
    refine qao 18 rfl (by kernel_rfl) (fun Kc hKc=>?_)
    go_simp
    refine hKc.out _ _ (fun _=>HSS.out _ (k6.below ba).k.rw (k6.below ba).k.bx (bP.below ba)) ?_
    clear hKc Kc hHeld
    (try simp only [Act.put,zD,zE,zF])
    refine qao 19 rfl (by kernel_rfl) (fun Kc hKc=>?_)
    go_simp
    refine hKc.out _ _ (fun _=>HSS.out _ (k6.below bc).k.rw (k6.below bc).k.bx (bP.below bc)) ?_
    clear hKc Kc
    have hHeld:(fun w':World=>BoxC w' A (.slice pa x.pn pc) (.slice sa x.pn sc) (.slice wa (x.pn*x.pn) wc) (.slice ha x.pn hc)/\w'.cell? ⟨P,0,none⟩=some (.int .i64 (p:Nat))/\w'.cell? ⟨P,1,none⟩=some (.int .i64 (q:Nat))/\w'.cell? ⟨w.heap.size,3,none⟩=some (.slice (some ⟨bh,oh,none⟩) x.hn x.hc)/\w'.cell? ⟨bh,oh+p,none⟩=some (.slice (some ⟨be,oe,none⟩) (x.hL p) (x.hC p))/\w'.cell? ⟨be,oe+q*3+1,none⟩=some (.int .i64 (rdQ x.y (h j)))) (w6.alloc (oQ4 pa x.pn pc sa x.pn sc wa (x.pn*x.pn) wc ha x.pn hc)):=HSS.out _ (k6.below bc).k.rw (k6.below bc).k.bx (bP.below bc)
    (try simp only [Act.put,zD,zE,zF])
    refine qaf 20 rfl hHeld ?_
    apply Exists.intro
    refine ⟨fun wq hSw=>?_,?_⟩
    ·(try dsimp only at hSw)
     go_simp
     try with_reducible rfl
    (try simp only [Act.put,zD,zE,zF])
    refine qbe (by kernel_rfl) ?_ _
    have jj:RdJ w x B A (rdY x.y h (j+1)) (.slice pa x.pn pc) (.slice sa x.pn sc) (.slice wa (x.pn*x.pn) wc) (.slice ha x.pn hc) (w6.alloc (oQ4 pa x.pn pc sa x.pn sc wa (x.pn*x.pn) wc ha x.pn hc)):=k6.below bc
    have bb:BoxC (w6.alloc (oQ4 pa x.pn pc sa x.pn sc wa (x.pn*x.pn) wc ha x.pn hc)) w6.heap.size (.slice pa x.pn pc) (.slice sa x.pn sc) (.slice wa (x.pn*x.pn) wc) (.slice ha x.pn hc):=BoxC.new w6 _ _ _ _ _
    clear hHeld ba bc k6 kP bP HSS HSt
    generalize w6.alloc (oQ4 pa x.pn pc sa x.pn sc wa (x.pn*x.pn) wc ha x.pn hc)=w9 at *
    generalize w6.heap.size=N9 at *
    have K9:Hid (RdJ w x B A (rdY x.y h (j+1)) (.slice pa x.pn pc) (.slice sa x.pn sc) (.slice wa (x.pn*x.pn) wc) (.slice ha x.pn hc) w9/\(∀ i,i<j->rdC x.y h i=0)/\BoxC w9 N9 (.slice pa x.pn pc) (.slice sa x.pn sc) (.slice wa (x.pn*x.pn) wc) (.slice ha x.pn hc)):=⟨jj,K1.out.2.1,bb⟩
    clear jj bb K1 HCe HEh
    by_cases hc0:rdC x.y h j=0
    case neg=>
     have hne:(rdC x.y h j != 0)=true:=by simpa using hc0
     have HF:Hid (rdB x.y h n=false/\rdS x.y h n={ x.y with pn:=0,sn:=0,wn:=0,hn:=0 }):=⟨qej hlt hc0,qjd (qej hlt hc0)⟩
     generalize rdC x.y h j=cd at *
     obtain ⟨r0,r1,r2,r3⟩:=K9.out.1.k.rw.bo
     have rf:=K9.out.1.k.rw.fo
     clear hc0
     go_wp2
     exact bodyPost_ret (v:=.tuple #[sysV none 0 0 none 0 0 none 0 0 none 0 0,.bool false]) (by simp [results,Tryz.results11,go_sem,r0,r1,r2,r3]) rfl ⟨_,by rw [HF.out.1],by rw [HF.out.2];exact qbg.zero _ _ _,K9.out.1.k.rw.zero⟩
    have hne:(rdC x.y h j != 0)=false:=by simp [hc0]
    have K7 : Hid (RdJ w x B A (rdY x.y h (j + 1)) (.slice pa x.pn pc) (.slice sa x.pn sc) (.slice wa (x.pn * x.pn) wc) (.slice ha x.pn hc) ((((w9.setCell ⟨A, 0, none⟩ (.slice pa x.pn pc)).setCell ⟨A, 1, none⟩ (.slice sa x.pn sc)).setCell ⟨A, 2, none⟩ (.slice wa (x.pn * x.pn) wc)).setCell ⟨A, 3, none⟩ (.slice ha x.pn hc)) ∧ ∀ i, i < j + 1 → rdC x.y h i = 0) := ⟨K9.out.1.put4, fun i hi => by
     by_cases e:i=j
     ·subst e
      exact hc0
     ·exact K9.out.2.1 i (by omega)⟩
    rw [hc0] at hne ⊢
    obtain ⟨n0,n1,n2,n3⟩:=K9.out.2.2
    obtain ⟨a0',a1',a2',a3'⟩:=K9.out.1.k.bx
    have fA:=K9.out.1.fa
    clear hc0 K9
    go_wp2
    go_roundw
    case rel=>exact ⟨j+1,by omega,by go_num,K7.out⟩
    case measure=>simp [intOf];omega
   ·go_simp
    have ba:Below w5.heap.size w5 (w5.alloc (zQ2)).drew:=(zT w5 _).drew
    have bz:BoxC (w5.alloc (zQ2)).drew w5.heap.size (.slice none 0 0) (.slice none 0 0) (.slice none 0 0) (.slice none 0 0):=(BoxC.new w5 _ _ _ _ _).below (Below.refl _ _).drew
    have fz:∀ j,(w5.alloc (zQ2)).drew.frozen? ⟨w5.heap.size,j,none⟩=false:=fun j=>(World.frozen?_drew _ _).trans (yB _ _ _ _ rfl)
    have zz:w5.heap.size<(w5.alloc (zQ2)).drew.heap.size:=by simp
    have kz:=K1.out.1.below ba
    have bP:=K1.out.2.2.1.below ba
    have bw:=K1.out.2.2.2.1.trans (ba.mono (Nat.le_of_lt K1.out.2.2.2.2))
    have hPN:P<w5.heap.size:=K1.out.2.2.2.2
    refine hKc.out _ _ (fun _=>HSS.out _ kz.k.rw kz.k.bx bP) ?_
    clear hKc Kc hHeld ba
    (try simp only [Act.put,zD,zE,zF])
    generalize (w5.alloc (zQ2)).drew=wz at *
    generalize w5.heap.size=N9 at *
    refine qao 14 rfl (by kernel_rfl) (fun Kc hKc=>?_)
    refine qe5 rfl 43 _ _ rfl #[.agg #[.slice pa x.pn pc,.slice sa x.pn sc,.slice wa (x.pn*x.pn) wc,.slice ha x.pn hc],.int .i64 (p:Nat),.int .i64 (rdQ x.y (h j))] (by simp [Act.eval]) (yA Tryz.func43 (by kernel_rfl) rfl) (HSt.out wz bw) ?_
    rintro e w6 ⟨rfl,k6,kP,kN⟩
    have bP6:BoxS w6 P (.int .i64 (p:Nat)) (.int .i64 (q:Nat)):=bP.blk (kP P (Nat.le_refl _) (by omega))
    have hN6:=kP N9 (Nat.le_of_lt hPN) zz
    obtain ⟨z0,z1,z2,z3⟩:=bz.blkK hN6
    have fz6:∀ j,w6.frozen? ⟨N9,j,none⟩=false:=fun j=>(zI hN6).trans (fz j)
    have kS:=kN N9 (Nat.le_of_lt hPN) zz (.slice pa x.pn pc) (.slice sa x.pn sc) (.slice wa (x.pn*x.pn) wc) (.slice ha x.pn hc)
    have bPS : BoxS ((((w6.setCell ⟨N9, 0, none⟩ (.slice pa x.pn pc)).setCell ⟨N9, 1, none⟩ (.slice sa x.pn sc)).setCell ⟨N9, 2, none⟩ (.slice wa (x.pn * x.pn) wc)).setCell ⟨N9, 3, none⟩ (.slice ha x.pn hc)) P (.int .i64 (p : Nat)) (.int .i64 (q : Nat)) := bP6.blk (by
     have hPn:P≠N9:=by omega
     rw [zO _ _ _ _ hPn,zO _ _ _ _ hPn,zO _ _ _ _ hPn,zO _ _ _ _ hPn])
    have bb:BoxC ((((w6.setCell ⟨N9,0,none⟩ (.slice pa x.pn pc)).setCell ⟨N9,1,none⟩ (.slice sa x.pn sc)).setCell ⟨N9,2,none⟩ (.slice wa (x.pn*x.pn) wc)).setCell ⟨N9,3,none⟩ (.slice ha x.pn hc)) N9 (.slice pa x.pn pc) (.slice sa x.pn sc) (.slice wa (x.pn*x.pn) wc) (.slice ha x.pn hc):=⟨by go_cell,by go_cell,by go_cell,by go_cell⟩
    refine ⟨_,rfl,?_⟩
    refine hKc.out _ _ (fun _=>HSS.out _ k6.k.rw k6.k.bx bP6) ?_
    clear hKc Kc
    (try simp only [Act.put,zD,zE,zF])
    have hHeld:(fun w':World=>BoxC w' A (.slice pa x.pn pc) (.slice sa x.pn sc) (.slice wa (x.pn*x.pn) wc) (.slice ha x.pn hc)/\w'.cell? ⟨P,0,none⟩=some (.int .i64 (p:Nat))/\w'.cell? ⟨P,1,none⟩=some (.int .i64 (q:Nat))/\w'.cell? ⟨w.heap.size,3,none⟩=some (.slice (some ⟨bh,oh,none⟩) x.hn x.hc)/\w'.cell? ⟨bh,oh+p,none⟩=some (.slice (some ⟨be,oe,none⟩) (x.hL p) (x.hC p))/\w'.cell? ⟨be,oe+q*3+1,none⟩=some (.int .i64 (rdQ x.y (h j)))) w6:=HSS.out _ k6.k.rw k6.k.bx bP6
    refine qb1 [15,16,17] ?_
    iterate 3 (refine qa9 rfl hHeld ?_;apply Exists.intro;refine ⟨fun wq hSw=>?_,?_⟩;(· ((try dsimp only at hSw);go_simp;try with_reducible rfl));(try simp only [Act.put,zD,zE,zF]))
    refine qbk ?_
    clear hHeld
    have f0:=fz6 0
    have f1:=fz6 1
    have f2:=fz6 2
    have f3:=fz6 3
    refine qao 19 rfl (by kernel_rfl) (fun Kc hKc=>?_)
    go_simp
    refine hKc.out _ _ (fun _=>HSS.out _ kS.k.rw kS.k.bx bPS) ?_
    clear hKc Kc
    have hHeld:(fun w':World=>BoxC w' A (.slice pa x.pn pc) (.slice sa x.pn sc) (.slice wa (x.pn*x.pn) wc) (.slice ha x.pn hc)/\w'.cell? ⟨P,0,none⟩=some (.int .i64 (p:Nat))/\w'.cell? ⟨P,1,none⟩=some (.int .i64 (q:Nat))/\w'.cell? ⟨w.heap.size,3,none⟩=some (.slice (some ⟨bh,oh,none⟩) x.hn x.hc)/\w'.cell? ⟨bh,oh+p,none⟩=some (.slice (some ⟨be,oe,none⟩) (x.hL p) (x.hC p))/\w'.cell? ⟨be,oe+q*3+1,none⟩=some (.int .i64 (rdQ x.y (h j)))) ((((w6.setCell ⟨N9,0,none⟩ (.slice pa x.pn pc)).setCell ⟨N9,1,none⟩ (.slice sa x.pn sc)).setCell ⟨N9,2,none⟩ (.slice wa (x.pn*x.pn) wc)).setCell ⟨N9,3,none⟩ (.slice ha x.pn hc)):=HSS.out _ kS.k.rw kS.k.bx bPS
    (try simp only [Act.put,zD,zE,zF])
    refine qaf 20 rfl hHeld ?_
    apply Exists.intro
    refine ⟨fun wq hSw=>?_,?_⟩
    ·(try dsimp only at hSw)
     go_simp
     try with_reducible rfl
    (try simp only [Act.put,zD,zE,zF])
    refine qbe (by kernel_rfl) ?_ _
    have jj:RdJ w x B A (rdY x.y h (j+1)) (.slice pa x.pn pc) (.slice sa x.pn sc) (.slice wa (x.pn*x.pn) wc) (.slice ha x.pn hc) ((((w6.setCell ⟨N9,0,none⟩ (.slice pa x.pn pc)).setCell ⟨N9,1,none⟩ (.slice sa x.pn sc)).setCell ⟨N9,2,none⟩ (.slice wa (x.pn*x.pn) wc)).setCell ⟨N9,3,none⟩ (.slice ha x.pn hc)):=kS
    clear hHeld k6 kP kN kS kz bP bP6 bPS bw HSS HSt z0 z1 z2 z3 fz fz6 bz f0 f1 f2 f3 hN6 zz hPN q0
    generalize ((((w6.setCell ⟨N9,0,none⟩ (.slice pa x.pn pc)).setCell ⟨N9,1,none⟩ (.slice sa x.pn sc)).setCell ⟨N9,2,none⟩ (.slice wa (x.pn*x.pn) wc)).setCell ⟨N9,3,none⟩ (.slice ha x.pn hc))=w9 at *
    have K9:Hid (RdJ w x B A (rdY x.y h (j+1)) (.slice pa x.pn pc) (.slice sa x.pn sc) (.slice wa (x.pn*x.pn) wc) (.slice ha x.pn hc) w9/\(∀ i,i<j->rdC x.y h i=0)/\BoxC w9 N9 (.slice pa x.pn pc) (.slice sa x.pn sc) (.slice wa (x.pn*x.pn) wc) (.slice ha x.pn hc)):=⟨jj,K1.out.2.1,bb⟩
    clear jj bb K1 HCe HEh
    by_cases hc0:rdC x.y h j=0
    case neg=>
     have hne:(rdC x.y h j != 0)=true:=by simpa using hc0
     have HF:Hid (rdB x.y h n=false/\rdS x.y h n={ x.y with pn:=0,sn:=0,wn:=0,hn:=0 }):=⟨qej hlt hc0,qjd (qej hlt hc0)⟩
     generalize rdC x.y h j=cd at *
     obtain ⟨r0,r1,r2,r3⟩:=K9.out.1.k.rw.bo
     have rf:=K9.out.1.k.rw.fo
     clear hc0
     go_wp2
     exact bodyPost_ret (v:=.tuple #[sysV none 0 0 none 0 0 none 0 0 none 0 0,.bool false]) (by simp [results,Tryz.results11,go_sem,r0,r1,r2,r3]) rfl ⟨_,by rw [HF.out.1],by rw [HF.out.2];exact qbg.zero _ _ _,K9.out.1.k.rw.zero⟩
    have hne:(rdC x.y h j != 0)=false:=by simp [hc0]
    have K7 : Hid (RdJ w x B A (rdY x.y h (j + 1)) (.slice pa x.pn pc) (.slice sa x.pn sc) (.slice wa (x.pn * x.pn) wc) (.slice ha x.pn hc) ((((w9.setCell ⟨A, 0, none⟩ (.slice pa x.pn pc)).setCell ⟨A, 1, none⟩ (.slice sa x.pn sc)).setCell ⟨A, 2, none⟩ (.slice wa (x.pn * x.pn) wc)).setCell ⟨A, 3, none⟩ (.slice ha x.pn hc)) ∧ ∀ i, i < j + 1 → rdC x.y h i = 0) := ⟨K9.out.1.put4, fun i hi => by
     by_cases e:i=j
     ·subst e
      exact hc0
     ·exact K9.out.2.1 i (by omega)⟩
    rw [hc0] at hne ⊢
    obtain ⟨n0,n1,n2,n3⟩:=K9.out.2.2
    obtain ⟨a0',a1',a2',a3'⟩:=K9.out.1.k.bx
    have fA:=K9.out.1.fa
    clear hc0 K9
    go_wp2
    go_roundw
    case rel=>exact ⟨j+1,by omega,by go_num,K7.out⟩
    case measure=>simp [intOf];omega
