import Derived.Test.YtnfdnnmddadmkaaGreatDoorOg43
import Derived.Test.YtnfdnnmddadmkaaGreatDoorOg44
namespace Go.Proofs.YtnfdnnmddadmkaaGreatDoor
set_option maxRecDepth 100000
set_option maxHeartbeats 4000000
open Go.ChangeShapes Go.WideShapes Go.ChangeAt Go.RowKit Go.Deep Go.Sort
theorem Sl.all {w:World} {a0:Option Addr} {xs:List Int} (h:Sl w a0 xs) (hn:0<xs.length):∃ b off,a0=some ⟨b,off,none⟩/\b<w.heap.size/\∀ i,i<xs.length->w.cell? ⟨b,off+i,none⟩=some (.int .i64 (zi xs i)):=by
 rcases h with rfl | h
 ·simp at hn
 ·exact h
theorem RowS.all {w:World} {a0:Option Addr} {n:Nat} {f:Nat->Value} (h:RowS w a0 n f) (hn:0<n):∃ b off,a0=some ⟨b,off,none⟩/\b<w.heap.size/\∀ i,i<n->w.cell? ⟨b,off+i,none⟩=some (f i):=by
 rcases h with rfl | h
 ·omega
 ·exact h
def dL (d:Nat->Nat) (n:Nat):List Int:=(List.range n).map fun i=>((d i:Nat):Int)
theorem qhc (d:Nat->Nat) (n:Nat):(dL d n).length=n:=by simp [dL]
theorem qud (d:Nat->Nat) {n i:Nat} (h:i<n):zi (dL d n) i=(d i:Nat):=by
 unfold zi dL
 simp [h]
theorem qpv (n:Nat):dL (fun _=>0) n=List.replicate n 0:=by
 refine List.ext_getElem (by simp [dL]) fun i h1 h2=>?_
 simp [dL]
theorem qvb (d:Nat->Nat) {n p:Nat} (_:p<n):(dL d n).set p ((d p:Int)+1)=dL (up d p) n:=by
 refine List.ext_getElem (by simp [dL]) fun i h1 h2=>?_
 simp only [dL,List.getElem_set,List.getElem_map,List.getElem_range]
 by_cases e:p=i
 ·subst e
  rw [if_pos rfl,qbk]
  omega
 ·rw [if_neg e,up_other (fun h=>e h.symm)]
theorem Sl.cell0 {w:World} {b:Nat} {xs:List Int} (h:Sl w (some ⟨b,0,none⟩) xs) {k:Nat} (hk:k<xs.length):w.cell? ⟨b,k,none⟩=some (.int .i64 (zi xs k)):=by
 obtain ⟨b',o',e,-,c⟩:=h.at hk
 obtain ⟨rfl,rfl⟩:b=b'/\0=o':=by simpa using e
 rw [Nat.zero_add] at c
 exact c
theorem qh7 (x:SysIn) (g dc p:Nat) (d:Nat->Nat) (w:World) (hG:SysG w x) (hcap:∀ i,i<x.hn->x.hL i<=x.hC i) (hO:x.y.Ok) (hS:Sl w (some ⟨g,0,none⟩) (dL d x.pn)) (hd:∀ i,d i<=x.y.hL i) (hp:p<x.pn):
  Calls Tryz.prog 49 #[x.v,.slice (some ⟨g,0,none⟩) x.pn dc,.int .i64 p] w fun e w'=>e=.returned (.bool (qB (x.y.hs.Can d p)))/\Below w.heap.size w w':=by
 have h4:(x.pn:Int)<=4:=by have:=hO.cn.1.2;have h9:x.y.pn=x.pn:=rfl;omega
 have hp':(p:Int)<(x.pn:Int):=by omega
 have hhn:x.hn=x.pn:=hO.cn.2.2.1
 have HG:Hid (SysG w x):=hG
 have HSn:Hid (d p<x.hL p->∀ wx,Below w.heap.size w wx->Calls Tryz.prog 114 #[x.v,.int .i64 p,.int .i64 (d p:Nat)] wx fun e w'=>e=.returned (.int .i64 (sndN x.y p (d p)))/\Below wx.heap.size wx w'):=fun hi wx hb=>qgk x p (d p) wx (hG.below hb) hcap hO hp hi
 have HC:Hid (d p<x.hL p->(x.y.hs.Can d p ↔ ∀ s,sdr x.y p (d p)=some s->s.2<d s.1)):=fun hi=>qbm hO hp hi
 have HAt:Hid (∀ s,d p<x.hL p->sdr x.y p (d p)=some s->(x.y.hH p (d p)).q=(s.1:Int)/\s.1<x.pn/\sndN x.y p (d p)=(s.2:Int)):=fun s hi hs=>by
  have h9:=qlb hO (show p<x.y.pn from hp) (show d p<x.y.hL p from hi) hs
  exact ⟨h9.2.1,h9.2.2.1,h9.2.2.2.2.1⟩
 have HNo:Hid (sdr x.y p (d p)=none->sndN x.y p (d p) = -1):=fun hs=>if_neg (qg0 hs)
 have hl200:(x.hL p:Int)<=200:=by have:=hO.hl200 (p:=p) hp;have h9:x.y.hL p=x.hL p:=rfl;omega
 have hdp:(d p:Int)<=(x.hL p:Int):=by have:=hd p;have h9:x.y.hL p=x.hL p:=rfl;omega
 obtain ⟨bh,oh,eh,ch⟩:=hG.h.at (k:=p) (by rw [hhn];exact hp)
 have HB:Hid (Below w.heap.size w (w.alloc (oQ4 x.pa x.pn x.pc x.sa x.sn x.sc x.wa x.wn x.wc x.ha x.hn x.hc))):=zT _ _
 have HX:Hid (BoxC (w.alloc (oQ4 x.pa x.pn x.pc x.sa x.sn x.sc x.wa x.wn x.wc x.ha x.hn x.hc)) w.heap.size (.slice x.pa x.pn x.pc) (.slice x.sa x.sn x.sc) (.slice x.wa x.wn x.wc) (.slice x.ha x.hn x.hc)):=BoxC.new w _ _ _ _ _
 have HS:Hid (∀ wx,Below w.heap.size w wx->∀ i,i<x.pn->wx.cell? ⟨g,i,none⟩=some (.int .i64 (d i:Nat))):=fun wx hb i hi=>by
  have h9:=Sl.cell0 (hS.below hb) (k:=i) (by rw [qhc];exact hi)
  rw [qud d hi] at h9
  exact h9
 have HCh:Hid (∀ wx,Below w.heap.size w wx->wx.cell? ⟨bh,oh+p,none⟩=some (.slice (x.hA p) (x.hL p) (x.hC p))):=fun wx hb=>(hb.cell (zJ w _ ch)).trans ch
 have hhn':(p:Int)<(x.hn:Int):=by rw [hhn];exact hp'
 have HEv:Hid (d p<x.hL p->∃ be oe,x.hA p=some ⟨be,oe,none⟩/\∀ wx,Below w.heap.size w wx->wx.cell? ⟨be,oe+d p*3+1,none⟩=some (.int .i64 (x.y.hH p (d p)).q)):=fun hi=>by
  obtain ⟨be,oe,ee,ze,-,c1,-⟩:=(hG.hi p (by rw [hhn];exact hp)).at hi
  exact ⟨be,oe,ee,fun wx hb=>(hb.cell ze).trans c1⟩
 have HEh:Hid (x.ha=some ⟨bh,oh,none⟩):=eh
 clear hG hcap hO hS hd ch hhn eh
 go_enter Tryz.func49,Tryz.ntmps49
 go_upto_region 1 with fail
 generalize w.alloc (oQ4 x.pa x.pn x.pc x.sa x.sn x.sc x.wa x.wn x.wc x.ha x.hn x.hc)=W1 at *
 obtain ⟨-,-,-,k3⟩:=HX.out
 rw [HEh.out] at k3
 have sd:=HS.out W1 HB.out p hp
 have ch:=HCh.out W1 HB.out
 have k3':=cell_regrown k3
 have sd':=cell_regrown sd
 have ch':=cell_regrown ch
 by_cases hfull:d p<x.hL p
 case neg=>
  have hge:(x.hL p:Int)<=(d p:Int):=by omega
  have HR:Hid (qB (x.y.hs.Can d p)=false):=qap fun h=>hfull h.1
  refine wp_region_quiet_below (by kernel_rfl) (by kernel_rfl) ?_
  repeat (quiet_step (fail))
  refine wpQuiet_nil ?_
  intro _ hw'
  obtain ⟨⟨dq,osq⟩,hw''⟩:=hw'
  subst hw''
  have B2:Hid (Below w.heap.size w (grow (redrawn W1 dq) osq)):=HB.out.trans ((below_regrown W1 dq osq).mono HB.out.size)
  generalize grow (redrawn W1 dq) osq=W2 at *
  clear k3 sd ch k3' sd' ch' HC HAt HNo HSn HEv
  go_wp2
  go_ret
  exact ⟨by rw [HR.out];rfl,B2.out⟩
 have hlt':¬ (x.hL p:Int)<=(d p:Int):=by omega
 obtain ⟨be,oe,ee,hev⟩:=HEv.out hfull
 have HV:Hid (∀ wx,Below w.heap.size w wx->wx.cell? ⟨be,oe+d p*3+1,none⟩=some (.int .i64 (x.y.hH p (d p)).q)):=hev
 have HEe:Hid (x.hA p=some ⟨be,oe,none⟩):=ee
 have HLt:Hid (d p<x.hL p):=hfull
 have hdl:(d p:Int)<(x.hL p:Int):=by omega
 clear hev ee hfull HEv
 refine wp_region_quiet_below (by kernel_rfl) (by kernel_rfl) ?_
 repeat (quiet_step (fail))
 refine wpQuiet_nil ?_
 intro _ hw'
 obtain ⟨⟨dq,osq⟩,hw''⟩:=hw'
 subst hw''
 have B2:Hid (Below w.heap.size w (grow (redrawn W1 dq) osq)/\BoxC (grow (redrawn W1 dq) osq) w.heap.size (.slice x.pa x.pn x.pc) (.slice x.sa x.sn x.sc) (.slice x.wa x.wn x.wc) (.slice x.ha x.hn x.hc)):=⟨HB.out.trans ((below_regrown W1 dq osq).mono HB.out.size),HX.out.below (below_regrown W1 dq osq)⟩
 generalize grow (redrawn W1 dq) osq=W2 at *
 clear k3 sd ch k3' sd' ch' HB HX W1
 obtain ⟨k0,k1,k2,k3⟩:=B2.out.2
 have sd:=HS.out W2 B2.out.1 p hp
 have k0':=cell_regrown k0
 have k1':=cell_regrown k1
 have k2':=cell_regrown k2
 have k3':=cell_regrown k3
 have sd':=cell_regrown sd
 have HSn2:Hid (∀ dd os,Calls Tryz.prog 114 #[x.v,.int .i64 p,.int .i64 (d p:Nat)] (grow (redrawn W2 dd) os) fun e w'=>e=.returned (.int .i64 (sndN x.y p (d p)))/\Below (grow (redrawn W2 dd) os).heap.size (grow (redrawn W2 dd) os) w'):=fun dd os=>HSn.out HLt.out _ (B2.out.1.trans ((below_regrown W2 dd os).mono B2.out.1.size))
 go_upto_region 3 with fail
 refine wp_region_quiet_below (by kernel_rfl) (by kernel_rfl) ?_
 repeat (quiet_step (first|(go_at_call 114;exact Calls.regrown_of (HSn2.out _ _))))
 refine wpQuiet_nil ?_
 intro _ hw'
 obtain ⟨⟨dq,osq⟩,hw''⟩:=hw'
 subst hw''
 have B3:Hid (Below w.heap.size w (grow (redrawn W2 dq) osq)/\BoxC (grow (redrawn W2 dq) osq) w.heap.size (.slice x.pa x.pn x.pc) (.slice x.sa x.sn x.sc) (.slice x.wa x.wn x.wc) (.slice x.ha x.hn x.hc)):=⟨B2.out.1.trans ((below_regrown W2 dq osq).mono B2.out.1.size),B2.out.2.below (below_regrown W2 dq osq)⟩
 generalize grow (redrawn W2 dq) osq=W3 at *
 clear k0 k1 k2 k3 sd k0' k1' k2' k3' sd' HSn2 B2 W2 HSn
 go_upto_region 4 with fail
 obtain ⟨-,-,-,k3⟩:=B3.out.2
 rw [HEh.out] at k3
 have sd:=HS.out W3 B3.out.1 p hp
 have ch:=HCh.out W3 B3.out.1
 rw [HEe.out] at ch
 have ev:=HV.out W3 B3.out.1
 have k3':=cell_regrown k3
 have sd':=cell_regrown sd
 have ch':=cell_regrown ch
 have ev':=cell_regrown ev
 cases hsd:sdr x.y p (d p) with
 | none=>
  have HR:Hid (qB (x.y.hs.Can d p)=true):=qax ((HC.out HLt.out).2 fun s hs=>by rw [hsd] at hs;cases hs)
  rw [HNo.out hsd]
  clear HC HAt HNo hsd ev ev' HV
  refine wp_region_quiet_below (by kernel_rfl) (by kernel_rfl) ?_
  repeat (first | go_big_quiet_skip | quiet_step (fail))
  refine wpQuiet_nil ?_
  intro _ hw'
  obtain ⟨⟨dq,osq⟩,hw''⟩:=hw'
  subst hw''
  have B4:Hid (Below w.heap.size w (grow (redrawn W3 dq) osq)):=B3.out.1.trans ((below_regrown W3 dq osq).mono B3.out.1.size)
  generalize grow (redrawn W3 dq) osq=W4 at *
  clear k3 sd ch k3' sd' ch'
  go_wp2
  go_ret
  exact ⟨by rw [HR.out];rfl,B4.out⟩
 | some s=>
  obtain ⟨e1,e2,e3⟩:=HAt.out s HLt.out hsd
  have HR:Hid (qB (x.y.hs.Can d p)=decide (s.2<d s.1)):=by
   show _=_
   by_cases h9:s.2<d s.1
   ·rw [qax ((HC.out HLt.out).2 fun t ht=>by rw [hsd] at ht;cases ht;exact h9),decide_eq_true (by omega)]
   ·rw [qap fun h=>h9 ((HC.out HLt.out).1 h s hsd),decide_eq_false (by omega)]
  rw [e1] at ev ev'
  rw [e3]
  have ds:=HS.out W3 B3.out.1 s.1 e2
  have ds':=cell_regrown ds
  obtain ⟨s1,s2⟩:=s
  have hs1:(s1:Int)<(x.pn:Int):=by have e2:s1<x.pn:=e2;omega
  have hs20:¬ (s2:Int)<0:=by omega
  clear HC HAt HNo hsd HV e1 e2 e3
  simp only at ev ev' ds ds' HR ⊢
  refine wp_region_quiet_below (by kernel_rfl) (by kernel_rfl) ?_
  repeat (first | go_big_quiet_skip | quiet_step (fail))
  refine wpQuiet_nil ?_
  intro _ hw'
  obtain ⟨⟨dq,osq⟩,hw''⟩:=hw'
  subst hw''
  have B4:Hid (Below w.heap.size w (grow (redrawn W3 dq) osq)):=B3.out.1.trans ((below_regrown W3 dq osq).mono B3.out.1.size)
  generalize grow (redrawn W3 dq) osq=W4 at *
  clear k3 sd ch k3' sd' ch' ev ev' ds ds'
  go_wp2
  go_ret
  exact ⟨by rw [HR.out];rfl,B4.out⟩
structure Rk (w:World) (x:SysIn) (g:Nat) (d:Nat->Nat) (wr:World):Prop where
 be:Below w.heap.size w wr
 bs:BoxC wr w.heap.size (.slice x.pa x.pn x.pc) (.slice x.sa x.sn x.sc) (.slice x.wa x.wn x.wc) (.slice x.ha x.hn x.hc)
 ow:OwnI wr (w.heap.size+1) (.slice (some ⟨g,0,none⟩) x.pn x.pn) (dL d x.pn)
theorem Rk.lt {w:World} {x:SysIn} {g:Nat} {d:Nat->Nat} {wr:World} (h:Rk w x g d wr):w.heap.size+1<=g/\g<wr.heap.size:=h.ow.lt g rfl
theorem Rk.below {w:World} {x:SysIn} {g:Nat} {d:Nat->Nat} {wr w':World} (h:Rk w x g d wr) (hb:Below wr.heap.size wr w'):Rk w x g d w':=⟨h.be.trans (hb.mono h.be.size),h.bs.below hb,h.ow.below hb⟩
theorem Rk.cell {w:World} {x:SysIn} {g:Nat} {d:Nat->Nat} {wr:World} (h:Rk w x g d wr) {p:Nat} (hp:p<x.pn):wr.cell? ⟨g,p,none⟩=some (.int .i64 (d p:Nat))/\wr.frozen? ⟨g,p,none⟩=false:=by
 have ho:=h.ow
 have hc:=Sl.cell0 ho.slOf (k:=p) (by rw [qhc];exact hp)
 rw [qud d hp] at hc
 have ho':OwnI wr (w.heap.size+1) (.slice (some ⟨g,0,none⟩) (dL d x.pn).length x.pn) (dL d x.pn):=by rw [qhc];exact ho
 exact ⟨hc,ho'.frozen p⟩
theorem Rk.put {w:World} {x:SysIn} {g:Nat} {d:Nat->Nat} {wr:World} (h:Rk w x g d wr) {p:Nat} (hp:p<x.pn):Rk w x g (up d p) (wr.setCell ⟨g,p,none⟩ (.int .i64 ((d p:Int)+1))):=by
 have hg:=h.lt
 obtain ⟨h0,h1,h2,h3⟩:=h.bs
 have hc:∀ i,(wr.setCell ⟨g,p,none⟩ (.int .i64 ((d p:Int)+1))).cell? ⟨w.heap.size,i,none⟩=wr.cell? ⟨w.heap.size,i,none⟩:=fun i=>World.cell?_setCell_other _ _ _ _ (by intro e;injection e with e;omega)
 refine ⟨h.be.setCell (by simp;omega) _,⟨(hc _).trans h0,(hc _).trans h1,(hc _).trans h2,(hc _).trans h3⟩,?_⟩
 have h9:=(h.ow.set (qhc _ _).symm p ((d p:Int)+1)).1
 rw [qvb d hp] at h9
 exact h9
theorem qjl (x:SysIn) (la:Option Addr) (n lc:Nat) (h:Nat->Wo2) (w:World) (hG:SysG w x) (hL:x.Len) (hcap:∀ i,i<x.hn->x.hL i<=x.hC i) (hW:WoL w la n h) (hn:n<=1048576):
  Calls Tryz.prog 15 #[x.v,.slice la n lc] w fun e w'=>e=.returned (.bool (rwB x.y h n))/\Below w.heap.size w w':=by
 have HSo:Hid (∀ wx,Below w.heap.size w wx->Calls Tryz.prog 48 #[x.v] wx fun e w'=>e=.returned (.bool x.y.okB)/\Below wx.heap.size wx w'):=fun wx hb=>qbz x wx (hG.below hb) hL hcap
 have HCn:Hid (x.y.Ok->∀ g p d wr,Rk w x g d wr->(∀ i,d i<=x.y.hL i)->p<x.pn->∀ wx,Below wr.heap.size wr wx->Calls Tryz.prog 49 #[x.v,.slice (some ⟨g,0,none⟩) x.pn x.pn,.int .i64 (p:Nat)] wx fun e w'=>e=.returned (.bool (qB (x.y.hs.Can d p)))/\Below wx.heap.size wx w'):=fun hO g p d wr hr hd hp wx hb=>qh7 x g x.pn p d wx (hG.below (hr.below hb).be) hcap hO (hr.below hb).ow.slOf hd hp
 have HW:Hid (∀ wx,Below w.heap.size w wx->WoL wx la n h):=fun wx hb=>hW.below hb
 have HHs:Hid (x.y.Ok->∃ bh oh,x.ha=some ⟨bh,oh,none⟩/\∀ wx,Below w.heap.size w wx->∀ j,j<x.pn->wx.cell? ⟨bh,oh+j,none⟩=some (.slice (x.hA j) (x.hL j) (x.hC j))):=fun hO=>by
  have h1:1<=x.pn:=hO.cn.1.1
  have hhn:x.hn=x.pn:=hO.cn.2.2.1
  rcases hG.h with h9 | ⟨b,off,e,hb,hc⟩
  ·omega
  ·exact ⟨b,off,e,fun wx hbl j hj=>(hbl.cell hb).trans (hc j (by omega))⟩
 have HR:Hid (rwB x.y h n=(x.y.okB && qB (x.y.hs.RwOk h n))):=rfl
 have hn':(n:Int)<=1048576:=by omega
 have B0:Hid (Below w.heap.size w (w.alloc (oQ4 x.pa x.pn x.pc x.sa x.sn x.sc x.wa x.wn x.wc x.ha x.hn x.hc))):=zT _ _
 have X0:Hid (BoxC (w.alloc (oQ4 x.pa x.pn x.pc x.sa x.sn x.sc x.wa x.wn x.wc x.ha x.hn x.hc)) w.heap.size (.slice x.pa x.pn x.pc) (.slice x.sa x.sn x.sc) (.slice x.wa x.wn x.wc) (.slice x.ha x.hn x.hc)):=BoxC.new w _ _ _ _ _
 clear hG hL hcap hW hn
 go_enter Tryz.func15,Tryz.ntmps15
 go_wp2_with fail
 generalize w.alloc (oQ4 x.pa x.pn x.pc x.sa x.sn x.sc x.wa x.wn x.wc x.ha x.hn x.hc)=W1 at *
 refine (HSo.out W1 B0.out).mono ?_
 rintro e w2 ⟨rfl,b2⟩
 have B2:Hid (Below w.heap.size w w2/\BoxC w2 w.heap.size (.slice x.pa x.pn x.pc) (.slice x.sa x.sn x.sc) (.slice x.wa x.wn x.wc) (.slice x.ha x.hn x.hc)):=⟨B0.out.trans (b2.mono B0.out.size),X0.out.below b2⟩
 clear b2 B0 X0 HSo
 by_cases hok:x.y.okB=true
 case neg=>
  have hok':x.y.okB=false:=by simpa using hok
  rw [hok'] at HR ⊢
  go_wp2
  go_ret
  exact ⟨by rw [HR.out];rfl,B2.out.1⟩
 rw [hok] at HR ⊢
 have HO:Hid (x.y.Ok):=Sy.ok_of hok
 have hhn:x.hn=x.pn:=HO.out.cn.2.2.1
 have H4:Hid (x.pn<=4/\1<=x.pn/\x.hn=x.pn):=⟨HO.out.cn.1.2,HO.out.cn.1.1,hhn⟩
 have h4:(x.pn:Int)<=4:=by have:=H4.out.1;omega
 have h1:(1:Int)<=(x.pn:Int):=by have:=H4.out.2.1;omega
 have hmk:=qca x.pn (by have:=H4.out.1;omega)
 have O3:Hid (Rk w x w2.heap.size (fun _=>0) (w2.alloc (.cells (madeCells #[.int .i64 0] x.pn) 3))):=by
  have h9:=qeh w2 x.pn (by have:=H4.out.1;omega)
  rw [<- qpv] at h9
  exact ⟨B2.out.1.trans ((zT _ _).mono B2.out.1.size),B2.out.2.below (zT _ _),h9.mono (zJ _ _ B2.out.2.1)⟩
 obtain ⟨bh,oh,eh,hch⟩:=HHs.out HO.out
 have HHa:Hid (x.ha=some ⟨bh,oh,none⟩/\∀ wx,Below w.heap.size w wx->∀ j,j<x.pn->wx.cell? ⟨bh,oh+j,none⟩=some (.slice (x.hA j) (x.hL j) (x.hC j))):=⟨eh,hch⟩
 obtain ⟨-,-,-,k3⟩:=B2.out.2
 rw [hhn] at k3
 clear hok eh hch HHs hhn
 go_upto_region 4 with fail
 clear k3 hmk B2
 generalize w2.alloc (.cells (madeCells #[.int .i64 0] x.pn) 3)=w3 at *
 generalize w2.heap.size=g at *
 go_wp2_with fail
 go_loopw [6] (fun i wr=>∃ k:Nat,k<=n/\i=.int .i64 k/\Hid (Rk w x g (tnD (rwF h) k) wr/\∀ j,j<k->x.y.hs.RwAt h j)) (fun i _=>n - (intOf i).toNat)
 case atStart=>exact ⟨0,Nat.zero_le _,rfl,O3.out,fun j hj=>by omega⟩
 case round=>
  clear O3
  rename World=>wr
  obtain ⟨k,hk,rfl,HF⟩:=hrel
  by_cases hlt:k<n
  case neg=>
   have HK:Hid (k=n):=by show k=n;omega
   go_wp2_with fail
   go_loopw [8] (fun i wi=>∃ j:Nat,j<=x.pn/\i=.int .i64 j/\Hid (Rk w x g (tnD (rwF h) k) wi/\(∀ j,j<k->x.y.hs.RwAt h j)/\∀ q,q<j->tnD (rwF h) k q=x.y.hs.l q)) (fun i _=>x.pn - (intOf i).toNat)
   case atStart=>exact ⟨0,Nat.zero_le _,rfl,HF.out.1,HF.out.2,fun j hj=>by omega⟩
   case round=>
    clear HF
    rename World=>wi
    obtain ⟨j,hj,rfl,HF⟩:=hrel
    by_cases hjt:j<x.pn
    case neg=>
     have HT:Hid (rwB x.y h n=true/\Below w.heap.size w wi):=by
      refine ⟨?_,HF.out.1.be⟩
      rw [HR.out,qax ⟨by rw [<- HK.out];exact HF.out.2.1,fun p hp=>by rw [<- HK.out];exact HF.out.2.2 p (by have hp:p<x.pn:=hp;omega)⟩]
      rfl
     clear HF HK HR
     go_wp2
     go_ret
     exact ⟨by rw [HT.out.1];rfl,HT.out.2⟩
    have hjt':(j:Int)<(x.pn:Int):=by omega
    have hjn:(j:Int)<(x.hn:Int):=by rw [H4.out.2.2];exact hjt'
    obtain ⟨-,-,-,k3⟩:=HF.out.1.bs
    rw [HHa.out.1] at k3
    have ch:=HHa.out.2 wi HF.out.1.be j hjt
    have sd:=(HF.out.1.cell hjt).1
    have k3':=cell_regrown k3
    have ch':=cell_regrown ch
    have sd':=cell_regrown sd
    have HL:Hid (x.y.hs.l j=x.hL j):=rfl
    have HF2 : Hid (∀ w', Below wi.heap.size wi w' → tnD (rwF h) k j = x.y.hs.l j → Rk w x g (tnD (rwF h) k) w' ∧ (∀ j, j < k → x.y.hs.RwAt h j) ∧ ∀ q, q < j + 1 → tnD (rwF h) k q = x.y.hs.l q) := fun w' hb he => ⟨HF.out.1.below hb, HF.out.2.1, fun q hq => by
     by_cases e:q=j
     ·subst e
      exact he
     ·exact HF.out.2.2 q (by omega)⟩
    have HN2:Hid (tnD (rwF h) k j≠x.y.hs.l j->rwB x.y h n=false):=fun he=>by
     rw [HR.out,qap fun h9=>he (by have:=h9.2 j hjt;rw [<- HK.out] at this;exact this)]
     rfl
    generalize hdj:tnD (rwF h) k j=dj at *
    by_cases hne:dj=x.hL j
    case neg=>
     have HT:Hid (rwB x.y h n=false):=HN2.out hne
     have he9:((dj:Int) != (x.hL j:Int))=true:=by
      have:¬ (dj:Int)=(x.hL j:Int):=by omega
      simpa using this
     clear hdj hne HN2 HF2
     go_upto_region 14 with fail
     refine wp_region_quiet_below (by kernel_rfl) (by kernel_rfl) ?_
     repeat (quiet_step (fail))
     refine wpQuiet_nil ?_
     intro _ hw'
     obtain ⟨⟨dq,osq⟩,hw''⟩:=hw'
     subst hw''
     have B4:Hid (Below w.heap.size w (grow (redrawn wi dq) osq)):=(HF.out.1.below (below_regrown wi dq osq)).be
     generalize grow (redrawn wi dq) osq=w4 at *
     clear k3 sd ch k3' sd' ch' HF
     go_wp2
     go_ret
     exact ⟨by rw [HT.out];rfl,B4.out⟩
    have he9:((dj:Int) != (x.hL j:Int))=false:=by simp [hne]
    have HE9:Hid (dj=x.y.hs.l j):=hne
    clear hdj hne HN2
    go_upto_region 14 with fail
    refine wp_region_quiet_below (by kernel_rfl) (by kernel_rfl) ?_
    repeat (quiet_step (fail))
    refine wpQuiet_nil ?_
    intro _ hw'
    obtain ⟨⟨dq,osq⟩,hw''⟩:=hw'
    subst hw''
    have B4:Hid (Rk w x g (tnD (rwF h) k) (grow (redrawn wi dq) osq)/\(∀ j,j<k->x.y.hs.RwAt h j)/\∀ q,q<j+1->tnD (rwF h) k q=x.y.hs.l q):=HF2.out _ (below_regrown wi dq osq) HE9.out
    generalize grow (redrawn wi dq) osq=w4 at *
    clear k3 sd ch k3' sd' ch' HF HF2
    go_wp2
    go_roundw
    case rel=>exact ⟨j+1,by omega,by go_num,B4.out⟩
    case measure=>simp [intOf];omega
  have hlt':(k:Int)<(n:Int):=by omega
  obtain ⟨b,off,rfl,-,c0,c1⟩:=(HW.out wr HF.out.1.be).at hlt
  have F2:Hid (Rk w x g (tnD (rwF h) k) (wr.alloc (oQ5 (h k).m (h k).v))/\(∀ j,j<k->x.y.hs.RwAt h j)/\BoxS (wr.alloc (oQ5 (h k).m (h k).v)) wr.heap.size (.int .i64 (h k).m) (.int .i64 (h k).v)):=⟨HF.out.1.below (zT _ _),HF.out.2,BoxS.new wr _ _ _⟩
  have LZ:Hid (g<wr.heap.size):=HF.out.1.lt.2
  go_upto_region 8 with fail
  clear c0 c1 HF
  generalize wr.heap.size=S at *
  generalize wr.alloc (oQ5 (h k).m (h k).v)=w5 at *
  clear wr
  obtain ⟨k0,k1,k2,k3⟩:=F2.out.1.bs
  obtain ⟨s0,s1⟩:=F2.out.2.2
  have HNo:Hid (¬ x.y.hs.RwAt h k->rwB x.y h n=false):=fun h9=>by
   rw [HR.out,qap (Hs.rw_no hlt h9)]
   rfl
  have k0':=cell_regrown k0
  have k1':=cell_regrown k1
  have k2':=cell_regrown k2
  have k3':=cell_regrown k3
  have s0':=cell_regrown s0
  have s1':=cell_regrown s1
  by_cases hin:0<=(h k).m/\(h k).m<=(x.pn:Int) - 1
  case neg=>
   have hib:inB (h k).m 0 ((x.pn:Int) - 1)=false:=by simpa [inB] using hin
   have HIn:Hid (∀ wx,Calls Tryz.prog 41 #[.int .i64 (h k).m,.int .i64 0,.int .i64 ((x.pn:Int) - 1)] wx fun e w'=>e=.returned (.bool false)/\w'=wx):=fun wx=>by
    have h9:=l1In_any (h k).m 0 ((x.pn:Int) - 1) wx
    rwa [hib] at h9
   have HInW:Hid (∀ wx,Calls Tryz.prog 41 #[.int .i64 (h k).m,.int .i64 0,.int .i64 (IntKind.i64.wrap ((x.pn:Int) - 1))] wx fun e w'=>e=.returned (.bool false)/\w'=wx):=fun wx=>by
    have hw:IntKind.i64.wrap ((x.pn:Int) - 1)=(x.pn:Int) - 1:=by rw [IntKind.wrap_i64];omega
    rw [hw]
    exact HIn.out wx
   clear hib
   have HT:Hid (rwB x.y h n=false):=HNo.out fun ⟨p,hp,e1,_⟩=>hin (by have hp:p<x.pn:=hp;omega)
   clear hin
   refine wp_region_quiet_below (by kernel_rfl) (by kernel_rfl) ?_
   repeat (first | go_big_quiet_skip | quiet_step (first|(go_at_call 41;exact Calls.regrown_same (HInW.out _))))
   refine wpQuiet_nil ?_
   intro _ hw'
   obtain ⟨⟨dq,osq⟩,hw''⟩:=hw'
   subst hw''
   have B6:Hid (Below w.heap.size w (grow (redrawn w5 dq) osq)):=(F2.out.1.below (below_regrown w5 dq osq)).be
   generalize grow (redrawn w5 dq) osq=w6 at *
   clear k0 k1 k2 k3 s0 s1 k0' k1' k2' k3' s0' s1' F2 HNo HR
   go_wp2
   go_ret
   exact ⟨by rw [HT.out];rfl,B6.out⟩
  have hib:inB (h k).m 0 ((x.pn:Int) - 1)=true:=by simpa [inB] using hin
  obtain ⟨P,hP⟩:∃ P:Nat,(h k).m=P:=⟨(h k).m.toNat,by omega⟩
  have hPp:P<x.pn:=by omega
  have hPI:(P:Int)<(x.pn:Int):=by omega
  have HP:Hid ((h k).m=(P:Nat)/\P<x.pn):=⟨hP,hPp⟩
  have HAt:Hid (x.y.hs.RwAt h k->(h k).v=(tnD (rwF h) k P:Nat)/\x.y.hs.Can (tnD (rwF h) k) P):=fun ⟨p,hp,e1,e2,e3⟩=>by
   obtain rfl:p=P:=by omega
   exact ⟨e2,e3⟩
  have HYe:Hid ((h k).v=(tnD (rwF h) k P:Nat)->x.y.hs.Can (tnD (rwF h) k) P->x.y.hs.RwAt h k/\tnD (rwF h) (k+1)=up (tnD (rwF h) k) P):=fun e1 e2=>Hs.rw_hit hPp hP e1 e2
  rw [hP] at s0 s0' hib
  have HIn:Hid (∀ wx,Calls Tryz.prog 41 #[.int .i64 (P:Nat),.int .i64 0,.int .i64 ((x.pn:Int) - 1)] wx fun e w'=>e=.returned (.bool true)/\w'=wx):=fun wx=>by
   have h9:=l1In_any (P:Nat) 0 ((x.pn:Int) - 1) wx
   rwa [hib] at h9
  have HInW:Hid (∀ wx,Calls Tryz.prog 41 #[.int .i64 (P:Nat),.int .i64 0,.int .i64 (IntKind.i64.wrap ((x.pn:Int) - 1))] wx fun e w'=>e=.returned (.bool true)/\w'=wx):=fun wx=>by
   have hw:IntKind.i64.wrap ((x.pn:Int) - 1)=(x.pn:Int) - 1:=by rw [IntKind.wrap_i64];omega
   rw [hw]
   exact HIn.out wx
  clear hib
  have sd:=(F2.out.1.cell hPp).1
  have sd':=cell_regrown sd
  have HD2:Hid (∀ i,tnD (rwF h) k i<=x.y.hL i):=(Hs.rw_put F2.out.2.1).le
  have HCx:Hid (∀ dd os,Calls Tryz.prog 49 #[x.v,.slice (some ⟨g,0,none⟩) x.pn x.pn,.int .i64 (P:Nat)] (grow (redrawn w5 dd) os) fun e w'=>e=.returned (.bool (qB (x.y.hs.Can (tnD (rwF h) k) P)))/\Below (grow (redrawn w5 dd) os).heap.size (grow (redrawn w5 dd) os) w'):=fun dd os=>HCn.out HO.out g P _ w5 F2.out.1 HD2.out hPp _ (below_regrown w5 dd os)
  have HDp:Hid (tnD (rwF h) k P<=200):=by
   have h9:=HD2.out P
   have h8:=HO.out.hl200 (show P<x.y.pn from hPp)
   show tnD (rwF h) k P<=200
   omega
  have hdp:((tnD (rwF h) k P:Nat):Int)<=200:=by have:=HDp.out;omega
  clear hin hP
  by_cases hv:(h k).v=(tnD (rwF h) k P:Nat)
  case neg=>
   have hve:((h k).v != ((tnD (rwF h) k P:Nat):Int))=true:=by simpa using hv
   have HT:Hid (rwB x.y h n=false):=HNo.out fun h9=>hv (HAt.out h9).1
   clear hv HAt HYe HCx
   refine wp_region_quiet_below (by kernel_rfl) (by kernel_rfl) ?_
   repeat (first | go_big_quiet_skip | quiet_step (first|(go_at_call 41;exact Calls.regrown_same (HInW.out _))))
   refine wpQuiet_nil ?_
   intro _ hw'
   obtain ⟨⟨dq,osq⟩,hw''⟩:=hw'
   subst hw''
   have B6:Hid (Below w.heap.size w (grow (redrawn w5 dq) osq)):=(F2.out.1.below (below_regrown w5 dq osq)).be
   generalize grow (redrawn w5 dq) osq=w6 at *
   clear k0 k1 k2 k3 s0 s1 k0' k1' k2' k3' s0' s1' sd sd' F2 HNo HR
   go_wp2
   go_ret
   exact ⟨by rw [HT.out];rfl,B6.out⟩
  have hve:((h k).v != ((tnD (rwF h) k P:Nat):Int))=false:=by simpa using hv
  have HV9:Hid ((h k).v=(tnD (rwF h) k P:Nat)):=hv
  clear hv
  by_cases hcn:x.y.hs.Can (tnD (rwF h) k) P
  case neg=>
   rw [qap hcn] at HCx
   have HT:Hid (rwB x.y h n=false):=HNo.out fun h9=>hcn (HAt.out h9).2
   clear hcn HAt HYe
   refine wp_region_quiet_below (by kernel_rfl) (by kernel_rfl) ?_
   repeat (first | go_big_quiet_skip | quiet_step (first|(go_at_call 41;exact Calls.regrown_same (HInW.out _))|(go_at_call 49;exact Calls.regrown_of (HCx.out _ _))))
   refine wpQuiet_nil ?_
   intro _ hw'
   obtain ⟨⟨dq,osq⟩,hw''⟩:=hw'
   subst hw''
   have B6:Hid (Below w.heap.size w (grow (redrawn w5 dq) osq)):=(F2.out.1.below (below_regrown w5 dq osq)).be
   generalize grow (redrawn w5 dq) osq=w6 at *
   clear k0 k1 k2 k3 s0 s1 k0' k1' k2' k3' s0' s1' sd sd' F2 HNo HR HCx
   go_wp2
   go_ret
   exact ⟨by rw [HT.out];rfl,B6.out⟩
  rw [qax hcn] at HCx
  obtain ⟨hat,hup⟩:=HYe.out HV9.out hcn
  have HAU:Hid (x.y.hs.RwAt h k/\tnD (rwF h) (k+1)=up (tnD (rwF h) k) P):=⟨hat,hup⟩
  clear hcn HAt HYe hat hup HNo
  refine wp_region_quiet_below (by kernel_rfl) (by kernel_rfl) ?_
  repeat (first | go_big_quiet_skip | quiet_step (first|(go_at_call 41;exact Calls.regrown_same (HInW.out _))|(go_at_call 49;exact Calls.regrown_of (HCx.out _ _))))
  refine wpQuiet_nil ?_
  intro _ hw'
  obtain ⟨⟨dq,osq⟩,hw''⟩:=hw'
  subst hw''
  have F6:Hid (Rk w x g (tnD (rwF h) k) (grow (redrawn w5 dq) osq)/\(∀ j,j<k->x.y.hs.RwAt h j)/\BoxS (grow (redrawn w5 dq) osq) S (.int .i64 (P:Nat)) (.int .i64 (h k).v)):=⟨F2.out.1.below (below_regrown w5 dq osq),F2.out.2.1,by rw [<- HP.out.1];exact F2.out.2.2.below (below_regrown w5 dq osq)⟩
  generalize grow (redrawn w5 dq) osq=w6 at *
  clear k0 k1 k2 k3 s0 s1 k0' k1' k2' k3' s0' s1' sd sd' F2 HCx w5
  obtain ⟨s0,s1⟩:=F6.out.2.2
  obtain ⟨sd,sf⟩:=F6.out.1.cell HP.out.2
  have F7:Hid (Rk w x g (tnD (rwF h) (k+1)) (w6.setCell ⟨g,P,none⟩ (.int .i64 ((tnD (rwF h) k P:Nat)+1:Int)))/\∀ j,j<k+1->x.y.hs.RwAt h j):=by
   refine ⟨?_,fun j hj=>?_⟩
   ·rw [HAU.out.2]
    exact F6.out.1.put HP.out.2
   ·by_cases e:j=k
    ·subst e
     exact HAU.out.1
    ·exact F6.out.2.1 j (by omega)
  clear F6 HAU
  go_wp2
  go_roundw
  case rel=>exact ⟨k+1,by omega,by go_num,F7.out⟩
  case measure=>simp [intOf];omega
theorem C3.at {w:World} {B O:Nat} {y:Sy} {d c:Nat->Nat} {V:Nat->Value} {U:Nat->Nat->Value} (h:C3 w B O y d c V U) {p i:Nat} (hp:p<y.pn) (hd:d p=y.hL p) (hi:i<y.hL p):
  ∃ g cp au cu,w.cell? ⟨O,p,none⟩=some (.slice (some ⟨g,0,none⟩) (y.hL p) cp)/\w.cell? ⟨g,i,none⟩=some (.slice au y.pn cu)/\Sl w au (ckN y p i)/\O<w.heap.size/\g<w.heap.size:=by
 obtain ⟨g,cp,eV,-,hgs,cs2,-⟩:=(h.ll p hp).cell (show i<d p by rw [hd];exact hi)
 have oU:OwnI w 0 (U p i) (ckN y p i):=by
  have h9:=(h.ll p hp).own i (by rw [hd];exact hi)
  unfold OwnI
  rw [qbq]
  exact h9
 obtain ⟨au,cu,eU,sU⟩:=oU.form
 have ht:=h.top p hp
 rw [eV,hd] at ht
 rw [eU,qbq] at cs2
 exact ⟨g,cp,au,cu,ht,cs2,sU,h.lt,hgs⟩
theorem qfk (x:SysIn) (p i q j:Int) (w:World) (hG:SysG w x) (hL:x.Len) (hcap:∀ i,i<x.hn->x.hL i<=x.hC i):
  Calls Tryz.prog 96 #[x.v,.int .i64 p,.int .i64 i,.int .i64 q,.int .i64 j] w fun e w'=>e=.returned (.bool (hgB x.y p i q j))/\Below w.heap.size w w':=by
 have HS1:Hid (∀ t,hasB x.y p i=t->∀ wx,Below w.heap.size w wx->Calls Tryz.prog 95 #[x.v,.int .i64 p,.int .i64 i] wx fun e w'=>e=.returned (.bool t)/\Below wx.heap.size wx w'):=fun t h wx hb=>by rw [<- h];exact qfc x p i wx (hG.below hb) hL hcap
 have HS2:Hid (∀ t,hasB x.y q j=t->∀ wx,Below w.heap.size w wx->Calls Tryz.prog 95 #[x.v,.int .i64 q,.int .i64 j] wx fun e w'=>e=.returned (.bool t)/\Below wx.heap.size wx w'):=fun t h wx hb=>by rw [<- h];exact qfc x q j wx (hG.below hb) hL hcap
 have BW:Hid (Below w.heap.size w (w.alloc (oQ4 x.pa x.pn x.pc x.sa x.sn x.sc x.wa x.wn x.wc x.ha x.hn x.hc))):=zT _ _
 have NB:Hid (BoxC (w.alloc (oQ4 x.pa x.pn x.pc x.sa x.sn x.sc x.wa x.wn x.wc x.ha x.hn x.hc)) w.heap.size (.slice x.pa x.pn x.pc) (.slice x.sa x.sn x.sc) (.slice x.wa x.wn x.wc) (.slice x.ha x.hn x.hc)):=BoxC.new w _ _ _ _ _
 by_cases h1:hasB x.y p i=true
 case neg=>
  have hv:hgB x.y p i q j=false:=by simp [hgB,bothB,h1]
  rw [hv]
  have H1:Hid (hasB x.y p i=false):=Bool.eq_false_iff.2 h1
  clear hv h1 HS2 hG hL hcap
  go_enter Tryz.func96,Tryz.ntmps96
  go_wp2_with fail
  generalize w.alloc (oQ4 x.pa x.pn x.pc x.sa x.sn x.sc x.wa x.wn x.wc x.ha x.hn x.hc)=W2 at *
  refine (HS1.out false H1.out W2 BW.out).mono ?_
  rintro e w1 ⟨rfl,q1⟩
  have B1:Hid (Below w.heap.size w w1/\BoxC w1 w.heap.size (.slice x.pa x.pn x.pc) (.slice x.sa x.sn x.sc) (.slice x.wa x.wn x.wc) (.slice x.ha x.hn x.hc)):=⟨BW.out.trans (q1.mono BW.out.size),NB.out.below q1⟩
  clear q1 BW NB HS1
  go_wp2
  go_ret
  exact ⟨rfl,B1.out.1⟩
 have H1:Hid (hasB x.y p i=true):=h1
 by_cases h2:hasB x.y q j=true
 case neg=>
  have hv:hgB x.y p i q j=false:=by simp [hgB,bothB,h2]
  rw [hv]
  have H2:Hid (hasB x.y q j=false):=Bool.eq_false_iff.2 h2
  clear hv h1 h2 hG hL hcap
  go_enter Tryz.func96,Tryz.ntmps96
  go_wp2_with fail
  generalize w.alloc (oQ4 x.pa x.pn x.pc x.sa x.sn x.sc x.wa x.wn x.wc x.ha x.hn x.hc)=W2 at *
  refine (HS1.out true H1.out W2 BW.out).mono ?_
  rintro e w1 ⟨rfl,q1⟩
  have B1:Hid (Below w.heap.size w w1/\BoxC w1 w.heap.size (.slice x.pa x.pn x.pc) (.slice x.sa x.sn x.sc) (.slice x.wa x.wn x.wc) (.slice x.ha x.hn x.hc)):=⟨BW.out.trans (q1.mono BW.out.size),NB.out.below q1⟩
  clear q1 BW NB HS1
  obtain ⟨b0,b1,b2,b3⟩:=B1.out.2
  go_wp2_with fail
  refine (HS2.out false H2.out w1 B1.out.1).mono ?_
  rintro e w2 ⟨rfl,q2⟩
  have B2:Hid (Below w.heap.size w w2/\BoxC w2 w.heap.size (.slice x.pa x.pn x.pc) (.slice x.sa x.sn x.sc) (.slice x.wa x.wn x.wc) (.slice x.ha x.hn x.hc)):=⟨B1.out.1.trans (q2.mono B1.out.1.size),B1.out.2.below q2⟩
  clear q2 b0 b1 b2 b3 B1 HS2
  go_wp2
  go_ret
  exact ⟨rfl,B2.out.1⟩
 have H2:Hid (hasB x.y q j=true):=h2
 obtain ⟨ho,a,b,rfl,rfl,ha,hb⟩:=qbp h1
 obtain ⟨-,c,d,rfl,rfl,hc,hd⟩:=qbp h2
 have hv:hgB x.y a b c d=hgN x.y a b c d:=by simp [hgB,bothB,h1,h2]
 rw [hv]
 have HC:Hid (∀ wx,Below w.heap.size w wx->Calls Tryz.prog 156 #[x.v] wx fun e w'=>∃ O d c V U,e=.returned (.slice (some ⟨O,0,none⟩) x.pn x.pn)/\(∀ p,p<x.pn->d p=x.y.hL p)/\C3 w' O O x.y d c V U/\Below wx.heap.size wx w'):=fun wx hb=>qk1 x wx (hG.below hb) hcap ho
 have HA:Hid (a<x.pn/\b<x.y.hL a/\c<x.pn):=⟨ha,hb,hc⟩
 clear hv h1 h2 hG hL hcap ho ha hb hc hd
 have HE:Hid ((a=c/\b=d)\/¬ (a=c/\b=d)):=Classical.em _
 rcases HE.out with ⟨rfl,rfl⟩ | hne
 ·have hv:hgN x.y a b a b=false:=by simp [hgN,spEq]
  rw [hv]
  have e1:((a:Int) == (a:Int))=true:=by simp
  have e2:((b:Int) == (b:Int))=true:=by simp
  clear hv
  go_enter Tryz.func96,Tryz.ntmps96
  go_wp2_with fail
  generalize w.alloc (oQ4 x.pa x.pn x.pc x.sa x.sn x.sc x.wa x.wn x.wc x.ha x.hn x.hc)=W2 at *
  refine (HS1.out true H1.out W2 BW.out).mono ?_
  rintro e w1 ⟨rfl,q1⟩
  have B1:Hid (Below w.heap.size w w1/\BoxC w1 w.heap.size (.slice x.pa x.pn x.pc) (.slice x.sa x.sn x.sc) (.slice x.wa x.wn x.wc) (.slice x.ha x.hn x.hc)):=⟨BW.out.trans (q1.mono BW.out.size),NB.out.below q1⟩
  clear q1 BW NB HS1
  obtain ⟨b0,b1,b2,b3⟩:=B1.out.2
  go_wp2_with fail
  refine (HS2.out true H2.out w1 B1.out.1).mono ?_
  rintro e w2 ⟨rfl,q2⟩
  have B2:Hid (Below w.heap.size w w2/\BoxC w2 w.heap.size (.slice x.pa x.pn x.pc) (.slice x.sa x.sn x.sc) (.slice x.wa x.wn x.wc) (.slice x.ha x.hn x.hc)):=⟨B1.out.1.trans (q2.mono B1.out.1.size),B1.out.2.below q2⟩
  clear q2 b0 b1 b2 b3 B1 HS2
  go_wp2
  go_ret
  exact ⟨rfl,B2.out.1⟩
 have HV:Hid (hgN x.y a b c d=decide (d<clk x.y a b c)):=by
  show _=_
  have h9:spEq a b c d=false:=by
   unfold spEq
   simp
   omega
  simp [hgN,h9]
 rw [HV.out]
 have HQ:Hid ((((a:Int) == (c:Int))=true/\((b:Int) == (d:Int))=false)\/((a:Int) == (c:Int))=false):=by
  show _\/_
  by_cases e:a=c
  ·refine .inl ⟨by simp [e],?_⟩
   have:¬ (b:Int)=(d:Int):=by omega
   simpa using this
  ·refine .inr ?_
   have:¬ (a:Int)=(c:Int):=by omega
   simpa using this
 clear hne HE HV
 rcases HQ.out with ⟨e1,e2⟩ | e1
 all_goals
  clear HQ
  go_enter Tryz.func96,Tryz.ntmps96
  go_wp2_with fail
  generalize w.alloc (oQ4 x.pa x.pn x.pc x.sa x.sn x.sc x.wa x.wn x.wc x.ha x.hn x.hc)=W2 at *
  refine (HS1.out true H1.out W2 BW.out).mono ?_
  rintro e w1 ⟨rfl,q1⟩
  have B1:Hid (Below w.heap.size w w1/\BoxC w1 w.heap.size (.slice x.pa x.pn x.pc) (.slice x.sa x.sn x.sc) (.slice x.wa x.wn x.wc) (.slice x.ha x.hn x.hc)):=⟨BW.out.trans (q1.mono BW.out.size),NB.out.below q1⟩
  clear q1 BW NB HS1
  obtain ⟨b0,b1,b2,b3⟩:=B1.out.2
  go_wp2_with fail
  refine (HS2.out true H2.out w1 B1.out.1).mono ?_
  rintro e w2 ⟨rfl,q2⟩
  have B2:Hid (Below w.heap.size w w2/\BoxC w2 w.heap.size (.slice x.pa x.pn x.pc) (.slice x.sa x.sn x.sc) (.slice x.wa x.wn x.wc) (.slice x.ha x.hn x.hc)):=⟨B1.out.1.trans (q2.mono B1.out.1.size),B1.out.2.below q2⟩
  clear q2 b0 b1 b2 b3 B1 HS2
  obtain ⟨b0,b1,b2,b3⟩:=B2.out.2
  go_wp2_with fail
  clear b0 b1 b2 b3 H1 H2
  refine (HC.out w2 B2.out.1).mono ?_
  rintro e w3 ⟨O,dd,cc,V,U,rfl,hd,h3,b3⟩
  obtain ⟨g,cp,au,cu,k1,k2,sl,k3,k4⟩:=h3.at HA.out.1 (hd a HA.out.1) HA.out.2.1
  obtain ⟨bq,oq,rfl,zq,cq⟩:=sl.at (k:=c) (by rw [qbq];exact HA.out.2.2)
  rw [qh6 x.y a b c HA.out.2.2] at cq
  have B3:Hid (Below w.heap.size w w3):=B2.out.1.trans (b3.mono B2.out.1.size)
  have n1:(a:Int)<(x.pn:Int):=by have:=HA.out.1;omega
  have n2:(b:Int)<(x.y.hL a:Int):=by have:=HA.out.2.1;omega
  have n3:(c:Int)<(x.pn:Int):=by have:=HA.out.2.2;omega
  have k2':w3.cell? ⟨g,b,none⟩=some (.slice (some ⟨bq,oq,none⟩) x.pn cu):=k2
  clear hd h3 b3 sl B2 HC HA k2
  generalize x.y.hL a=HLa at *
  go_wp2
  go_ret
  exact ⟨rfl,B3.out⟩
theorem qlj (x:SysIn) (p i q j:Int) (w:World) (hG:SysG w x) (hL:x.Len) (hcap:∀ i,i<x.hn->x.hL i<=x.hC i):
  Calls Tryz.prog 42 #[x.v,.int .i64 p,.int .i64 i,.int .i64 q,.int .i64 j] w fun e w'=>e=.returned (.bool (sdB x.y p i q j))/\Below w.heap.size w w':=by
 have HS1:Hid (∀ t,hasB x.y p i=t->∀ wx,Below w.heap.size w wx->Calls Tryz.prog 95 #[x.v,.int .i64 p,.int .i64 i] wx fun e w'=>e=.returned (.bool t)/\Below wx.heap.size wx w'):=fun t h wx hb=>by rw [<- h];exact qfc x p i wx (hG.below hb) hL hcap
 have HS2:Hid (∀ t,hasB x.y q j=t->∀ wx,Below w.heap.size w wx->Calls Tryz.prog 95 #[x.v,.int .i64 q,.int .i64 j] wx fun e w'=>e=.returned (.bool t)/\Below wx.heap.size wx w'):=fun t h wx hb=>by rw [<- h];exact qfc x q j wx (hG.below hb) hL hcap
 have BW:Hid (Below w.heap.size w (w.alloc (oQ4 x.pa x.pn x.pc x.sa x.sn x.sc x.wa x.wn x.wc x.ha x.hn x.hc))):=zT _ _
 have NB:Hid (BoxC (w.alloc (oQ4 x.pa x.pn x.pc x.sa x.sn x.sc x.wa x.wn x.wc x.ha x.hn x.hc)) w.heap.size (.slice x.pa x.pn x.pc) (.slice x.sa x.sn x.sc) (.slice x.wa x.wn x.wc) (.slice x.ha x.hn x.hc)):=BoxC.new w _ _ _ _ _
 by_cases h1:hasB x.y p i=true
 case neg=>
  have hv:sdB x.y p i q j=false:=by simp [sdB,bothB,h1]
  rw [hv]
  have H1:Hid (hasB x.y p i=false):=Bool.eq_false_iff.2 h1
  clear hv h1 HS2 hG hL hcap
  go_enter Tryz.func42,Tryz.ntmps42
  go_wp2_with fail
  generalize w.alloc (oQ4 x.pa x.pn x.pc x.sa x.sn x.sc x.wa x.wn x.wc x.ha x.hn x.hc)=W2 at *
  refine (HS1.out false H1.out W2 BW.out).mono ?_
  rintro e w1 ⟨rfl,q1⟩
  have B1:Hid (Below w.heap.size w w1/\BoxC w1 w.heap.size (.slice x.pa x.pn x.pc) (.slice x.sa x.sn x.sc) (.slice x.wa x.wn x.wc) (.slice x.ha x.hn x.hc)):=⟨BW.out.trans (q1.mono BW.out.size),NB.out.below q1⟩
  clear q1 BW NB HS1
  go_wp2
  go_ret
  exact ⟨rfl,B1.out.1⟩
 have H1:Hid (hasB x.y p i=true):=h1
 by_cases h2:hasB x.y q j=true
 case neg=>
  have hv:sdB x.y p i q j=false:=by simp [sdB,bothB,h2]
  rw [hv]
  have H2:Hid (hasB x.y q j=false):=Bool.eq_false_iff.2 h2
  clear hv h1 h2 hG hL hcap
  go_enter Tryz.func42,Tryz.ntmps42
  go_wp2_with fail
  generalize w.alloc (oQ4 x.pa x.pn x.pc x.sa x.sn x.sc x.wa x.wn x.wc x.ha x.hn x.hc)=W2 at *
  refine (HS1.out true H1.out W2 BW.out).mono ?_
  rintro e w1 ⟨rfl,q1⟩
  have B1:Hid (Below w.heap.size w w1/\BoxC w1 w.heap.size (.slice x.pa x.pn x.pc) (.slice x.sa x.sn x.sc) (.slice x.wa x.wn x.wc) (.slice x.ha x.hn x.hc)):=⟨BW.out.trans (q1.mono BW.out.size),NB.out.below q1⟩
  clear q1 BW NB HS1
  obtain ⟨b0,b1,b2,b3⟩:=B1.out.2
  go_wp2_with fail
  refine (HS2.out false H2.out w1 B1.out.1).mono ?_
  rintro e w2 ⟨rfl,q2⟩
  have B2:Hid (Below w.heap.size w w2/\BoxC w2 w.heap.size (.slice x.pa x.pn x.pc) (.slice x.sa x.sn x.sc) (.slice x.wa x.wn x.wc) (.slice x.ha x.hn x.hc)):=⟨B1.out.1.trans (q2.mono B1.out.1.size),B1.out.2.below q2⟩
  clear q2 b0 b1 b2 b3 B1 HS2
  go_wp2
  go_ret
  exact ⟨rfl,B2.out.1⟩
 have H2:Hid (hasB x.y q j=true):=h2
 obtain ⟨ho,a,b,rfl,rfl,ha,hb⟩:=qbp h1
 obtain ⟨-,c,d,rfl,rfl,hc,hd⟩:=qbp h2
 have HE:Hid ((a=c/\b=d)\/¬ (a=c/\b=d)):=Classical.em _
 rcases HE.out with ⟨rfl,rfl⟩ | hne
 ·have hv:sdB x.y a b a b=false:=by simp [sdB,spEq]
  rw [hv]
  have e1:((a:Int) == (a:Int))=true:=by simp
  have e2:((b:Int) == (b:Int))=true:=by simp
  clear hv h1 h2 hG hL hcap ho ha hb hc hd HE
  go_enter Tryz.func42,Tryz.ntmps42
  go_wp2_with fail
  generalize w.alloc (oQ4 x.pa x.pn x.pc x.sa x.sn x.sc x.wa x.wn x.wc x.ha x.hn x.hc)=W2 at *
  refine (HS1.out true H1.out W2 BW.out).mono ?_
  rintro e w1 ⟨rfl,q1⟩
  have B1:Hid (Below w.heap.size w w1/\BoxC w1 w.heap.size (.slice x.pa x.pn x.pc) (.slice x.sa x.sn x.sc) (.slice x.wa x.wn x.wc) (.slice x.ha x.hn x.hc)):=⟨BW.out.trans (q1.mono BW.out.size),NB.out.below q1⟩
  clear q1 BW NB HS1
  obtain ⟨b0,b1,b2,b3⟩:=B1.out.2
  go_wp2_with fail
  refine (HS2.out true H2.out w1 B1.out.1).mono ?_
  rintro e w2 ⟨rfl,q2⟩
  have B2:Hid (Below w.heap.size w w2/\BoxC w2 w.heap.size (.slice x.pa x.pn x.pc) (.slice x.sa x.sn x.sc) (.slice x.wa x.wn x.wc) (.slice x.ha x.hn x.hc)):=⟨B1.out.1.trans (q2.mono B1.out.1.size),B1.out.2.below q2⟩
  clear q2 b0 b1 b2 b3 B1 HS2
  go_wp2
  go_ret
  exact ⟨rfl,B2.out.1⟩
 have hv:sdB x.y a b c d=(!hgB x.y a b c d && !hgB x.y c d a b):=by
  have h9:spEq a b c d=false:=by
   unfold spEq
   simp
   omega
  simp [sdB,hgB,bothB,h1,h2,h9]
 rw [hv]
 have HH1:Hid (∀ t,hgB x.y a b c d=t->∀ wx,Below w.heap.size w wx->Calls Tryz.prog 96 #[x.v,.int .i64 a,.int .i64 b,.int .i64 c,.int .i64 d] wx fun e w'=>e=.returned (.bool t)/\Below wx.heap.size wx w'):=fun t h wx hb=>by rw [<- h];exact qfk x a b c d wx (hG.below hb) hL hcap
 have HH2:Hid (∀ t,hgB x.y c d a b=t->∀ wx,Below w.heap.size w wx->Calls Tryz.prog 96 #[x.v,.int .i64 c,.int .i64 d,.int .i64 a,.int .i64 b] wx fun e w'=>e=.returned (.bool t)/\Below wx.heap.size wx w'):=fun t h wx hb=>by rw [<- h];exact qfk x c d a b wx (hG.below hb) hL hcap
 have HQ:Hid ((((a:Int) == (c:Int))=true/\((b:Int) == (d:Int))=false)\/((a:Int) == (c:Int))=false):=by
  show _\/_
  by_cases e:a=c
  ·refine .inl ⟨by simp [e],?_⟩
   have:¬ (b:Int)=(d:Int):=by omega
   simpa using this
  ·refine .inr ?_
   have:¬ (a:Int)=(c:Int):=by omega
   simpa using this
 clear hne HE hv h1 h2 hG hL hcap ho ha hb hc hd
 generalize hgB x.y a b c d=t1 at *
 generalize hgB x.y c d a b=t2 at *
 rcases HQ.out with ⟨e1,e2⟩ | e1
 all_goals
  clear HQ
  go_enter Tryz.func42,Tryz.ntmps42
  go_wp2_with fail
  generalize w.alloc (oQ4 x.pa x.pn x.pc x.sa x.sn x.sc x.wa x.wn x.wc x.ha x.hn x.hc)=W2 at *
  refine (HS1.out true H1.out W2 BW.out).mono ?_
  rintro e w1 ⟨rfl,q1⟩
  have B1:Hid (Below w.heap.size w w1/\BoxC w1 w.heap.size (.slice x.pa x.pn x.pc) (.slice x.sa x.sn x.sc) (.slice x.wa x.wn x.wc) (.slice x.ha x.hn x.hc)):=⟨BW.out.trans (q1.mono BW.out.size),NB.out.below q1⟩
  clear q1 BW NB HS1
  obtain ⟨b0,b1,b2,b3⟩:=B1.out.2
  go_wp2_with fail
  refine (HS2.out true H2.out w1 B1.out.1).mono ?_
  rintro e w2 ⟨rfl,q2⟩
  have B2:Hid (Below w.heap.size w w2/\BoxC w2 w.heap.size (.slice x.pa x.pn x.pc) (.slice x.sa x.sn x.sc) (.slice x.wa x.wn x.wc) (.slice x.ha x.hn x.hc)):=⟨B1.out.1.trans (q2.mono B1.out.1.size),B1.out.2.below q2⟩
  clear q2 b0 b1 b2 b3 B1 HS2
  obtain ⟨b0,b1,b2,b3⟩:=B2.out.2
  go_wp2_with fail
  clear b0 b1 b2 b3 H1 H2
  refine (HH1.out _ rfl w2 B2.out.1).mono ?_
  rintro e w3 ⟨rfl,q3⟩
  have B3:Hid (Below w.heap.size w w3/\BoxC w3 w.heap.size (.slice x.pa x.pn x.pc) (.slice x.sa x.sn x.sc) (.slice x.wa x.wn x.wc) (.slice x.ha x.hn x.hc)):=⟨B2.out.1.trans (q3.mono B2.out.1.size),B2.out.2.below q3⟩
  clear q3 B2 HH1
  cases t1 with
  | true=>
   go_wp2
   go_ret
   exact ⟨rfl,B3.out.1⟩
  | false=>
   obtain ⟨b0,b1,b2,b3⟩:=B3.out.2
   go_wp2_with fail
   clear b0 b1 b2 b3
   refine (HH2.out _ rfl w3 B3.out.1).mono ?_
   rintro e w4 ⟨rfl,q4⟩
   have B4:Hid (Below w.heap.size w w4):=B3.out.1.trans (q4.mono B3.out.1.size)
   clear q4 B3 HH2
   cases t2 with
   | true=>
    go_wp2
    go_ret
    exact ⟨rfl,B4.out⟩
   | false=>
    go_wp2
    go_ret
    exact ⟨rfl,B4.out⟩
