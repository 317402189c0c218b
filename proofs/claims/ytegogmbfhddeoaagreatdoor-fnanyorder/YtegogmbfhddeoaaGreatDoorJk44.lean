import Derived.Test.YtegogmbfhddeoaaGreatDoorJk40
import Derived.Test.YtegogmbfhddeoaaGreatDoorJk42
import Derived.Laws.CopyRow
import Derived.Test.YtegogmbfhddeoaaGreatDoorJk43
namespace Go.Proofs.YtegogmbfhddeoaaGreatDoor
set_option maxRecDepth 100000
set_option maxHeartbeats 8000000
open Go.ChangeShapes Go.WideShapes Go.ChangeAt Go.RowKit Go.Deep Go.Sort
def dL (d:Nat->Nat) (n:Nat):List Int:=(List.range n).map fun i=>((d i:Nat):Int)
theorem qg3 (d:Nat->Nat) (n:Nat):(dL d n).length=n:=by simp [dL]
theorem qt7 (d:Nat->Nat) {n i:Nat} (h:i<n):zi (dL d n) i=(d i:Nat):=by
 unfold zi dL;simp [h]
theorem qpp (n:Nat):dL (fun _=>0) n=List.replicate n 0:=by
 refine List.ext_getElem (by simp [dL]) fun i h1 h2=>?_;simp [dL]
theorem qu0 (d:Nat->Nat) {n p:Nat} (_:p<n):(dL d n).set p ((d p:Int)+1)=dL (up d p) n:=by
 refine List.ext_getElem (by simp [dL]) fun i h1 h2=>?_;simp only [dL,List.getElem_set,List.getElem_map,List.getElem_range];by_cases e:p=i
 ·subst e
  rw [if_pos rfl,qb5];omega
 ·rw [if_neg e,up_other (fun h=>e h.symm)]
theorem Sl.cell0 {w:World} {b:Nat} {xs:List Int} (h:Sl w (some ⟨b,0,none⟩) xs) {k:Nat} (hk:k<xs.length):w.cell? ⟨b,k,none⟩=some (.int .i64 (zi xs k)):=by
 obtain ⟨b',o',e,-,c⟩:=h.at hk;obtain ⟨rfl,rfl⟩:b=b'/\0=o':=by simpa using e
 rw [Nat.zero_add] at c;exact c
theorem qh3 (x:SysIn) (g dc p:Nat) (d:Nat->Nat) (w:World) (hG:SysG w x) (hcap:∀ i,i<x.hn->x.hL i<=x.hC i) (hO:x.y.Ok) (hS:Sl w (some ⟨g,0,none⟩) (dL d x.pn)) (hd:∀ i,d i<=x.y.hL i) (hp:p<x.pn):
  Calls Tryz.prog 48 #[x.v,.slice (some ⟨g,0,none⟩) x.pn dc,.int .i64 p] w fun e w'=>e=.returned (.bool (qB (x.y.hs.Can d p)))/\Below w.heap.size w w':=by
 have h4:(x.pn:Int)<=4:=by have:=hO.cn.1.2;have h9:x.y.pn=x.pn:=rfl;omega
 have hp':(p:Int)<(x.pn:Int):=by omega
 have hhn:x.hn=x.pn:=hO.cn.2.2.1;have HG:Hid (SysG w x):=hG;have HSn:Hid (d p<x.hL p->∀ wx,Below w.heap.size w wx->Calls Tryz.prog 99 #[x.v,.int .i64 p,.int .i64 (d p:Nat)] wx fun e w'=>e=.returned (.int .i64 (sndN x.y p (d p)))/\Below wx.heap.size wx w'):=fun hi wx hb=>qk2 x p (d p) wx (hG.below hb) hcap hO hp hi;have HC:Hid (d p<x.hL p->(x.y.hs.Can d p ↔ ∀ s,sdr x.y p (d p)=some s->s.2<d s.1)):=fun hi=>qmd hO hp hi
 have HAt:Hid (∀ s,d p<x.hL p->sdr x.y p (d p)=some s->(x.y.hH p (d p)).q=(s.1:Int)/\s.1<x.pn/\sndN x.y p (d p)=(s.2:Int)):=fun s hi hs=>by
  have h9:=qq3 hO (show p<x.y.pn from hp) (show d p<x.y.hL p from hi) hs;exact ⟨h9.2.1,h9.2.2.1,h9.2.2.2.2.1⟩
 have HNo:Hid (sdr x.y p (d p)=none->sndN x.y p (d p) = -1):=fun hs=>if_neg (qn4 hs);have hl200:(x.hL p:Int)<=200:=by have:=hO.hl200 (p:=p) hp;have h9:x.y.hL p=x.hL p:=rfl;omega
 have hdp:(d p:Int)<=(x.hL p:Int):=by have:=hd p;have h9:x.y.hL p=x.hL p:=rfl;omega
 obtain ⟨bh,oh,eh,ch⟩:=hG.h.at (k:=p) (by rw [hhn];exact hp);have HB:Hid (Below w.heap.size w (w.alloc (oQ5 x.pa x.pn x.pc x.sa x.sn x.sc x.wa x.wn x.wc x.ha x.hn x.hc))):=zT _ _;have HX:Hid (BoxC (w.alloc (oQ5 x.pa x.pn x.pc x.sa x.sn x.sc x.wa x.wn x.wc x.ha x.hn x.hc)) w.heap.size (.slice x.pa x.pn x.pc) (.slice x.sa x.sn x.sc) (.slice x.wa x.wn x.wc) (.slice x.ha x.hn x.hc)):=BoxC.new w _ _ _ _ _
 have HS:Hid (∀ wx,Below w.heap.size w wx->∀ i,i<x.pn->wx.cell? ⟨g,i,none⟩=some (.int .i64 (d i:Nat))):=fun wx hb i hi=>by
  have h9:=Sl.cell0 (hS.below hb) (k:=i) (by rw [qg3];exact hi);rw [qt7 d hi] at h9;exact h9
 have HCh:Hid (∀ wx,Below w.heap.size w wx->wx.cell? ⟨bh,oh+p,none⟩=some (.slice (x.hA p) (x.hL p) (x.hC p))):=fun wx hb=>(hb.cell (zJ w _ ch)).trans ch;have hhn':(p:Int)<(x.hn:Int):=by rw [hhn];exact hp'
 have HEv:Hid (d p<x.hL p->∃ be oe,x.hA p=some ⟨be,oe,none⟩/\∀ wx,Below w.heap.size w wx->wx.cell? ⟨be,oe+d p*3+1,none⟩=some (.int .i64 (x.y.hH p (d p)).q)):=fun hi=>by
  obtain ⟨be,oe,ee,ze,-,c1,-⟩:=(hG.hi p (by rw [hhn];exact hp)).at hi;exact ⟨be,oe,ee,fun wx hb=>(hb.cell ze).trans c1⟩
 have HEh:Hid (x.ha=some ⟨bh,oh,none⟩):=eh;clear hG hcap hO hS hd ch hhn eh
 go_enter Tryz.func48,Tryz.ntmps48
 go_upto_region 1 with fail
 generalize w.alloc (oQ5 x.pa x.pn x.pc x.sa x.sn x.sc x.wa x.wn x.wc x.ha x.hn x.hc)=W1 at *;obtain ⟨-,-,-,k3⟩:=HX.out;rw [HEh.out] at k3;have sd:=HS.out W1 HB.out p hp;have ch:=HCh.out W1 HB.out;have k3':=cell_regrown k3;have sd':=cell_regrown sd;have ch':=cell_regrown ch;by_cases hfull:d p<x.hL p
 case neg=>
  have hge:(x.hL p:Int)<=(d p:Int):=by omega
  have HR:Hid (qB (x.y.hs.Can d p)=false):=qar fun h=>hfull h.1;refine wp_region_quiet_below (by kernel_rfl) (by kernel_rfl) ?_
  repeat (quiet_step (fail))
  refine wpQuiet_nil ?_;intro _ hw';obtain ⟨⟨dq,osq⟩,hw''⟩:=hw';subst hw'';have B2:Hid (Below w.heap.size w (grow (redrawn W1 dq) osq)):=HB.out.trans ((below_regrown W1 dq osq).mono HB.out.size);generalize grow (redrawn W1 dq) osq=W2 at *;clear k3 sd ch k3' sd' ch' HC HAt HNo HSn HEv;go_wp2;go_ret;exact ⟨by rw [HR.out];rfl,B2.out⟩
 have hlt':¬ (x.hL p:Int)<=(d p:Int):=by omega
 obtain ⟨be,oe,ee,hev⟩:=HEv.out hfull;have HV:Hid (∀ wx,Below w.heap.size w wx->wx.cell? ⟨be,oe+d p*3+1,none⟩=some (.int .i64 (x.y.hH p (d p)).q)):=hev;have HEe:Hid (x.hA p=some ⟨be,oe,none⟩):=ee;have HLt:Hid (d p<x.hL p):=hfull;have hdl:(d p:Int)<(x.hL p:Int):=by omega
 clear hev ee hfull HEv;refine wp_region_quiet_below (by kernel_rfl) (by kernel_rfl) ?_
 repeat (quiet_step (fail))
 refine wpQuiet_nil ?_;intro _ hw';obtain ⟨⟨dq,osq⟩,hw''⟩:=hw';subst hw'';have B2:Hid (Below w.heap.size w (grow (redrawn W1 dq) osq)/\BoxC (grow (redrawn W1 dq) osq) w.heap.size (.slice x.pa x.pn x.pc) (.slice x.sa x.sn x.sc) (.slice x.wa x.wn x.wc) (.slice x.ha x.hn x.hc)):=⟨HB.out.trans ((below_regrown W1 dq osq).mono HB.out.size),HX.out.below (below_regrown W1 dq osq)⟩
 generalize grow (redrawn W1 dq) osq=W2 at *;clear k3 sd ch k3' sd' ch' HB HX W1;obtain ⟨k0,k1,k2,k3⟩:=B2.2;have sd:=HS.out W2 B2.1 p hp;have k0':=cell_regrown k0;have k1':=cell_regrown k1;have k2':=cell_regrown k2;have k3':=cell_regrown k3;have sd':=cell_regrown sd;have HSn2:Hid (∀ dd os,Calls Tryz.prog 99 #[x.v,.int .i64 p,.int .i64 (d p:Nat)] (grow (redrawn W2 dd) os) fun e w'=>e=.returned (.int .i64 (sndN x.y p (d p)))/\Below (grow (redrawn W2 dd) os).heap.size (grow (redrawn W2 dd) os) w'):=fun dd os=>HSn.out HLt.out _ (B2.1.trans ((below_regrown W2 dd os).mono B2.1.size));go_upto_region 3 with fail
 refine wp_region_quiet_below (by kernel_rfl) (by kernel_rfl) ?_
 repeat (quiet_step (first|(go_at_call 99;exact Calls.regrown_of (HSn2.out _ _))))
 refine wpQuiet_nil ?_;intro _ hw';obtain ⟨⟨dq,osq⟩,hw''⟩:=hw';subst hw'';have B3:Hid (Below w.heap.size w (grow (redrawn W2 dq) osq)/\BoxC (grow (redrawn W2 dq) osq) w.heap.size (.slice x.pa x.pn x.pc) (.slice x.sa x.sn x.sc) (.slice x.wa x.wn x.wc) (.slice x.ha x.hn x.hc)):=⟨B2.1.trans ((below_regrown W2 dq osq).mono B2.1.size),B2.2.below (below_regrown W2 dq osq)⟩
 generalize grow (redrawn W2 dq) osq=W3 at *;clear k0 k1 k2 k3 sd k0' k1' k2' k3' sd' HSn2 B2 W2 HSn;go_upto_region 4 with fail
 obtain ⟨-,-,-,k3⟩:=B3.2;rw [HEh.out] at k3;have sd:=HS.out W3 B3.1 p hp;have ch:=HCh.out W3 B3.1;rw [HEe.out] at ch;have ev:=HV.out W3 B3.1;have k3':=cell_regrown k3;have sd':=cell_regrown sd;have ch':=cell_regrown ch;have ev':=cell_regrown ev;cases hsd:sdr x.y p (d p) with
 | none=>
  have HR:Hid (qB (x.y.hs.Can d p)=true):=qa3 ((HC.out HLt.out).2 fun s hs=>by rw [hsd] at hs;cases hs);rw [HNo.out hsd];clear HC HAt HNo hsd ev ev' HV;refine wp_region_quiet_below (by kernel_rfl) (by kernel_rfl) ?_
  repeat (first | go_big_quiet_skip | quiet_step (fail))
  refine wpQuiet_nil ?_;intro _ hw';obtain ⟨⟨dq,osq⟩,hw''⟩:=hw';subst hw'';have B4:Hid (Below w.heap.size w (grow (redrawn W3 dq) osq)):=B3.1.trans ((below_regrown W3 dq osq).mono B3.1.size);generalize grow (redrawn W3 dq) osq=W4 at *;clear k3 sd ch k3' sd' ch';go_wp2;go_ret;exact ⟨by rw [HR.out];rfl,B4.out⟩
 | some s=>
  obtain ⟨e1,e2,e3⟩:=HAt.out s HLt.out hsd
  have HR:Hid (qB (x.y.hs.Can d p)=decide (s.2<d s.1)):=by
   show _=_;by_cases h9:s.2<d s.1
   ·rw [qa3 ((HC.out HLt.out).2 fun t ht=>by rw [hsd] at ht;cases ht;exact h9),decide_eq_true (by omega)]
   ·rw [qar fun h=>h9 ((HC.out HLt.out).1 h s hsd),decide_eq_false (by omega)]
  rw [e1] at ev ev';rw [e3];have ds:=HS.out W3 B3.1 s.1 e2;have ds':=cell_regrown ds;obtain ⟨s1,s2⟩:=s;have hs1:(s1:Int)<(x.pn:Int):=by have e2:s1<x.pn:=e2;omega
  have hs20:¬ (s2:Int)<0:=by omega
  clear HC HAt HNo hsd HV e1 e2 e3;simp only at ev ev' ds ds' HR ⊢;refine wp_region_quiet_below (by kernel_rfl) (by kernel_rfl) ?_
  repeat (first | go_big_quiet_skip | quiet_step (fail))
  refine wpQuiet_nil ?_;intro _ hw';obtain ⟨⟨dq,osq⟩,hw''⟩:=hw';subst hw'';have B4:Hid (Below w.heap.size w (grow (redrawn W3 dq) osq)):=B3.1.trans ((below_regrown W3 dq osq).mono B3.1.size);generalize grow (redrawn W3 dq) osq=W4 at *;clear k3 sd ch k3' sd' ch' ev ev' ds ds';go_wp2;go_ret;exact ⟨by rw [HR.out];rfl,B4.out⟩
def OwV (w:World) (B:Nat) (v:Value) (n:Nat) (h:Nat->Wo2):Prop:=∃ g cap,v=.slice (some ⟨g,0,none⟩) n cap/\B<=g/\g<w.heap.size/\WoAt w g 0 n h/\∀ j,w.frozen? ⟨g,j,none⟩=false
theorem OwR.v {w:World} {B n:Nat} {v:Value} {h:Nat->Wo2} (o:OwR w B v n h):OwV w B v n h:=o.form
theorem OwV.mono {w:World} {B B' n:Nat} {v:Value} {h:Nat->Wo2} (o:OwV w B v n h) (hb:B'<=B):OwV w B' v n h:=by
 obtain ⟨g,c,e,h1,r⟩:=o;exact ⟨g,c,e,by omega,r⟩
theorem OwV.ofBlock {w w':World} {B n:Nat} {v:Value} {h:Nat->Wo2} (o:OwV w B v n h) (hs:w.heap.size<=w'.heap.size) (ha:∀ k,v.ownBlock=some k->w'.heap[k]? = w.heap[k]?):OwV w' B v n h:=by
 obtain ⟨g,c,rfl,h1,h2,h3,h4⟩:=o;have hb:=ha g rfl;exact ⟨g,c,rfl,h1,by omega,fun i hi=>⟨(zH hb).trans (h3 i hi).1,(zH hb).trans (h3 i hi).2⟩,fun j=>(zI hb).trans (h4 j)⟩
theorem OwV.lt {w:World} {B n:Nat} {v:Value} {h:Nat->Wo2} (o:OwV w B v n h):∀ j,v.ownBlock=some j->B<=j/\j<w.heap.size:=by
 obtain ⟨g,c,rfl,h1,h2,-,-⟩:=o;intro j hj;obtain rfl:g=j:=by cases hj;rfl
 exact ⟨h1,h2⟩
theorem OwV.below {w w':World} {B n:Nat} {v:Value} {h:Nat->Wo2} (o:OwV w B v n h) (hb:Below w.heap.size w w'):OwV w' B v n h:=o.ofBlock hb.size fun k hk=>hb.block k (o.lt k hk).2
theorem OwV.touch {w w':World} {B n:Nat} {v:Value} {h:Nat->Wo2} {P:Nat->Prop} (o:OwV w B v n h) (ht:qap P w w') (hp:∀ g,v.ownBlock=some g->¬ P g):OwV w' B v n h:=o.ofBlock ht.size fun k hk=>ht.block k (o.lt k hk).2 (hp k hk)
theorem OwV.form {w:World} {B n:Nat} {v:Value} {h:Nat->Wo2} (o:OwV w B v n h):∃ g cap,v=.slice (some ⟨g,0,none⟩) n cap/\B<=g/\g<w.heap.size/\WoAt w g 0 n h/\∀ j,w.frozen? ⟨g,j,none⟩=false:=o
theorem OwV.put2 {w:World} {B g c n K:Nat} {h h':Nat->Wo2} (o:OwV w B (.slice (some ⟨g,0,none⟩) n c) n h) (hK:K+1<n) (h0:h' K=h (K+1)) (h1:h' (K+1)=h K) (ho:∀ i,i≠K->i≠K+1->h' i=h i) (w':World) (hs:w'.heap.size=w.heap.size) (hf:∀ j,w'.frozen? ⟨g,j,none⟩=w.frozen? ⟨g,j,none⟩)
  (c0:w'.cell? ⟨g,K*2,none⟩=some (.int .i64 (h (K+1)).m)) (c1:w'.cell? ⟨g,K*2+1,none⟩=some (.int .i64 (h (K+1)).v)) (c2:w'.cell? ⟨g,(K+1)*2,none⟩=some (.int .i64 (h K).m)) (c3:w'.cell? ⟨g,(K+1)*2+1,none⟩=some (.int .i64 (h K).v))
  (hc:∀ j,j≠K*2->j≠K*2+1->j≠(K+1)*2->j≠(K+1)*2+1->w'.cell? ⟨g,j,none⟩=w.cell? ⟨g,j,none⟩):OwV w' B (.slice (some ⟨g,0,none⟩) n c) n h':=by
 obtain ⟨g',c',e,q1,q2,q3,q4⟩:=o;simp only [Value.slice.injEq,Option.some.injEq,Addr.mk.injEq,and_true,true_and] at e;obtain ⟨rfl,rfl⟩:=e;refine ⟨g,c,rfl,q1,by omega,fun i hi=>?_,fun j=>(hf j).trans (q4 j)⟩;rw [Nat.zero_add];by_cases e0:i=K
 ·subst e0
  rw [h0];exact ⟨c0,c1⟩
 by_cases e1:i=K+1
 ·subst e1
  rw [h1];exact ⟨c2,c3⟩
 have q:=q3 i hi;rw [Nat.zero_add] at q;rw [ho i e0 e1,hc _ (by omega) (by omega) (by omega) (by omega),hc _ (by omega) (by omega) (by omega) (by omega)];exact q
def swH (h:Nat->Wo2) (K:Nat) (i:Nat):Wo2:=if i=K then h (K+1) else if i=K+1 then h K else h i
theorem qvw (h:Nat->Wo2) (K:Nat):swH h K K=h (K+1):=if_pos rfl
theorem qvx (h:Nat->Wo2) (K:Nat):swH h K (K+1)=h K:=by
 unfold swH;rw [if_neg (by omega),if_pos rfl]
theorem qvy (h:Nat->Wo2) (K i:Nat) (h0:i≠K) (h1:i≠K+1):swH h K i=h i:=by
 unfold swH;rw [if_neg h0,if_neg h1]
theorem qui (x:SysIn) (W1:World) (hhn:x.hn=x.pn) (cs:List Value) (hcs:hisZ x.ha x.hn x.hc=cs):HisQ ((W1.alloc (zQ3)).setCells W1.heap.size 0 cs) W1.heap.size x.ha x.hc x.y.hs (fun _=>0)/\Below W1.heap.size W1 ((W1.alloc (zQ3)).setCells W1.heap.size 0 cs):=by
 subst hcs;have hT:(W1.alloc (zQ3)).there W1.heap.size 0 (hisZ x.ha x.hn x.hc).toArray.size:=qb0 _ _ _ _ _ (by rfl) rfl;have hR:((W1.alloc (zQ3)).setCells W1.heap.size 0 (hisZ x.ha x.hn x.hc)).rangeAt W1.heap.size 0 (hisZ x.ha x.hn x.hc):=World.rangeAt_setCells_same _ _ _ _ (by simpa using hT);have tS:qap (fun b=>b=W1.heap.size) (W1.alloc (zQ3)) ((W1.alloc (zQ3)).setCells W1.heap.size 0 (hisZ x.ha x.hn x.hc)):=qap.sets (P:=fun b=>b=W1.heap.size) rfl _ _ (qap.refl _ _);refine ⟨HisQ.of_range hR hhn (fun j=>(World.frozen?_setCells _ _ _ _ _).trans (yB _ _ _ _ rfl)),(zT _ _).trans (tS.below (by simp) fun c e=>by have e:c=W1.heap.size:=e;omega)⟩
theorem qfb (x:SysIn) (la:Option Addr) (n lc:Nat) (h:Nat->Wo2) (w:World) (hG:SysG w x) (hL:x.Len) (hW:WoL w la n h) (hn:n<=1048576) (hV:w.cell? ⟨0,0,none⟩=some (.iface 253 (.agg #[.pointer (some ⟨1,171,none⟩)]))):
  Calls Tryz.prog 13 #[x.v,.slice la n lc] w fun e w'=>e=.returned (.bool (rwB x.y h n))/\Below w.heap.size w w':=by
 have HSo:Hid (∀ wx,Below w.heap.size w wx->Calls Tryz.prog 19 #[x.v] wx fun e w'=>e=.returned (.bool x.y.okB)/\Below wx.heap.size wx w'):=fun wx hb=>qdk x wx (hG.below hb) hL ((hb.cell (zJ w _ hV)).trans hV);have HPt:Hid (x.y.Ok->∀ X wx,Below w.heap.size w wx->w.heap.size<=X->HisQ wx X x.ha x.hc x.y.hs (fun _=>0)->Calls Tryz.prog 46 #[.pointer (some ⟨X,0,none⟩),.slice la n lc] wx fun e w'=>e=.returned (.bool (qB (x.y.hs.RwOk h n)))/\Below w.heap.size w w'):=fun hO X wx hb hX hq=>qso X x.ha x.hc x.hA x.hC x.y.hs la n lc h w wx (hG.his hO.cn.2.2.1) hb hX hq hO.cn.1.2 (fun p hp i hi=>hO.evq hp hi) (fun i hi=>hO.hl200 hi) hW hn;have HR:Hid (rwB x.y h n=(x.y.okB && qB (x.y.hs.RwOk h n))):=rfl;have B0:Hid (Below w.heap.size w (w.alloc (oQ5 x.pa x.pn x.pc x.sa x.sn x.sc x.wa x.wn x.wc x.ha x.hn x.hc))):=zT _ _;have X0:Hid (BoxC (w.alloc (oQ5 x.pa x.pn x.pc x.sa x.sn x.sc x.wa x.wn x.wc x.ha x.hn x.hc)) w.heap.size (.slice x.pa x.pn x.pc) (.slice x.sa x.sn x.sc) (.slice x.wa x.wn x.wc) (.slice x.ha x.hn x.hc)):=BoxC.new w _ _ _ _ _;clear hG hL hW hV
 go_enter Tryz.func13,Tryz.ntmps13
 go_wp2_with fail
 generalize w.alloc (oQ5 x.pa x.pn x.pc x.sa x.sn x.sc x.wa x.wn x.wc x.ha x.hn x.hc)=W0 at *;refine (HSo.out W0 B0.out).mono ?_;rintro e W1 ⟨rfl,b2⟩;have B2:Hid (Below w.heap.size w W1/\BoxC W1 w.heap.size (.slice x.pa x.pn x.pc) (.slice x.sa x.sn x.sc) (.slice x.wa x.wn x.wc) (.slice x.ha x.hn x.hc)):=⟨B0.out.trans (b2.mono B0.out.size),X0.out.below b2⟩
 clear b2 B0 X0 HSo;by_cases hok:x.y.okB=true
 case neg=>
  have hok':x.y.okB=false:=by simpa using hok
  rw [hok'] at HR ⊢;go_wp2;go_ret;exact ⟨by rw [HR.out];rfl,B2.1⟩
 rw [hok] at HR ⊢;have HO:Hid (x.y.Ok):=Sy.ok_of hok;have hl:=qr5 x.ha x.hn x.hc;have ho:=qr6 x.ha x.hn x.hc;generalize hcs:hisZ x.ha x.hn x.hc=cs at *;have HC:Hid (hisZ x.ha x.hn x.hc=cs):=hcs
 have HI:Hid ((Tryz.prog.info? 69).map (·.size)=some cs.length):=by
  show _=_;rw [hl];exact qva
 have HOne:Hid (cs.toArray.all (·.oneCell')=true):=all_oneCell_toArray ho;have HT:Hid ((W1.alloc (zQ3)).there W1.heap.size 0 cs.toArray.size):=qb0 _ _ _ _ _ (by have h9:cs.toArray.size=21:=hl;rw [h9];rfl) rfl;have HN:Hid (HisQ ((W1.alloc (zQ3)).setCells W1.heap.size 0 cs) W1.heap.size x.ha x.hc x.y.hs (fun _=>0)/\Below W1.heap.size W1 ((W1.alloc (zQ3)).setCells W1.heap.size 0 cs)):=qui x W1 HO.out.cn.2.2.1 cs hcs;obtain ⟨s0,s1,s2,s3⟩:=B2.2;clear hok hl ho hcs;go_upto_region 4 with (refine wpList_store_mid rfl 69 (.tmp 5) (.tmp 11) rfl W1.heap.size 0 cs.toArray rfl (by rw [<- HC.out];rfl) HT.out (by simpa using HI.out) HOne.out ?_)
 clear s0 s1 s2 s3 HT HC HI HOne;generalize (W1.alloc (zQ3)).setCells W1.heap.size 0 cs=W3 at *;go_wp2_with fail
 refine (HPt.out HO.out W1.heap.size W3 (B2.1.trans (HN.2.mono B2.1.size)) B2.1.size HN.1).mono ?_;rintro e w4 ⟨rfl,b4⟩;have B4:Hid (Below w.heap.size w w4/\qB (x.y.hs.RwOk h n)=rwB x.y h n):=⟨b4,by rw [HR.out];rfl⟩
 rw [B4.2];clear b4 HN B2 HR;go_wp2;go_ret;exact ⟨rfl,B4.1⟩
theorem qt5 {w:World} {g a0 a1 a2 a3:Nat} {u0 u1 u2 u3:Value} (d01:a0≠a1) (d02:a0≠a2) (d03:a0≠a3) (d12:a1≠a2) (d13:a1≠a3) (d23:a2≠a3) (e0:(w.cell? ⟨g,a0,none⟩).isSome=true) (e1:(w.cell? ⟨g,a1,none⟩).isSome=true) (e2:(w.cell? ⟨g,a2,none⟩).isSome=true) (e3:(w.cell? ⟨g,a3,none⟩).isSome=true):
  let w':=(((w.setCell ⟨g,a0,none⟩ u0).setCell ⟨g,a1,none⟩ u1).setCell ⟨g,a2,none⟩ u2).setCell ⟨g,a3,none⟩ u3
  w'.cell? ⟨g,a0,none⟩=some u0/\w'.cell? ⟨g,a1,none⟩=some u1/\w'.cell? ⟨g,a2,none⟩=some u2/\w'.cell? ⟨g,a3,none⟩=some u3/\(∀ j,j≠a0->j≠a1->j≠a2->j≠a3->w'.cell? ⟨g,j,none⟩=w.cell? ⟨g,j,none⟩)/\(∀ j,w'.frozen? ⟨g,j,none⟩=w.frozen? ⟨g,j,none⟩)/\w'.heap.size=w.heap.size/\qap (fun b=>b=g) w w':=by
 have ho:∀ (W:World) (i j:Nat) (u:Value),i≠j->(W.setCell ⟨g,i,none⟩ u).cell? ⟨g,j,none⟩=W.cell? ⟨g,j,none⟩:=fun W i j u hij=>World.cell?_setCell_other _ _ _ _ (by intro e;injection e with _ e;exact hij e);refine ⟨?_,?_,?_,?_,fun j h0 h1 h2 h3=>?_,fun j=>?_,by simp,?_⟩
 ·rw [ho _ _ _ _ d03.symm,ho _ _ _ _ d02.symm,ho _ _ _ _ d01.symm]
  exact World.cell?_setCell_same' _ _ _ e0
 ·rw [ho _ _ _ _ d13.symm,ho _ _ _ _ d12.symm]
  exact World.cell?_setCell_same' _ _ _ (by rw [ho _ _ _ _ d01];exact e1)
 ·rw [ho _ _ _ _ d23.symm]
  exact World.cell?_setCell_same' _ _ _ (by rw [ho _ _ _ _ d12,ho _ _ _ _ d02];exact e2)
 ·exact World.cell?_setCell_same' _ _ _ (by rw [ho _ _ _ _ d23,ho _ _ _ _ d13,ho _ _ _ _ d03];exact e3)
 ·rw [ho _ _ _ _ h3.symm,ho _ _ _ _ h2.symm,ho _ _ _ _ h1.symm,ho _ _ _ _ h0.symm]
 ·rw [World.frozen?_setCell,World.frozen?_setCell,World.frozen?_setCell,World.frozen?_setCell]
 ·exact (((qap.of_set (P:=fun b=>b=g) w (a:=⟨g,a0,none⟩) rfl _).trans (qap.of_set (P:=fun b=>b=g) _ (a:=⟨g,a1,none⟩) rfl _)).trans (qap.of_set (P:=fun b=>b=g) _ (a:=⟨g,a2,none⟩) rfl _)).trans (qap.of_set (P:=fun b=>b=g) _ (a:=⟨g,a3,none⟩) rfl _)
variable {z:Bool}
theorem Sy.Ok.stY {y:Sy} (h:y.Ok) (p f:Int):(stY y p f).Ok:=by
 unfold Go.Proofs.YtegogmbfhddeoaaGreatDoor.stY;rw [if_pos (Sy.okB_true h)];by_cases hb:belB p y.pn=true
 ·rw [if_pos hb]
  have hb':0<=p/\p<(y.pn:Int):=of_decide_eq_true hb;by_cases hc:cmS y p.toNat f=0
  ·exact h.step (by omega) hc
  ·rw [Sy.step_no hc]
   exact h
 ·rw [if_neg hb]
  exact h
theorem qsz {x:SysIn} (h:x.y.Sm):x.Len:=by
 obtain ⟨⟨a,b,c,d⟩,h1,h2,h3,h4⟩:=h;refine ⟨⟨?_,fun i hi=>?_⟩,⟨?_,fun i hi=>?_⟩,⟨?_,fun i hi=>?_⟩,⟨?_,fun i hi=>?_⟩⟩
 ·exact zP a (by omega)
 ·exact zP (h1 i hi) (by omega)
 ·exact zP b (by omega)
 ·exact ⟨zP (h2 i hi).1 (by omega),zP (h2 i hi).2 (by omega)⟩
 ·exact zP c (by omega)
 ·exact zP (h3 i hi) (by omega)
 ·exact zP d (by omega)
 ·exact zP (h4 i hi) (by omega)
theorem qh9 (y:Sy) (p f:Int) (w:World) (B:Nat) (c:Nat->Nat) (vp vs vw vh:Value) (up us uw uh:Nat->Value) (o:OwnS z w B c y vp vs vw vh up us uw uh) (hB:B<=w.heap.size) (hO:y.Ok):
  Calls Tryz.prog 43 #[.agg #[vp,vs,vw,vh],pkV p f] w fun e w'=>e=.returned (.int .i64 (stC y p f))/\Below B w w'/\(∀ b,b<w.heap.size->c b=0->w'.heap[b]? = w.heap[b]?)/\OwnK z w' B c w.heap.size (stY y p f) vp vs vw vh:=by
 obtain ⟨x,hx⟩:∃ x,y.sysIn vp vs vw vh up us uw uh=x:=⟨_,rfl⟩
 have ey:x.y=y:=by rw [<- hx];rfl
 have ev:x.v=.agg #[vp,vs,vw,vh]:=by rw [<- hx];exact o.v
 have hG:SysG w x:=by rw [<- hx];exact o.g
 have HG:Hid (SysG w x):=hG;have HL:Hid x.Len:=qsz (by rw [ey];exact hO.sm);have HO:Hid x.y.Ok:=by rw [ey];exact hO
 have t:x.y.okB=true:=Sy.okB_true HO.out
 obtain ⟨k,q,v0,HCM⟩:∃ k q v0:Int,Hid ((∀ wx,Below w.heap.size w wx->Calls Tryz.prog 80 #[x.v,.int .i64 p,.int .i64 f] wx fun e w'=>e=.returned (.tuple #[evV k q v0,.int .i64 (stC x.y p f)])/\Below wx.heap.size wx w')/\(stC x.y p f≠0->stY x.y p f=x.y)/\(stC x.y p f=0->∃ a:Nat,p=a/\a<x.y.pn/\stY x.y p f=(x.y.evt a k q v0).way a k q v0/\(k=2->0<=q/\q<x.y.pn)/\(k=3->0<=q/\q<x.y.pn/\0<x.y.wL (q.toNat*x.y.pn+a)))):=by
  by_cases hb:belB p x.y.pn=true
  ·have hb':0<=p/\p<(x.y.pn:Int):=by simpa [belB] using hb
   obtain ⟨a,rfl⟩:∃ a:Nat,p=a:=⟨p.toNat,by omega⟩
   have ha:a<x.y.pn:=by omega
   obtain ⟨⟨h1,h4⟩,hs,hh,hw⟩:=HO.out.cn;have hC:stC x.y (a:Int) f=cmS x.y a f:=by rw [stC,if_pos t,if_pos hb,Int.toNat_natCast]
   have hY:stY x.y (a:Int) f=x.y.step a f:=by rw [stY,if_pos t,if_pos hb,Int.toNat_natCast]
   have hcall:∀ wx,Below w.heap.size w wx->Calls Tryz.prog 80 #[x.v,.int .i64 a,.int .i64 f] wx fun e w'=>e=.returned (.tuple #[cmV x a f,.int .i64 (cmC x a f)])/\Below wx.heap.size wx w':=fun wx hbx=>qkj x a f wx (HG.out.below hbx) HL.out ha h4 hs hh hw (HO.out.four ha) (HO.out.peer ha);by_cases h0:cmS x.y a f=0
   ·refine ⟨x.y.nk a,x.y.eq a f,x.y.ev a f,fun wx hbx=>?_,fun hne=>absurd (hC.trans h0) hne,fun _=>⟨a,rfl,ha,?_,fun hk=>?_,fun hk=>?_⟩⟩
    ·rw [hC,<- qrx h0]
     exact hcall wx hbx
    ·rw [hY,Sy.step,if_pos h0,Sy.way_evt]
    ·have:=HO.out.peer ha hk
     rw [Sy.eq,if_neg (by rw [hk];decide)];exact this
    ·exact qut (qpn h0 hk)
   ·refine ⟨0,0,0,fun wx hbx=>?_,fun _=>hY.trans (Sy.step_no h0),fun h=>absurd (hC.symm.trans h) h0⟩
    have e:cmV x a f=evV 0 0 0:=if_neg h0;rw [hC,<- e];exact hcall wx hbx
  ·have hC:stC x.y p f=2:=by rw [stC,if_pos t,if_neg hb]
   refine ⟨0,0,0,fun wx _=>?_,fun _=>?_,fun h=>?_⟩
   ·rw [hC]
    exact qkk x p f wx (by
     cases h:belB p x.pn with
     | false=>rfl
     | true=>exact absurd h hb)
   ·rw [stY,if_pos t,if_neg hb]
   ·rw [hC] at h
    cases h
 rw [ev,ey] at HCM;obtain ⟨pa,pc,rfl⟩:=zU o.p.row;obtain ⟨sa,sc,rfl⟩:=zU o.s.row;obtain ⟨wa,wc,rfl⟩:=zU o.t.row;obtain ⟨ha,hc,rfl⟩:=zU o.h.row;have HOW:Hid (OwnS z w B c y (.slice pa y.pn pc) (.slice sa y.sn sc) (.slice wa y.wn wc) (.slice ha y.hn hc) up us uw uh/\B<=w.heap.size/\y.Ok):=⟨o,hB,hO⟩
 generalize hC:stC y p f=C at *;generalize hY:stY y p f=Y at *;clear hC hY;clear HG HL HO t hG ev ey hx x o hB hO;have BA:Hid (Below w.heap.size w ((w.alloc (oQ5 pa y.pn pc sa y.sn sc wa y.wn wc ha y.hn hc)).alloc (.cells #[.int .i64 p,.int .i64 f] 65))):=(zQ _ _).trans ((zQ _ _).mono (by simp));have NB:Hid (BoxC ((w.alloc (oQ5 pa y.pn pc sa y.sn sc wa y.wn wc ha y.hn hc)).alloc (.cells #[.int .i64 p,.int .i64 f] 65)) w.heap.size (.slice pa y.pn pc) (.slice sa y.sn sc) (.slice wa y.wn wc) (.slice ha y.hn hc)):=(BoxC.new w _ _ _ _ _).below (zQ _ _)
 have PB:Hid (QsC ((w.alloc (oQ5 pa y.pn pc sa y.sn sc wa y.wn wc ha y.hn hc)).alloc (.cells #[.int .i64 p,.int .i64 f] 65)) (w.heap.size+1) (.int .i64 p) (.int .i64 f)):=by
  have:=QsC.new (w.alloc (oQ5 pa y.pn pc sa y.sn sc wa y.wn wc ha y.hn hc)) (.int .i64 p) (.int .i64 f) 65;rw [World.size_alloc] at this;exact this
 go_enter Tryz.func43,Tryz.ntmps43
 go_wp2_with fail
 generalize (w.alloc (oQ5 pa y.pn pc sa y.sn sc wa y.wn wc ha y.hn hc)).alloc (.cells #[.int .i64 p,.int .i64 f] 65)=W2 at *;refine (HCM.1 W2 BA.out).mono ?_;rintro e w5 ⟨rfl,q5⟩;have bb:=zQ w5 (oQ0 k q v0);have Q6:=q5.trans (bb.mono q5.size);have B6:Hid (Below w.heap.size w (w5.alloc (oQ0 k q v0))/\BoxC (w5.alloc (oQ0 k q v0)) w.heap.size (.slice pa y.pn pc) (.slice sa y.sn sc) (.slice wa y.wn wc) (.slice ha y.hn hc)/\QsC (w5.alloc (oQ0 k q v0)) (w.heap.size+1) (.int .i64 p) (.int .i64 f)/\EvK (w5.alloc (oQ0 k q v0)) w5.heap.size k q v0):=⟨BA.out.trans (Q6.mono BA.out.size),NB.out.below Q6,PB.out.below Q6,EvK.new w5 _ _ _ _⟩
 go_upto_region 2 with fail
 clear q5 bb Q6 BA NB PB;generalize w5.heap.size=E at *;generalize w5.alloc (oQ0 k q v0)=W6 at *;clear w5 W2;by_cases hc0:C=0
 ·obtain ⟨a,ea,ha',hY,hk2,hk3⟩:=HCM.2.2 hc0
  subst ea;subst hc0
  have HH:Hid (Calls Tryz.prog 81 #[.agg #[.slice pa y.pn pc,.slice sa y.sn sc,.slice wa y.wn wc,.slice ha y.hn hc],.int .i64 a,evV k q v0] W6 fun e w'=>e=.returned (.tuple #[])/\Below B W6 w'/\(∀ b,b<W6.heap.size->c b=0->w'.heap[b]? = W6.heap[b]?)/\OwnK z w' B c W6.heap.size Y (.slice pa y.pn pc) (.slice sa y.sn sc) (.slice wa y.wn wc) (.slice ha y.hn hc)):=by
   have h:=qon y a k q v0 W6 B _ _ _ _ _ up us uw uh (HOW.1.below B6.1) (zP HOW.2.1 B6.1.size) HOW.2.2 ha' hk2 hk3;rw [<- hY] at h;exact h
  obtain ⟨a0,a1,a2,a3⟩:=B6.2.1;obtain ⟨e0,e1,e2,-⟩:=B6.2.2.2;obtain ⟨f0,f1,-⟩:=B6.2.2.1;clear hY hk2 hk3 HCM;go_wp2_with fail
  refine HH.out.mono ?_;rintro e w7 ⟨rfl,q7,kp,c7,up7,us7,uw7,uh7,o7,kc7⟩;have B7:Hid (Below B w w7/\(∀ b,b<w.heap.size->c b=0->w7.heap[b]? = w.heap[b]?)/\OwnK z w7 B c w.heap.size Y (.slice pa y.pn pc) (.slice sa y.sn sc) (.slice wa y.wn wc) (.slice ha y.hn hc)):=⟨(B6.1.mono HOW.2.1).trans q7,fun b hb hz=>(kp b (zL hb B6.1.size) hz).trans (B6.1.block b hb),c7,up7,us7,uw7,uh7,o7,fun b hb=>kc7 b (zL hb B6.1.size)⟩
  clear a0 a1 a2 a3 e0 e1 e2 f0 f1 kp o7 q7 HH kc7;go_wp2;go_ret;exact ⟨rfl,B7.out⟩
 ·have tc:(C == 0)=false:=by simpa using hc0
  have hY:=HCM.2.1 hc0;have B7:Hid (Below B w W6/\(∀ b,b<w.heap.size->c b=0->W6.heap[b]? = w.heap[b]?)/\OwnK z W6 B c w.heap.size Y (.slice pa y.pn pc) (.slice sa y.sn sc) (.slice wa y.wn wc) (.slice ha y.hn hc)):=⟨B6.1.mono HOW.2.1,fun b hb _=>B6.1.block b hb,c,up,us,uw,uh,by rw [hY];exact HOW.1.below B6.1,fun _ _=>rfl⟩
  clear hY HCM hc0;go_wp2;go_ret;exact ⟨rfl,B7.out⟩
theorem Sy.Ok.nw {y:Sy} (h:y.Ok):(nwY y.pn y.pL y.pH).Ok:=by
 refine ⟨⟨h.cn.1,rfl,rfl,rfl⟩,h.pr,fun p hp=>?_,fun p hp i hi=>absurd hi (Nat.not_lt_zero _),fun a ha b hb=>⟨fun i hi=>absurd hi (Nat.not_lt_zero _),Nat.zero_le _,rfl⟩,⟨fun _=>0,.start,fun p hp=>rfl⟩⟩;have h9:=h.rp p hp;unfold repO at h9;by_cases e:qad (y.pH p) (y.pL p) 4=true/\y.hL p<=200
 ·show repO (y.pH p) (y.pL p) (fun _=>⟨0,0,0⟩) 0=some newS
  unfold repO;rw [if_pos ⟨e.1,Nat.zero_le _⟩];rfl
 ·rw [if_neg e] at h9
  cases h9
theorem Sy.Ok.snB {y:Sy} (h:y.Ok):snB y.pn y.pL y.pH=true:=by
 unfold Go.Proofs.YtegogmbfhddeoaaGreatDoor.snB;rw [decide_eq_true h.cn.1.2,Sy.okB_true h.nw];rfl
def rdPq (y:Sy) (p:Wo2):Int:=(y.hH p.m.toNat p.v.toNat).q
noncomputable def rdY (y:Sy) (h:Nat->Wo2):Nat->Sy
 | 0=>nwY y.pn y.pL y.pH
 | i+1=>stY (rdY y h i) (h i).m (rdPq y (h i))
theorem qhe {y:Sy} (h:y.Ok) (g:Nat->Wo2):∀ i,(rdY y g i).Ok
 | 0=>h.nw
 | i+1=>(qhe h g i).stY _ _
noncomputable def rdC (y:Sy) (h:Nat->Wo2) (i:Nat):Int:=stC (rdY y h i) (h i).m (rdPq y (h i))
def qt1 (y:Sy) (h:Nat->Wo2) (n:Nat):Prop:=∀ i,i<n->rdC y h i=0
noncomputable def rdB (y:Sy) (h:Nat->Wo2) (n:Nat):Bool:=rwB y h n && qB (qt1 y h n)
noncomputable def rdSs (y:Sy) (h:Nat->Wo2) (n:Nat):Sy:=if rdB y h n=true then rdY y h n else { y with pn:=0,sn:=0,wn:=0,hn:=0 }
theorem qh8 {y:Sy} {h:Nat->Wo2} {n:Nat} (e:rdB y h n=false):rdSs y h n={ y with pn:=0,sn:=0,wn:=0,hn:=0 }:=by
 unfold rdSs;rw [e];rfl
theorem qm0 {y:Sy} {h:Nat->Wo2} {n:Nat} (e:rdB y h n=true):rdSs y h n=rdY y h n:=if_pos e
theorem qjb {y:Sy} {h:Nat->Wo2} {n:Nat} (e:rwB y h n=false):rdB y h n=false:=by rw [rdB,e];rfl
theorem qeg {y:Sy} {h:Nat->Wo2} {n i:Nat} (hi:i<n) (hc:rdC y h i≠0):rdB y h n=false:=by
 rw [rdB,qar fun h9=>hc (h9 i hi),Bool.and_false]
theorem qqx {y:Sy} {h:Nat->Wo2} {n:Nat} (e:rwB y h n=true) (hc:∀ i,i<n->rdC y h i=0):rdB y h n=true:=by
 rw [rdB,e,qa3 (show qt1 y h n from hc)];rfl
theorem qtv {y:Sy} {h:Nat->Wo2} {n:Nat} (e:rwB y h n=true) {i:Nat} (hi:i<n):∃ p q:Nat,(h i).m=(p:Nat)/\(h i).v=(q:Nat)/\p<y.pn/\q<y.hL p/\y.Ok:=by
 unfold rwB at e;simp only [Bool.and_eq_true] at e;obtain ⟨e1,e2⟩:=e;obtain ⟨h1,-⟩:=qny.1 e2;obtain ⟨p,hp,m1,m2,m3⟩:=h1 i hi;exact ⟨p,_,m1,m2,hp,m3.1,Sy.ok_of e1⟩
variable {z:Bool}
theorem qvj {y:Sy} (h:y.Ok) (p f:Int):(stY y p f).pn=y.pn:=by
 unfold Go.Proofs.YtegogmbfhddeoaaGreatDoor.stY;rw [if_pos (Sy.okB_true h)];by_cases hb:belB p y.pn=true
 ·rw [if_pos hb]
  unfold Sy.step
  split <;> rfl
 ·rw [if_neg hb]
structure Rdw (w:World) (x:SysIn) (wx:World):Prop where
 be:Below w.heap.size w wx
 bs:BoxC wx w.heap.size (.slice x.pa x.pn x.pc) (.slice x.sa x.sn x.sc) (.slice x.wa x.wn x.wc) (.slice x.ha x.hn x.hc)
 bo:BoxC wx (w.heap.size+1) (.slice none 0 0) (.slice none 0 0) (.slice none 0 0) (.slice none 0 0)
 fo:∀ j,wx.frozen? ⟨w.heap.size+1,j,none⟩=false
 lt:w.heap.size+1<wx.heap.size
theorem Rdw.keep {w:World} {x:SysIn} {wx wy:World} {B:Nat} (h:Rdw w x wx) (hB:w.heap.size+1<B) (hb:Below B wx wy):Rdw w x wy:=by
 have hs:wx.heap.size<=wy.heap.size:=hb.size;exact ⟨h.be.trans (hb.mono (by omega)),h.bs.blkK (hb.block _ (by omega)),h.bo.blkK (hb.block _ hB),fun j=>(zI (hb.block _ hB)).trans (h.fo j),zL h.lt hs⟩
theorem Rdw.below {w:World} {x:SysIn} {wx wy:World} (h:Rdw w x wx) (hb:Below wx.heap.size wx wy):Rdw w x wy:=h.keep h.lt hb
theorem Rdw.new (w:World) (x:SysIn):Rdw w x ((w.alloc (oQ5 x.pa x.pn x.pc x.sa x.sn x.sc x.wa x.wn x.wc x.ha x.hn x.hc)).alloc (zQ4)):=by
 have hn:=BoxC.new (w.alloc (oQ5 x.pa x.pn x.pc x.sa x.sn x.sc x.wa x.wn x.wc x.ha x.hn x.hc)) (.slice none 0 0) (.slice none 0 0) (.slice none 0 0) (.slice none 0 0) 29;rw [World.size_alloc] at hn;have hs:(w.alloc (oQ5 x.pa x.pn x.pc x.sa x.sn x.sc x.wa x.wn x.wc x.ha x.hn x.hc)).heap.size=w.heap.size+1:=by simp
 refine ⟨(zT _ _).trans ((zT _ _).mono (by simp)),(BoxC.new w _ _ _ _ _).below (zT _ _),hn,fun j=>?_,by simp⟩;rw [<- hs];exact yB _ _ _ _ rfl
structure RdK (w:World) (x:SysIn) (B A:Nat) (Y:Sy) (vp vs vw vh:Value) (wx:World):Prop where
 rw:Rdw w x wx
 bx:BoxC wx A vp vs vw vh
 ow:∃ c up us uw uh,OwnS false wx B c Y vp vs vw vh up us uw uh/\c A=0
 nb:w.heap.size+1<B/\B<=A
theorem RdK.below {w:World} {x:SysIn} {B A:Nat} {Y:Sy} {vp vs vw vh:Value} {wx wy:World} (h:RdK w x B A Y vp vs vw vh wx) (hb:Below wx.heap.size wx wy):RdK w x B A Y vp vs vw vh wy:=by
 obtain ⟨c,up,us,uw,uh,o,hc⟩:=h.ow;exact ⟨h.rw.below hb,h.bx.below hb,⟨c,up,us,uw,uh,o.below hb,hc⟩,h.nb⟩
theorem RdK.lt {w:World} {x:SysIn} {B A:Nat} {Y:Sy} {vp vs vw vh:Value} {wx:World} (h:RdK w x B A Y vp vs vw vh wx):A<wx.heap.size:=zJ wx _ h.bx.1
theorem RdK.step {w:World} {x:SysIn} {B A:Nat} {Y:Sy} {vp vs vw vh:Value} {wx:World} (h:RdK w x B A Y vp vs vw vh wx) (hO:Y.Ok) (a f:Int):
  Calls Tryz.prog 43 #[.agg #[vp,vs,vw,vh],pkV a f] wx fun e w'=>e=.returned (.int .i64 (stC Y a f))/\RdK w x B A (stY Y a f) vp vs vw vh w':=by
 obtain ⟨c,up,us,uw,uh,o,hc⟩:=h.ow;have hA:=h.lt;refine (qh9 Y a f wx B c vp vs vw vh up us uw uh o (by have:=h.nb;omega) hO).mono ?_;rintro e w' ⟨rfl,b1,kp,c',up',us',uw',uh',o',kc⟩;exact ⟨rfl,h.rw.keep h.nb.1 b1,h.bx.blkK (kp A hA hc),⟨c',up',us',uw',uh',o',(kc A hA).trans hc⟩,h.nb⟩
theorem RdK.stepP {w:World} {x:SysIn} {B A:Nat} {Y:Sy} {vp vs vw vh:Value} {wr:World} (h:RdK w x B A Y vp vs vw vh wr) (hO:Y.Ok) (ob:Obj) (a f:Int):
  Calls Tryz.prog 43 #[.agg #[vp,vs,vw,vh],pkV a f] (wr.alloc ob).drew fun e w'=>e=.returned (.int .i64 (stC Y a f))/\RdK w x B A (stY Y a f) vp vs vw vh w'/\w'.heap[wr.heap.size]? = (wr.alloc ob).heap[wr.heap.size]? /\ Below B (wr.alloc ob).drew w':=by
 have hA:=h.lt;obtain ⟨c,up,us,uw,uh,o,hc⟩:=h.ow;have ba:Below wr.heap.size wr (wr.alloc ob).drew:=(zT wr ob).drew;have o2:=(o.recol 0).below ba;have hsz:(wr.alloc ob).drew.heap.size=wr.heap.size+1:=by show (wr.alloc ob).heap.size=_;simp
 have hcA:rcol c wr.heap.size 0 A=0:=by
  unfold rcol;rw [if_pos hA];exact hc
 refine (qh9 Y a f (wr.alloc ob).drew B _ vp vs vw vh up us uw uh o2 (by have:=h.nb;omega) hO).mono ?_;rintro e w' ⟨rfl,b1,kp,c',up',us',uw',uh',o',kc⟩;exact ⟨rfl,⟨(h.rw.below ba).keep h.nb.1 b1,(h.bx.below ba).blkK (kp A (by omega) hcA),⟨c',up',us',uw',uh',o',(kc A (by omega)).trans hcA⟩,h.nb⟩,kp wr.heap.size (by omega) (qaf (Nat.le_refl _)),b1⟩
theorem RdK.own {w:World} {x:SysIn} {B A:Nat} {Y:Sy} {vp vs vw vh:Value} {wx:World} (h:RdK w x B A Y vp vs vw vh wx):qaw false ((((wx.setCell ⟨w.heap.size+1,0,none⟩ vp).setCell ⟨w.heap.size+1,1,none⟩ vs).setCell ⟨w.heap.size+1,2,none⟩ vw).setCell ⟨w.heap.size+1,3,none⟩ vh) w.heap.size Y (.agg #[vp,vs,vw,vh])/\Below w.heap.size w ((((wx.setCell ⟨w.heap.size+1,0,none⟩ vp).setCell ⟨w.heap.size+1,1,none⟩ vs).setCell ⟨w.heap.size+1,2,none⟩ vw).setCell ⟨w.heap.size+1,3,none⟩ vh):=by
 obtain ⟨c,up,us,uw,uh,o,hc⟩:=h.ow;have o1:qaw false wx B Y (.agg #[vp,vs,vw,vh]):=⟨c,vp,vs,vw,vh,up,us,uw,uh,rfl,o⟩
 have l1:=h.nb.1;have le1:∀ t,w.heap.size<=(⟨w.heap.size+1,t,none⟩:Addr).block:=fun _=>Nat.le_succ _;exact ⟨((((o1.setBelow l1 0 _).setBelow l1 1 _).setBelow l1 2 _).setBelow l1 3 _).base (by omega),(((h.rw.be.setCell (le1 _) _).setCell (le1 _) _).setCell (le1 _) _).setCell (le1 _) _⟩
theorem Rdw.zero {w:World} {x:SysIn} {wx:World} (h:Rdw w x wx):Below w.heap.size w ((((wx.setCell ⟨w.heap.size+1,0,none⟩ (.slice none 0 0)).setCell ⟨w.heap.size+1,1,none⟩ (.slice none 0 0)).setCell ⟨w.heap.size+1,2,none⟩ (.slice none 0 0)).setCell ⟨w.heap.size+1,3,none⟩ (.slice none 0 0)):=by
 have le1:∀ t,w.heap.size<=(⟨w.heap.size+1,t,none⟩:Addr).block:=fun _=>Nat.le_succ _;exact (((h.be.setCell (le1 _) _).setCell (le1 _) _).setCell (le1 _) _).setCell (le1 _) _
theorem qkv (x:SysIn) (la:Option Addr) (n lc:Nat) (h:Nat->Wo2) (w:World) (hG:SysG w x) (hL:x.Len) (hW:WoL w la n h) (hn:n<=1048576) (hV:w.cell? ⟨0,0,none⟩=some (.iface 253 (.agg #[.pointer (some ⟨1,171,none⟩)]))):
  Calls Tryz.prog 11 #[x.v,.slice la n lc] w fun e w'=>∃ u,e=.returned (.tuple #[u,.bool (rdB x.y h n)])/\qaw false w' w.heap.size (rdSs x.y h n) u/\Below w.heap.size w w':=by
 have hVb:∀ wx,Below w.heap.size w wx->wx.cell? ⟨0,0,none⟩=some (.iface 253 (.agg #[.pointer (some ⟨1,171,none⟩)])):=fun wx hb=>(hb.cell (zJ w _ hV)).trans hV
 have HRo:Hid (∀ t,rwB x.y h n=t->∀ wx,Below w.heap.size w wx->Calls Tryz.prog 13 #[x.v,.slice la n lc] wx fun e w'=>e=.returned (.bool t)/\Below wx.heap.size wx w'):=fun t ht wx hb=>by
  rw [<- ht];exact qfb x la n lc h wx (hG.below hb) hL (hW.below hb) hn (hVb wx hb)
 have HNw:Hid (∀ wx,Below w.heap.size w wx->Calls Tryz.prog 42 #[.slice x.pa x.pn x.pc] wx (NwR wx x.pn x.pL x.pH)):=fun wx hb=>qhq x.pa x.pn x.pc x.pA x.pL x.pC x.pH wx hL.p.1 hL.p.2 (hG.below hb).p (hG.below hb).pi (hVb wx hb);have HW:Hid (∀ wx,Below w.heap.size w wx->WoL wx la n h):=fun wx hb=>hW.below hb;have HG:Hid (∀ wx,Below w.heap.size w wx->SysG wx x):=fun wx hb=>hG.below hb;have X0:Hid (Rdw w x ((w.alloc (oQ5 x.pa x.pn x.pc x.sa x.sn x.sc x.wa x.wn x.wc x.ha x.hn x.hc)).alloc (zQ4))):=Rdw.new w x;have hn':(n:Int)<=1048576:=by omega
 clear hG hL hW hV hVb
 go_enter Tryz.func11,Tryz.ntmps11
 go_upto_region 1 with fail
 generalize (w.alloc (oQ5 x.pa x.pn x.pc x.sa x.sn x.sc x.wa x.wn x.wc x.ha x.hn x.hc)).alloc (zQ4)=W1 at *;obtain ⟨k0,k1,k2,k3⟩:=X0.out.bs;go_wp2_with fail
 clear k0 k1 k2 k3;cases hr:rwB x.y h n with
 | false=>
  have HF:Hid (rdB x.y h n=false/\rdSs x.y h n={ x.y with pn:=0,sn:=0,wn:=0,hn:=0 }):=⟨qjb hr,qh8 (qjb hr)⟩
  refine (HRo.out false hr W1 X0.out.be).mono ?_;rintro e w2 ⟨rfl,b2⟩;have X2:Hid (Rdw w x w2):=X0.out.below b2;clear b2 X0;obtain ⟨r0,r1,r2,r3⟩:=X2.out.bo;have rf:=X2.out.fo;go_wp2;exact bodyPost_ret (v:=.tuple #[sysV none 0 0 none 0 0 none 0 0 none 0 0,.bool false]) (by simp [results,Tryz.results11,go_sem,r0,r1,r2,r3]) rfl ⟨_,by rw [HF.1],by rw [HF.2];exact qaw.zero _ _ _,X2.out.zero⟩
 | true=>
  refine (HRo.out true hr W1 X0.out.be).mono ?_;rintro e w2 ⟨rfl,b2⟩;have X2:Hid (Rdw w x w2):=X0.out.below b2;have HAt:Hid (∀ i,i<n->∃ p q:Nat,(h i).m=(p:Nat)/\(h i).v=(q:Nat)/\p<x.y.pn/\q<x.y.hL p/\x.y.Ok):=fun i hi=>qtv hr hi;have hOk:x.y.Ok:=Sy.ok_of (by unfold rwB at hr;simp only [Bool.and_eq_true] at hr;exact hr.1);have HO:Hid (x.y.Ok/\rwB x.y h n=true/\nwN x.pn x.pL x.pH=x.pn/\snB x.pn x.pL x.pH=true):=⟨hOk,hr,if_pos hOk.snB,hOk.snB⟩
  clear b2 X0 HRo hOk hr;obtain ⟨k0,k1,k2,k3⟩:=X2.out.bs;go_wp2_with fail
  clear k0 k1 k2 k3;refine (HNw.out w2 X2.out.be).mono ?_;rintro e w3 ⟨pa,pc,sa,sc,wa,wc,ha,hc,rfl,o3,q3⟩;rw [HO.2.2.1] at o3 ⊢;obtain ⟨c,up,us,o3⟩:=o3.s;have ba:=zT w3 (oQ5 pa x.pn pc sa x.pn sc wa (x.pn*x.pn) wc ha x.pn hc);have L4:Hid (RdK w x w2.heap.size w3.heap.size (rdY x.y h 0) (.slice pa x.pn pc) (.slice sa x.pn sc) (.slice wa (x.pn*x.pn) wc) (.slice ha x.pn hc) (w3.alloc (oQ5 pa x.pn pc sa x.pn sc wa (x.pn*x.pn) wc ha x.pn hc))):=⟨X2.out.below (q3.trans (ba.mono q3.size)),BoxC.new w3 _ _ _ _ _,⟨_,up,us,_,_,(o3.recol 0).below ba,qaf (Nat.le_refl _)⟩,X2.out.lt,q3.size⟩
  go_upto_region 4 with fail
  clear o3 q3 ba X2 HNw;generalize w2.heap.size=B at *;generalize w3.alloc (oQ5 pa x.pn pc sa x.pn sc wa (x.pn*x.pn) wc ha x.pn hc)=w4 at *;generalize w3.heap.size=A at *;go_wp2_with fail
  go_loopw [23] (fun i wr=>∃ j:Nat,j<=n/\i=.int .i64 (j:Nat)/\Hid (RdK w x B A (rdY x.y h j) (.slice pa x.pn pc) (.slice sa x.pn sc) (.slice wa (x.pn*x.pn) wc) (.slice ha x.pn hc) wr/\∀ i,i<j->rdC x.y h i=0)) (fun i _=>n - (intOf i).toNat)
  case atStart=>exact ⟨0,Nat.zero_le _,rfl,L4.out,fun i hi=>absurd hi (Nat.not_lt_zero _)⟩
  case round=>
   clear L4
   rename World=>wr
   obtain ⟨j,hj,rfl,HK⟩:=hrel;by_cases hlt:j<n
   case neg=>
    have hjn:j=n:=by omega
    have HF:Hid (rdB x.y h n=true/\rdSs x.y h n=rdY x.y h j):=by
     have h9:rdB x.y h n=true:=qqx HO.2.1 fun i hi=>HK.2 i (by omega);exact ⟨h9,by rw [qm0 h9,hjn]⟩
    obtain ⟨k0,k1,k2,k3⟩:=HK.1.bx;obtain ⟨r0,r1,r2,r3⟩:=HK.1.rw.bo;have rf:=HK.1.rw.fo;have HE:=HK.1.own;clear hjn;go_wp2;exact bodyPost_ret (v:=.tuple #[.agg #[.slice pa x.pn pc,.slice sa x.pn sc,.slice wa (x.pn*x.pn) wc,.slice ha x.pn hc],.bool true]) (by simp [results,Tryz.results11,go_sem,r0,r1,r2,r3]) rfl ⟨_,by rw [HF.1],by rw [HF.2];exact HE.1,HE.2⟩
   have hlt':(j:Int)<(n:Int):=by omega
   obtain ⟨p,q,em,eq,hp,hq,-⟩:=HAt.out j hlt;obtain ⟨b,off,rfl,-,c0,c1⟩:=(HW.out wr HK.1.rw.be).at hlt;rw [em] at c0;rw [eq] at c1;have hhn:x.hn=x.y.pn:=HO.1.cn.2.2.1;have hp':(p:Int)<(x.hn:Int):=by rw [hhn];omega
   have hq':(q:Int)<(x.hL p:Int):=by have:x.y.hL p=x.hL p:=rfl;omega
   have HQ:Hid ((h j).m=(p:Nat)/\(h j).v=(q:Nat)/\rdPq x.y (h j)=(x.hH p q).q):=⟨em,eq,by unfold rdPq;rw [em,eq,Int.toNat_natCast,Int.toNat_natCast];rfl⟩
   have HPp:Hid (p<x.hn/\q<x.hL p):=⟨by rw [hhn];exact hp,hq⟩
   have K1:Hid (RdK w x B A (rdY x.y h j) (.slice pa x.pn pc) (.slice sa x.pn sc) (.slice wa (x.pn*x.pn) wc) (.slice ha x.pn hc) (wr.alloc (oQ3 (p:Nat) (q:Nat)))/\(∀ i,i<j->rdC x.y h i=0)/\BoxS (wr.alloc (oQ3 (p:Nat) (q:Nat))) wr.heap.size (.int .i64 (p:Nat)) (.int .i64 (q:Nat))):=⟨HK.1.below (zT _ _),HK.2,BoxS.new wr _ _ _⟩
   clear hhn hp hq em eq;obtain ⟨bh,oh,eh,ch⟩:=(HG.out w (Below.refl _ _)).h.at HPp.1;have hch:w.cell? ⟨bh,oh+p,none⟩=some (.slice (x.hA p) (x.hL p) (x.hC p)):=ch;obtain ⟨be,oe,ee,ze,-,e1,-⟩:=((HG.out w (Below.refl _ _)).hi p HPp.1).at HPp.2;rw [ee] at hch;have HCe:Hid (∀ wx,Below w.heap.size w wx->wx.cell? ⟨bh,oh+p,none⟩=some (.slice (some ⟨be,oe,none⟩) (x.hL p) (x.hC p))/\wx.cell? ⟨be,oe+q*3+1,none⟩=some (.int .i64 (rdPq x.y (h j)))):=fun wx hb=>⟨(hb.cell (zJ w _ hch)).trans hch,by rw [HQ.2.2];exact (hb.cell ze).trans e1⟩
   have HEh:Hid (x.ha=some ⟨bh,oh,none⟩):=eh;clear ch e1 hch eh ee ze
   have HSt:Hid (Calls Tryz.prog 43 #[.agg #[.slice pa x.pn pc,.slice sa x.pn sc,.slice wa (x.pn*x.pn) wc,.slice ha x.pn hc],pkV (p:Nat) (rdPq x.y (h j))] (wr.alloc (oQ3 (p:Nat) (q:Nat))).drew fun e w'=>e=.returned (.int .i64 (rdC x.y h j))/\RdK w x B A (rdY x.y h (j+1)) (.slice pa x.pn pc) (.slice sa x.pn sc) (.slice wa (x.pn*x.pn) wc) (.slice ha x.pn hc) w'/\w'.heap[wr.heap.size]? = (wr.alloc (oQ3 (p:Nat) (q:Nat))).heap[wr.heap.size]? /\ Below B (wr.alloc (oQ3 (p:Nat) (q:Nat))).drew w'):=by
    have h9:=HK.1.stepP (qhe HO.1 h j) (oQ3 (p:Nat) (q:Nat)) (h j).m (rdPq x.y (h j));rw [HQ.1] at h9
    have e9:stY (rdY x.y h j) ((p:Nat):Int) (rdPq x.y (h j))=rdY x.y h (j+1):=by
     show _=stY (rdY x.y h j) (h j).m (rdPq x.y (h j));rw [HQ.1]
    have e8:stC (rdY x.y h j) ((p:Nat):Int) (rdPq x.y (h j))=rdC x.y h j:=by
     show _=stC (rdY x.y h j) (h j).m (rdPq x.y (h j));rw [HQ.1]
    rw [e9,e8] at h9;exact h9
   go_upto_region 7 with fail
   clear c0 c1 HK;generalize wr.heap.size=P at *;generalize wr.alloc (oQ3 (p:Nat) (q:Nat))=w5 at *;clear wr
   have hS:∀ wx,RdK w x B A (rdY x.y h j) (.slice pa x.pn pc) (.slice sa x.pn sc) (.slice wa (x.pn*x.pn) wc) (.slice ha x.pn hc) wx\/RdK w x B A (rdY x.y h (j+1)) (.slice pa x.pn pc) (.slice sa x.pn sc) (.slice wa (x.pn*x.pn) wc) (.slice ha x.pn hc) wx->BoxS wx P (.int .i64 (p:Nat)) (.int .i64 (q:Nat))->(fun w':World=>BoxC w' A (.slice pa x.pn pc) (.slice sa x.pn sc) (.slice wa (x.pn*x.pn) wc) (.slice ha x.pn hc)/\w'.cell? ⟨P,0,none⟩=some (.int .i64 (p:Nat))/\w'.cell? ⟨P,1,none⟩=some (.int .i64 (q:Nat))/\w'.cell? ⟨w.heap.size,3,none⟩=some (.slice (some ⟨bh,oh,none⟩) x.hn x.hc)/\w'.cell? ⟨bh,oh+p,none⟩=some (.slice (some ⟨be,oe,none⟩) (x.hL p) (x.hC p))/\w'.cell? ⟨be,oe+q*3+1,none⟩=some (.int .i64 (rdPq x.y (h j)))) wx:=fun wx hk hp=>by
    have hr:Rdw w x wx/\BoxC wx A (.slice pa x.pn pc) (.slice sa x.pn sc) (.slice wa (x.pn*x.pn) wc) (.slice ha x.pn hc):=by
     rcases hk with hk | hk
     ·exact ⟨hk.rw,hk.bx⟩
     ·exact ⟨hk.rw,hk.bx⟩
    refine ⟨hr.2,hp.1,hp.2,?_,(HCe.out wx hr.1.be).1,(HCe.out wx hr.1.be).2⟩;rw [<- HEh.out];exact hr.1.bs.2.2.2
   have q0:Below w5.heap.size w5 w5.drew:=(Below.refl w5.heap.size w5).drew;have hHeld:(fun w':World=>BoxC w' A (.slice pa x.pn pc) (.slice sa x.pn sc) (.slice wa (x.pn*x.pn) wc) (.slice ha x.pn hc)/\w'.cell? ⟨P,0,none⟩=some (.int .i64 (p:Nat))/\w'.cell? ⟨P,1,none⟩=some (.int .i64 (q:Nat))/\w'.cell? ⟨w.heap.size,3,none⟩=some (.slice (some ⟨bh,oh,none⟩) x.hn x.hc)/\w'.cell? ⟨bh,oh+p,none⟩=some (.slice (some ⟨be,oe,none⟩) (x.hL p) (x.hC p))/\w'.cell? ⟨be,oe+q*3+1,none⟩=some (.int .i64 (rdPq x.y (h j)))) w5.drew:=hS _ (.inl (K1.1.below q0)) (K1.2.2.below q0);refine qak (fun w':World=>BoxC w' A (.slice pa x.pn pc) (.slice sa x.pn sc) (.slice wa (x.pn*x.pn) wc) (.slice ha x.pn hc)/\w'.cell? ⟨P,0,none⟩=some (.int .i64 (p:Nat))/\w'.cell? ⟨P,1,none⟩=some (.int .i64 (q:Nat))/\w'.cell? ⟨w.heap.size,3,none⟩=some (.slice (some ⟨bh,oh,none⟩) x.hn x.hc)/\w'.cell? ⟨bh,oh+p,none⟩=some (.slice (some ⟨be,oe,none⟩) (x.hL p) (x.hC p))/\w'.cell? ⟨be,oe+q*3+1,none⟩=some (.int .i64 (rdPq x.y (h j)))) (fun _=>false) (by kernel_rfl) ?_;refine qaa 0 rfl hHeld ?_;apply Exists.intro;refine ⟨fun wq hSw=>?_,?_⟩
   ·obtain ⟨⟨g0,g1,g2,g3⟩,g4,g5,g6,g7,g8⟩:=hSw
    go_simp;try with_reducible rfl
   (try simp only [Act.put,zD,zE,zF])
   refine qaa 1 rfl hHeld ?_;apply Exists.intro;refine ⟨fun wq hSw=>?_,?_⟩
   ·obtain ⟨⟨g0,g1,g2,g3⟩,g4,g5,g6,g7,g8⟩:=hSw
    go_simp;try with_reducible rfl
   (try simp only [Act.put,zD,zE,zF])
   refine qaa 2 rfl hHeld ?_;apply Exists.intro;refine ⟨fun wq hSw=>?_,?_⟩
   ·obtain ⟨⟨g0,g1,g2,g3⟩,g4,g5,g6,g7,g8⟩:=hSw
    go_simp;try with_reducible rfl
   (try simp only [Act.put,zD,zE,zF])
   refine qaa 3 rfl hHeld ?_;apply Exists.intro;refine ⟨fun wq hSw=>?_,?_⟩
   ·obtain ⟨⟨g0,g1,g2,g3⟩,g4,g5,g6,g7,g8⟩:=hSw
    go_simp;try with_reducible rfl
   (try simp only [Act.put,zD,zE,zF])
   refine qaa 4 rfl hHeld ?_;apply Exists.intro;refine ⟨fun wq hSw=>?_,?_⟩
   ·obtain ⟨⟨g0,g1,g2,g3⟩,g4,g5,g6,g7,g8⟩:=hSw
    go_simp;try with_reducible rfl
   (try simp only [Act.put,zD,zE,zF])
   refine qaa 5 rfl hHeld ?_;apply Exists.intro;refine ⟨fun wq hSw=>?_,?_⟩
   ·obtain ⟨⟨g0,g1,g2,g3⟩,g4,g5,g6,g7,g8⟩:=hSw
    go_simp;try with_reducible rfl
   (try simp only [Act.put,zD,zE,zF])
   refine qaa 6 rfl hHeld ?_;apply Exists.intro;refine ⟨fun wq hSw=>?_,?_⟩
   ·obtain ⟨⟨g0,g1,g2,g3⟩,g4,g5,g6,g7,g8⟩:=hSw
    go_simp;try with_reducible rfl
   (try simp only [Act.put,zD,zE,zF])
   refine qaa 7 rfl hHeld ?_;apply Exists.intro;refine ⟨fun wq hSw=>?_,?_⟩
   ·obtain ⟨⟨g0,g1,g2,g3⟩,g4,g5,g6,g7,g8⟩:=hSw
    go_simp;try with_reducible rfl
   (try simp only [Act.put,zD,zE,zF])
   refine qaa 8 rfl hHeld ?_;apply Exists.intro;refine ⟨fun wq hSw=>?_,?_⟩
   ·obtain ⟨⟨g0,g1,g2,g3⟩,g4,g5,g6,g7,g8⟩:=hSw
    go_simp;try with_reducible rfl
   (try simp only [Act.put,zD,zE,zF])
   refine qaa 9 rfl hHeld ?_;apply Exists.intro;refine ⟨fun wq hSw=>?_,?_⟩
   ·obtain ⟨⟨g0,g1,g2,g3⟩,g4,g5,g6,g7,g8⟩:=hSw
    go_simp;try with_reducible rfl
   (try simp only [Act.put,zD,zE,zF])
   refine qaa 10 rfl hHeld ?_;apply Exists.intro;refine ⟨fun wq hSw=>?_,?_⟩
   ·obtain ⟨⟨g0,g1,g2,g3⟩,g4,g5,g6,g7,g8⟩:=hSw
    go_simp;try with_reducible rfl
   (try simp only [Act.put,zD,zE,zF])
   refine qaa 11 rfl hHeld ?_;apply Exists.intro;refine ⟨fun wq hSw=>?_,?_⟩
   ·obtain ⟨⟨g0,g1,g2,g3⟩,g4,g5,g6,g7,g8⟩:=hSw
    go_simp;try with_reducible rfl
   (try simp only [Act.put,zD,zE,zF])
   refine qaa 12 rfl hHeld ?_;apply Exists.intro;refine ⟨fun wq hSw=>?_,?_⟩
   ·obtain ⟨⟨g0,g1,g2,g3⟩,g4,g5,g6,g7,g8⟩:=hSw
    go_simp;try with_reducible rfl
   (try simp only [Act.put,zD,zE,zF])
   refine qaa 13 rfl hHeld ?_;apply Exists.intro;refine ⟨fun wq hSw=>?_,?_⟩
   ·obtain ⟨⟨g0,g1,g2,g3⟩,g4,g5,g6,g7,g8⟩:=hSw
    go_simp;try with_reducible rfl
   (try simp only [Act.put,zD,zE,zF])
   refine qaa 14 rfl hHeld ?_;apply Exists.intro;refine ⟨fun wq hSw=>?_,?_⟩
   ·obtain ⟨⟨g0,g1,g2,g3⟩,g4,g5,g6,g7,g8⟩:=hSw
    go_simp;try with_reducible rfl
   (try simp only [Act.put,zD,zE,zF])
   refine qac 15 rfl (by kernel_rfl) (fun Kc hKc=>?_);refine qbn rfl 43 _ _ rfl #[.agg #[.slice pa x.pn pc,.slice sa x.pn sc,.slice wa (x.pn*x.pn) wc,.slice ha x.pn hc],pkV (p:Nat) (rdPq x.y (h j))] (by simp [Act.eval]) (yA Tryz.func43 (by kernel_rfl) rfl) HSt.out ?_;rintro e w6 ⟨rfl,k6,kP,b6⟩;refine ⟨_,rfl,?_⟩;refine hKc.out _ _ (fun _=>hS _ (.inr k6) (K1.2.2.blk kP)) ?_;have K6:Hid (RdK w x B A (rdY x.y h (j+1)) (.slice pa x.pn pc) (.slice sa x.pn sc) (.slice wa (x.pn*x.pn) wc) (.slice ha x.pn hc) w6/\∀ i,i<j->rdC x.y h i=0):=⟨k6,K1.2.1⟩
   clear hKc Kc hHeld HSt k6 K1 kP b6 hS HCe HEh
   (try simp only [Act.put,zD,zE,zF])
   refine qcv 16 rfl (by kernel_rfl) (by kernel_rfl) (by kernel_rfl) (fun _ _ _ _ h=>h) (by rfl) ?_;apply Exists.intro;refine ⟨fun wq=>?_,?_⟩
   ·go_simp
    try with_reducible rfl
   (try simp only [Act.put,zD,zE,zF])
   refine qas (by kernel_rfl) ?_ _;by_cases hc0:rdC x.y h j=0
   case neg=>
    have hne:(rdC x.y h j != 0)=true:=by simpa using hc0
    have HF:Hid (rdB x.y h n=false/\rdSs x.y h n={ x.y with pn:=0,sn:=0,wn:=0,hn:=0 }):=⟨qeg hlt hc0,qh8 (qeg hlt hc0)⟩
    generalize rdC x.y h j=cd at *;obtain ⟨r0,r1,r2,r3⟩:=K6.1.rw.bo;have rf:=K6.1.rw.fo;clear hc0;go_wp2;exact bodyPost_ret (v:=.tuple #[sysV none 0 0 none 0 0 none 0 0 none 0 0,.bool false]) (by simp [results,Tryz.results11,go_sem,r0,r1,r2,r3]) rfl ⟨_,by rw [HF.1],by rw [HF.2];exact qaw.zero _ _ _,K6.1.rw.zero⟩
   have hne:(rdC x.y h j != 0)=false:=by simp [hc0]
   have K7 : Hid (RdK w x B A (rdY x.y h (j + 1)) (.slice pa x.pn pc) (.slice sa x.pn sc) (.slice wa (x.pn * x.pn) wc) (.slice ha x.pn hc) w6 ∧ ∀ i, i < j + 1 → rdC x.y h i = 0) := ⟨K6.1, fun i hi => by
    by_cases e:i=j
    ·subst e
     exact hc0
    ·exact K6.2 i (by omega)⟩
   rw [hc0] at hne ⊢;clear hc0 K6;go_wp2;go_roundw
   case rel=>exact ⟨j+1,by omega,by go_num,K7.out⟩
   case measure=>simp [intOf];omega
