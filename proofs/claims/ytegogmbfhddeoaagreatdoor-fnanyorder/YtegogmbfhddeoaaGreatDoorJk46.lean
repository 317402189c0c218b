/- Proved: whatever bytes are drawn by, a drawn system that is done again in a drawn order of its events has the same events and states, and the same numbers on its ways, and is right; nothing is written into what came in. One condition, tied to the program's text: errors.errorType holds what its text lays. -/
import Derived.Test.YtegogmbfhddeoaaGreatDoorJk44
import Derived.Test.YtegogmbfhddeoaaGreatDoorJk45
import Derived.Test.YtegogmbfhddeoaaGreatDoorCards
import Derived.SevenTiedAt
namespace Go.Proofs.YtegogmbfhddeoaaGreatDoor
set_option maxRecDepth 100000
set_option maxHeartbeats 8000000
open Go.ChangeShapes Go.WideShapes Go.ChangeAt Go.RowKit Go.Deep Go.Sort
structure Rk (w:World) (x:SysIn) (g:Nat) (d:Nat->Nat) (wr:World):Prop where
 be:Below w.heap.size w wr
 bs:BoxC wr w.heap.size (.slice x.pa x.pn x.pc) (.slice x.sa x.sn x.sc) (.slice x.wa x.wn x.wc) (.slice x.ha x.hn x.hc)
 ow:OwnI wr (w.heap.size+1) (.slice (some ⟨g,0,none⟩) x.pn x.pn) (dL d x.pn)
theorem Rk.lt {w:World} {x:SysIn} {g:Nat} {d:Nat->Nat} {wr:World} (h:Rk w x g d wr):w.heap.size+1<=g/\g<wr.heap.size:=h.ow.lt g rfl
theorem Rk.below {w:World} {x:SysIn} {g:Nat} {d:Nat->Nat} {wr w':World} (h:Rk w x g d wr) (hb:Below wr.heap.size wr w'):Rk w x g d w':=⟨h.be.trans (hb.mono h.be.size),h.bs.below hb,h.ow.below hb⟩
theorem Rk.cell {w:World} {x:SysIn} {g:Nat} {d:Nat->Nat} {wr:World} (h:Rk w x g d wr) {p:Nat} (hp:p<x.pn):wr.cell? ⟨g,p,none⟩=some (.int .i64 (d p:Nat))/\wr.frozen? ⟨g,p,none⟩=false:=by
 have ho:=h.ow;have hc:=Sl.cell0 ho.slOf (k:=p) (by rw [qg3];exact hp);rw [qt7 d hp] at hc;have ho':OwnI wr (w.heap.size+1) (.slice (some ⟨g,0,none⟩) (dL d x.pn).length x.pn) (dL d x.pn):=by rw [qg3];exact ho
 exact ⟨hc,ho'.frozen p⟩
theorem Rk.put {w:World} {x:SysIn} {g:Nat} {d:Nat->Nat} {wr:World} (h:Rk w x g d wr) {p:Nat} (hp:p<x.pn):Rk w x g (up d p) (wr.setCell ⟨g,p,none⟩ (.int .i64 ((d p:Int)+1))):=by
 have hg:=h.lt;obtain ⟨h0,h1,h2,h3⟩:=h.bs;have hc:∀ i,(wr.setCell ⟨g,p,none⟩ (.int .i64 ((d p:Int)+1))).cell? ⟨w.heap.size,i,none⟩=wr.cell? ⟨w.heap.size,i,none⟩:=fun i=>World.cell?_setCell_other _ _ _ _ (by intro e;injection e with e;omega);refine ⟨h.be.setCell (by simp;omega) _,⟨(hc _).trans h0,(hc _).trans h1,(hc _).trans h2,(hc _).trans h3⟩,?_⟩;have h9:=(h.ow.set (qg3 _ _).symm p ((d p:Int)+1)).1;rw [qu0 d hp] at h9;exact h9
theorem qfk (x:SysIn) (la:Option Addr) (n lc:Nat) (h:Nat->Wo2) (w:World) (hG:SysG w x) (hL:x.Len) (hcap:∀ i,i<x.hn->x.hL i<=x.hC i) (hW:WoL w la n h) (hn:n<=1048576):
  Calls Tryz.prog 14 #[x.v,.slice la n lc] w fun e w'=>e=.returned (.bool (rwB x.y h n))/\Below w.heap.size w w':=by
 have HSo:Hid (∀ wx,Below w.heap.size w wx->Calls Tryz.prog 40 #[x.v] wx fun e w'=>e=.returned (.bool x.y.okB)/\Below wx.heap.size wx w'):=fun wx hb=>qcf x wx (hG.below hb) hL hcap;have HCn:Hid (x.y.Ok->∀ g p d wr,Rk w x g d wr->(∀ i,d i<=x.y.hL i)->p<x.pn->∀ wx,Below wr.heap.size wr wx->Calls Tryz.prog 48 #[x.v,.slice (some ⟨g,0,none⟩) x.pn x.pn,.int .i64 (p:Nat)] wx fun e w'=>e=.returned (.bool (qB (x.y.hs.Can d p)))/\Below wx.heap.size wx w'):=fun hO g p d wr hr hd hp wx hb=>qh3 x g x.pn p d wx (hG.below (hr.below hb).be) hcap hO (hr.below hb).ow.slOf hd hp;have HW:Hid (∀ wx,Below w.heap.size w wx->WoL wx la n h):=fun wx hb=>hW.below hb
 have HHs:Hid (x.y.Ok->∃ bh oh,x.ha=some ⟨bh,oh,none⟩/\∀ wx,Below w.heap.size w wx->∀ j,j<x.pn->wx.cell? ⟨bh,oh+j,none⟩=some (.slice (x.hA j) (x.hL j) (x.hC j))):=fun hO=>by
  have h1:1<=x.pn:=hO.cn.1.1;have hhn:x.hn=x.pn:=hO.cn.2.2.1
  rcases hG.h with h9 | ⟨b,off,e,hb,hc⟩
  ·omega
  ·exact ⟨b,off,e,fun wx hbl j hj=>(hbl.cell hb).trans (hc j (by omega))⟩
 have HR:Hid (rwB x.y h n=(x.y.okB && qB (x.y.hs.RwOk h n))):=rfl;have hn':(n:Int)<=1048576:=by omega
 have B0:Hid (Below w.heap.size w (w.alloc (oQ5 x.pa x.pn x.pc x.sa x.sn x.sc x.wa x.wn x.wc x.ha x.hn x.hc))):=zT _ _;have X0:Hid (BoxC (w.alloc (oQ5 x.pa x.pn x.pc x.sa x.sn x.sc x.wa x.wn x.wc x.ha x.hn x.hc)) w.heap.size (.slice x.pa x.pn x.pc) (.slice x.sa x.sn x.sc) (.slice x.wa x.wn x.wc) (.slice x.ha x.hn x.hc)):=BoxC.new w _ _ _ _ _;clear hG hL hcap hW hn
 go_enter Tryz.func14,Tryz.ntmps14
 go_wp2_with fail
 generalize w.alloc (oQ5 x.pa x.pn x.pc x.sa x.sn x.sc x.wa x.wn x.wc x.ha x.hn x.hc)=W1 at *;refine (HSo.out W1 B0.out).mono ?_;rintro e w2 ⟨rfl,b2⟩;have B2:Hid (Below w.heap.size w w2/\BoxC w2 w.heap.size (.slice x.pa x.pn x.pc) (.slice x.sa x.sn x.sc) (.slice x.wa x.wn x.wc) (.slice x.ha x.hn x.hc)):=⟨B0.out.trans (b2.mono B0.out.size),X0.out.below b2⟩
 clear b2 B0 X0 HSo;by_cases hok:x.y.okB=true
 case neg=>
  have hok':x.y.okB=false:=by simpa using hok
  rw [hok'] at HR ⊢;go_wp2;go_ret;exact ⟨by rw [HR.out];rfl,B2.1⟩
 rw [hok] at HR ⊢;have HO:Hid (x.y.Ok):=Sy.ok_of hok;have hhn:x.hn=x.pn:=HO.out.cn.2.2.1;have H4:Hid (x.pn<=4/\1<=x.pn/\x.hn=x.pn):=⟨HO.out.cn.1.2,HO.out.cn.1.1,hhn⟩
 have h4:(x.pn:Int)<=4:=by have:=H4.1;omega
 have h1:(1:Int)<=(x.pn:Int):=by have:=H4.2.1;omega
 have hmk:=qco x.pn (by have:=H4.1;omega)
 have O3:Hid (Rk w x w2.heap.size (fun _=>0) (w2.alloc (.cells (madeCells #[.int .i64 0] x.pn) 3))):=by
  have h9:=qgo w2 x.pn (by have:=H4.1;omega);rw [<- qpp] at h9;exact ⟨B2.1.trans ((zT _ _).mono B2.1.size),B2.2.below (zT _ _),h9.mono (zJ _ _ B2.2.1)⟩
 obtain ⟨bh,oh,eh,hch⟩:=HHs.out HO.out;have HHa:Hid (x.ha=some ⟨bh,oh,none⟩/\∀ wx,Below w.heap.size w wx->∀ j,j<x.pn->wx.cell? ⟨bh,oh+j,none⟩=some (.slice (x.hA j) (x.hL j) (x.hC j))):=⟨eh,hch⟩
 obtain ⟨-,-,-,k3⟩:=B2.2;rw [hhn] at k3;clear hok eh hch HHs hhn;go_upto_region 4 with fail
 clear k3 hmk B2;generalize w2.alloc (.cells (madeCells #[.int .i64 0] x.pn) 3)=w3 at *;generalize w2.heap.size=g at *;go_wp2_with fail
 go_loopw [6] (fun i wr=>∃ k:Nat,k<=n/\i=.int .i64 k/\Hid (Rk w x g (tnD (rwF h) k) wr/\∀ j,j<k->x.y.hs.RwAt h j)) (fun i _=>n - (intOf i).toNat)
 case atStart=>exact ⟨0,Nat.zero_le _,rfl,O3.out,fun j hj=>by omega⟩
 case round=>
  clear O3
  rename World=>wr
  obtain ⟨k,hk,rfl,HF⟩:=hrel;by_cases hlt:k<n
  case neg=>
   have HK:Hid (k=n):=by show k=n;omega
   go_wp2_with fail
   go_loopw [8] (fun i wi=>∃ j:Nat,j<=x.pn/\i=.int .i64 j/\Hid (Rk w x g (tnD (rwF h) k) wi/\(∀ j,j<k->x.y.hs.RwAt h j)/\∀ q,q<j->tnD (rwF h) k q=x.y.hs.l q)) (fun i _=>x.pn - (intOf i).toNat)
   case atStart=>exact ⟨0,Nat.zero_le _,rfl,HF.1,HF.2,fun j hj=>by omega⟩
   case round=>
    clear HF
    rename World=>wi
    obtain ⟨j,hj,rfl,HF⟩:=hrel;by_cases hjt:j<x.pn
    case neg=>
     have HT:Hid (rwB x.y h n=true/\Below w.heap.size w wi):=by
      refine ⟨?_,HF.1.be⟩;rw [HR.out,qa3 ⟨by rw [<- HK.out];exact HF.2.1,fun p hp=>by rw [<- HK.out];exact HF.2.2 p (by have hp:p<x.pn:=hp;omega)⟩];rfl
     clear HF HK HR;go_wp2;go_ret;exact ⟨by rw [HT.1];rfl,HT.2⟩
    have hjt':(j:Int)<(x.pn:Int):=by omega
    have hjn:(j:Int)<(x.hn:Int):=by rw [H4.2.2];exact hjt'
    obtain ⟨-,-,-,k3⟩:=HF.1.bs;rw [HHa.1] at k3;have ch:=HHa.2 wi HF.1.be j hjt;have sd:=(HF.1.cell hjt).1;have k3':=cell_regrown k3;have ch':=cell_regrown ch;have sd':=cell_regrown sd;have HL:Hid (x.y.hs.l j=x.hL j):=rfl
    have HF2 : Hid (∀ w', Below wi.heap.size wi w' → tnD (rwF h) k j = x.y.hs.l j → Rk w x g (tnD (rwF h) k) w' ∧ (∀ j, j < k → x.y.hs.RwAt h j) ∧ ∀ q, q < j + 1 → tnD (rwF h) k q = x.y.hs.l q) := fun w' hb he => ⟨HF.1.below hb, HF.2.1, fun q hq => by
     by_cases e:q=j
     ·subst e
      exact he
     ·exact HF.2.2 q (by omega)⟩
    have HN2:Hid (tnD (rwF h) k j≠x.y.hs.l j->rwB x.y h n=false):=fun he=>by
     rw [HR.out,qar fun h9=>he (by have:=h9.2 j hjt;rw [<- HK.out] at this;exact this)];rfl
    generalize hdj:tnD (rwF h) k j=dj at *;by_cases hne:dj=x.hL j
    case neg=>
     have HT:Hid (rwB x.y h n=false):=HN2.out hne
     have he9:((dj:Int) != (x.hL j:Int))=true:=by
      have:¬ (dj:Int)=(x.hL j:Int):=by omega
      simpa using this
     clear hdj hne HN2 HF2;go_upto_region 14 with fail
     refine wp_region_quiet_below (by kernel_rfl) (by kernel_rfl) ?_
     repeat (quiet_step (fail))
     refine wpQuiet_nil ?_;intro _ hw';obtain ⟨⟨dq,osq⟩,hw''⟩:=hw';subst hw'';have B4:Hid (Below w.heap.size w (grow (redrawn wi dq) osq)):=(HF.1.below (below_regrown wi dq osq)).be;generalize grow (redrawn wi dq) osq=w4 at *;clear k3 sd ch k3' sd' ch' HF;go_wp2;go_ret;exact ⟨by rw [HT.out];rfl,B4.out⟩
    have he9:((dj:Int) != (x.hL j:Int))=false:=by simp [hne]
    have HE9:Hid (dj=x.y.hs.l j):=hne;clear hdj hne HN2;go_upto_region 14 with fail
    refine wp_region_quiet_below (by kernel_rfl) (by kernel_rfl) ?_
    repeat (quiet_step (fail))
    refine wpQuiet_nil ?_;intro _ hw';obtain ⟨⟨dq,osq⟩,hw''⟩:=hw';subst hw'';have B4:Hid (Rk w x g (tnD (rwF h) k) (grow (redrawn wi dq) osq)/\(∀ j,j<k->x.y.hs.RwAt h j)/\∀ q,q<j+1->tnD (rwF h) k q=x.y.hs.l q):=HF2.out _ (below_regrown wi dq osq) HE9.out;generalize grow (redrawn wi dq) osq=w4 at *;clear k3 sd ch k3' sd' ch' HF HF2;go_wp2;go_roundw
    case rel=>exact ⟨j+1,by omega,by go_num,B4.out⟩
    case measure=>simp [intOf];omega
  have hlt':(k:Int)<(n:Int):=by omega
  obtain ⟨b,off,rfl,-,c0,c1⟩:=(HW.out wr HF.1.be).at hlt;have F2:Hid (Rk w x g (tnD (rwF h) k) (wr.alloc (oQ3 (h k).m (h k).v))/\(∀ j,j<k->x.y.hs.RwAt h j)/\BoxS (wr.alloc (oQ3 (h k).m (h k).v)) wr.heap.size (.int .i64 (h k).m) (.int .i64 (h k).v)):=⟨HF.1.below (zT _ _),HF.2,BoxS.new wr _ _ _⟩
  have LZ:Hid (g<wr.heap.size):=HF.1.lt.2;go_upto_region 8 with fail
  clear c0 c1 HF;generalize wr.heap.size=S at *;generalize wr.alloc (oQ3 (h k).m (h k).v)=w5 at *;clear wr;obtain ⟨k0,k1,k2,k3⟩:=F2.1.bs;obtain ⟨s0,s1⟩:=F2.2.2
  have HNo:Hid (¬ x.y.hs.RwAt h k->rwB x.y h n=false):=fun h9=>by
   rw [HR.out,qar (Hs.rw_no hlt h9)];rfl
  have k0':=cell_regrown k0;have k1':=cell_regrown k1;have k2':=cell_regrown k2;have k3':=cell_regrown k3;have s0':=cell_regrown s0;have s1':=cell_regrown s1;by_cases hin:0<=(h k).m/\(h k).m<=(x.pn:Int) - 1
  case neg=>
   have hib:inB (h k).m 0 ((x.pn:Int) - 1)=false:=by simpa [inB] using hin
   have HIn:Hid (∀ wx,Calls Tryz.prog 47 #[.int .i64 (h k).m,.int .i64 0,.int .i64 ((x.pn:Int) - 1)] wx fun e w'=>e=.returned (.bool false)/\w'=wx):=fun wx=>by
    have h9:=l1In_any (h k).m 0 ((x.pn:Int) - 1) wx
    rwa [hib] at h9
   have HInW:Hid (∀ wx,Calls Tryz.prog 47 #[.int .i64 (h k).m,.int .i64 0,.int .i64 (IntKind.i64.wrap ((x.pn:Int) - 1))] wx fun e w'=>e=.returned (.bool false)/\w'=wx):=fun wx=>by
    have hw:IntKind.i64.wrap ((x.pn:Int) - 1)=(x.pn:Int) - 1:=by rw [IntKind.wrap_i64];omega
    rw [hw];exact HIn.out wx
   clear hib;have HT:Hid (rwB x.y h n=false):=HNo.out fun ⟨p,hp,e1,_⟩=>hin (by have hp:p<x.pn:=hp;omega);clear hin;refine wp_region_quiet_below (by kernel_rfl) (by kernel_rfl) ?_
   repeat (first | go_big_quiet_skip | quiet_step (first|(go_at_call 47;exact Calls.regrown_same (HInW.out _))))
   refine wpQuiet_nil ?_;intro _ hw';obtain ⟨⟨dq,osq⟩,hw''⟩:=hw';subst hw'';have B6:Hid (Below w.heap.size w (grow (redrawn w5 dq) osq)):=(F2.1.below (below_regrown w5 dq osq)).be;generalize grow (redrawn w5 dq) osq=w6 at *;clear k0 k1 k2 k3 s0 s1 k0' k1' k2' k3' s0' s1' F2 HNo HR;go_wp2;go_ret;exact ⟨by rw [HT.out];rfl,B6.out⟩
  have hib:inB (h k).m 0 ((x.pn:Int) - 1)=true:=by simpa [inB] using hin
  obtain ⟨P,hP⟩:∃ P:Nat,(h k).m=P:=⟨(h k).m.toNat,by omega⟩
  have hPp:P<x.pn:=by omega
  have hPI:(P:Int)<(x.pn:Int):=by omega
  have HP:Hid ((h k).m=(P:Nat)/\P<x.pn):=⟨hP,hPp⟩
  have HAt:Hid (x.y.hs.RwAt h k->(h k).v=(tnD (rwF h) k P:Nat)/\x.y.hs.Can (tnD (rwF h) k) P):=fun ⟨p,hp,e1,e2,e3⟩=>by
   obtain rfl:p=P:=by omega
   exact ⟨e2,e3⟩
  have HYe:Hid ((h k).v=(tnD (rwF h) k P:Nat)->x.y.hs.Can (tnD (rwF h) k) P->x.y.hs.RwAt h k/\tnD (rwF h) (k+1)=up (tnD (rwF h) k) P):=fun e1 e2=>Hs.rw_hit hPp hP e1 e2;rw [hP] at s0 s0' hib
  have HIn:Hid (∀ wx,Calls Tryz.prog 47 #[.int .i64 (P:Nat),.int .i64 0,.int .i64 ((x.pn:Int) - 1)] wx fun e w'=>e=.returned (.bool true)/\w'=wx):=fun wx=>by
   have h9:=l1In_any (P:Nat) 0 ((x.pn:Int) - 1) wx
   rwa [hib] at h9
  have HInW:Hid (∀ wx,Calls Tryz.prog 47 #[.int .i64 (P:Nat),.int .i64 0,.int .i64 (IntKind.i64.wrap ((x.pn:Int) - 1))] wx fun e w'=>e=.returned (.bool true)/\w'=wx):=fun wx=>by
   have hw:IntKind.i64.wrap ((x.pn:Int) - 1)=(x.pn:Int) - 1:=by rw [IntKind.wrap_i64];omega
   rw [hw];exact HIn.out wx
  clear hib;have sd:=(F2.1.cell hPp).1;have sd':=cell_regrown sd;have HD2:Hid (∀ i,tnD (rwF h) k i<=x.y.hL i):=(Hs.rw_put F2.2.1).le;have HCx:Hid (∀ dd os,Calls Tryz.prog 48 #[x.v,.slice (some ⟨g,0,none⟩) x.pn x.pn,.int .i64 (P:Nat)] (grow (redrawn w5 dd) os) fun e w'=>e=.returned (.bool (qB (x.y.hs.Can (tnD (rwF h) k) P)))/\Below (grow (redrawn w5 dd) os).heap.size (grow (redrawn w5 dd) os) w'):=fun dd os=>HCn.out HO.out g P _ w5 F2.1 HD2.out hPp _ (below_regrown w5 dd os)
  have HDp:Hid (tnD (rwF h) k P<=200):=by
   have h9:=HD2.out P;have h8:=HO.out.hl200 (show P<x.y.pn from hPp);show tnD (rwF h) k P<=200;omega
  have hdp:((tnD (rwF h) k P:Nat):Int)<=200:=by have:=HDp.out;omega
  clear hin hP;by_cases hv:(h k).v=(tnD (rwF h) k P:Nat)
  case neg=>
   have hve:((h k).v != ((tnD (rwF h) k P:Nat):Int))=true:=by simpa using hv
   have HT:Hid (rwB x.y h n=false):=HNo.out fun h9=>hv (HAt.out h9).1;clear hv HAt HYe HCx;refine wp_region_quiet_below (by kernel_rfl) (by kernel_rfl) ?_
   repeat (first | go_big_quiet_skip | quiet_step (first|(go_at_call 47;exact Calls.regrown_same (HInW.out _))))
   refine wpQuiet_nil ?_;intro _ hw';obtain ⟨⟨dq,osq⟩,hw''⟩:=hw';subst hw'';have B6:Hid (Below w.heap.size w (grow (redrawn w5 dq) osq)):=(F2.1.below (below_regrown w5 dq osq)).be;generalize grow (redrawn w5 dq) osq=w6 at *;clear k0 k1 k2 k3 s0 s1 k0' k1' k2' k3' s0' s1' sd sd' F2 HNo HR;go_wp2;go_ret;exact ⟨by rw [HT.out];rfl,B6.out⟩
  have hve:((h k).v != ((tnD (rwF h) k P:Nat):Int))=false:=by simpa using hv
  have HV9:Hid ((h k).v=(tnD (rwF h) k P:Nat)):=hv;clear hv;by_cases hcn:x.y.hs.Can (tnD (rwF h) k) P
  case neg=>
   rw [qar hcn] at HCx;have HT:Hid (rwB x.y h n=false):=HNo.out fun h9=>hcn (HAt.out h9).2;clear hcn HAt HYe;refine wp_region_quiet_below (by kernel_rfl) (by kernel_rfl) ?_
   repeat (first | go_big_quiet_skip | quiet_step (first|(go_at_call 47;exact Calls.regrown_same (HInW.out _))|(go_at_call 48;exact Calls.regrown_of (HCx.out _ _))))
   refine wpQuiet_nil ?_;intro _ hw';obtain ⟨⟨dq,osq⟩,hw''⟩:=hw';subst hw'';have B6:Hid (Below w.heap.size w (grow (redrawn w5 dq) osq)):=(F2.1.below (below_regrown w5 dq osq)).be;generalize grow (redrawn w5 dq) osq=w6 at *;clear k0 k1 k2 k3 s0 s1 k0' k1' k2' k3' s0' s1' sd sd' F2 HNo HR HCx;go_wp2;go_ret;exact ⟨by rw [HT.out];rfl,B6.out⟩
  rw [qa3 hcn] at HCx;obtain ⟨hat,hup⟩:=HYe.out HV9.out hcn;have HAU:Hid (x.y.hs.RwAt h k/\tnD (rwF h) (k+1)=up (tnD (rwF h) k) P):=⟨hat,hup⟩
  clear hcn HAt HYe hat hup HNo;refine wp_region_quiet_below (by kernel_rfl) (by kernel_rfl) ?_
  repeat (first | go_big_quiet_skip | quiet_step (first|(go_at_call 47;exact Calls.regrown_same (HInW.out _))|(go_at_call 48;exact Calls.regrown_of (HCx.out _ _))))
  refine wpQuiet_nil ?_;intro _ hw';obtain ⟨⟨dq,osq⟩,hw''⟩:=hw';subst hw'';have F6:Hid (Rk w x g (tnD (rwF h) k) (grow (redrawn w5 dq) osq)/\(∀ j,j<k->x.y.hs.RwAt h j)/\BoxS (grow (redrawn w5 dq) osq) S (.int .i64 (P:Nat)) (.int .i64 (h k).v)):=⟨F2.1.below (below_regrown w5 dq osq),F2.2.1,by rw [<- HP.1];exact F2.2.2.below (below_regrown w5 dq osq)⟩
  generalize grow (redrawn w5 dq) osq=w6 at *;clear k0 k1 k2 k3 s0 s1 k0' k1' k2' k3' s0' s1' sd sd' F2 HCx w5;obtain ⟨s0,s1⟩:=F6.2.2;obtain ⟨sd,sf⟩:=F6.1.cell HP.2
  have F7:Hid (Rk w x g (tnD (rwF h) (k+1)) (w6.setCell ⟨g,P,none⟩ (.int .i64 ((tnD (rwF h) k P:Nat)+1:Int)))/\∀ j,j<k+1->x.y.hs.RwAt h j):=by
   refine ⟨?_,fun j hj=>?_⟩
   ·rw [HAU.2]
    exact F6.1.put HP.2
   ·by_cases e:j=k
    ·subst e
     exact HAU.1
    ·exact F6.2.1 j (by omega)
  clear F6 HAU;go_wp2;go_roundw
  case rel=>exact ⟨k+1,by omega,by go_num,F7.out⟩
  case measure=>simp [intOf];omega
theorem qkq {h h':Nat->Wo2}:∀ {n:Nat},(∀ i,i<n->h i=h' i)->flW h n=flW h' n
 | 0,_=>rfl
 | n+1,e=>by rw [flW,flW,qkq fun i hi=>e i (by omega),e n (by omega)]
theorem OwR.congr {w:World} {B n:Nat} {v:Value} {h h':Nat->Wo2} (o:OwR w B v n h) (e:∀ i,i<n->h i=h' i):OwR w B v n h':=⟨by have h9:=o.1;rw [qkq e] at h9;exact h9,o.2⟩
def puW (h:Nat->Wo2) (n:Nat) (a:Wo2) (i:Nat):Wo2:=if i=n then a else h i
structure Dw (w:World) (x:SysIn) (W0 c:Nat) (a0:Option Addr) (len cap g:Nat) (v:Value) (d:Nat->Nat) (n e:Nat) (wr:World):Prop where
 gb:w.grownBy wr (some c)
 cu:Cur wr W0 c a0 len cap
 cl:c<w.heap.size
 bs:BoxC wr w.heap.size (.slice x.pa x.pn x.pc) (.slice x.sa x.sn x.sc) (.slice x.wa x.wn x.wc) (.slice x.ha x.hn x.hc)
 dn:OwnI wr (w.heap.size+1) (.slice (some ⟨g,0,none⟩) x.pn x.pn) (dL d x.pn)
 ow:∃ h,OwR wr (w.heap.size+1) v n h
 ne:v.ownBlock≠some g
 le:∀ i,d i<=x.y.hL i
 sm:n=sumL d x.pn+e
section
variable {w:World} {x:SysIn} {W0 c:Nat} {a0:Option Addr} {len cap g:Nat} {v:Value} {d:Nat->Nat} {n e:Nat} {wr w':World}
theorem Dw.glt (h:Dw w x W0 c a0 len cap g v d n e wr):w.heap.size+1<=g/\g<wr.heap.size:=h.dn.lt g rfl
theorem Dw.cur (h:Dw w x W0 c a0 len cap g v d n e wr) (hc:Cur w' W0 c a0 len cap) (hg:wr.grownBy w' (some c)):Dw w x W0 c a0 len cap g v d n e w':=by
 have h1:=h.glt;have h2:=h.cl;refine ⟨h.gb.trans hg,hc,h.cl,h.bs.blkK (hg.block _ (by omega) (by simp;omega)),h.dn.blk fun k hk=>hg.block k (h.dn.lt k hk).2 (by have:=(h.dn.lt k hk).1;simp;omega),?_,h.ne,h.le,h.sm⟩;obtain ⟨q,ho⟩:=h.ow;exact ⟨q,ho.ofBlock fun k hk=>hg.block k (ho.lt k hk).2 (by have:=(ho.lt k hk).1;simp;omega)⟩
theorem Dw.below (h:Dw w x W0 c a0 len cap g v d n e wr) (hb:Below wr.heap.size wr w'):Dw w x W0 c a0 len cap g v d n e w':=
 h.cur (h.cu.kept (zZ hb) (by simp) (fun k hk=>by cases hk)) ⟨hb.os,hb.tape,hb.output,hb.size,fun k hk _=>hb.block k hk⟩
theorem Dw.cell (h:Dw w x W0 c a0 len cap g v d n e wr) {p:Nat} (hp:p<x.pn):wr.cell? ⟨g,p,none⟩=some (.int .i64 (d p:Nat))/\wr.frozen? ⟨g,p,none⟩=false:=by
 have ho:=h.dn;have hc:=Sl.cell0 ho.slOf (k:=p) (by rw [qg3];exact hp);rw [qt7 d hp] at hc;have ho':OwnI wr (w.heap.size+1) (.slice (some ⟨g,0,none⟩) (dL d x.pn).length x.pn) (dL d x.pn):=by rw [qg3];exact ho
 exact ⟨hc,ho'.frozen p⟩
theorem Dw.told {v':Value} {h':Nat->Wo2} (h:Dw w x W0 c a0 len cap g v d n 0 wr) (o:OwR w' (w.heap.size+1) v' (n+1) h') (gb:wr.grownBy w' v.ownBlock) (hv:∀ j,v'.ownBlock=some j->v.ownBlock=some j\/wr.heap.size<=j):Dw w x W0 c a0 len cap g v' d (n+1) 1 w':=by
 have h1:=h.glt;have h2:=h.cl;obtain ⟨q,ho⟩:=h.ow;refine ⟨⟨h.gb.os ▸ gb.os,h.gb.tape ▸ gb.tape,h.gb.output ▸ gb.output,zP h.gb.size gb.size,fun k hk hne=>(gb.block k (zL hk h.gb.size) (fun e=>by have:=(ho.lt k e.symm).1;omega)).trans (h.gb.block k hk hne)⟩,h.cu.kept gb (fun e=>by have:=(ho.lt c e.symm).1;omega) (fun k hk=>by have:=(ho.lt k hk).1;have:=h.cu.ge;omega),h.cl,h.bs.blkK (gb.block _ (by omega) (fun e=>by have:=(ho.lt _ e.symm).1;omega)),h.dn.blk fun k hk=>gb.block k (h.dn.lt k hk).2 (fun e=>h.ne (by cases hk;exact e.symm)),⟨h',o⟩,fun e=>?_,h.le,by have:=h.sm;omega⟩
 rcases hv _ e with a | a
 ·exact h.ne a
 ·omega
theorem Dw.put {p:Nat} (h:Dw w x W0 c a0 len cap g v d n 1 wr) (hp:p<x.pn) (hl:d p<x.y.hL p):Dw w x W0 c a0 len cap g v (up d p) n 0 (wr.setCell ⟨g,p,none⟩ (.int .i64 ((d p:Int)+1))):=by
 have h1:=h.glt;have h2:=h.cl;obtain ⟨q,ho⟩:=h.ow;have hb:∀ k,k≠g->(wr.setCell ⟨g,p,none⟩ (.int .i64 ((d p:Int)+1))).heap[k]? = wr.heap[k]?:=fun k hk=>zO wr ⟨g,p,none⟩ _ k hk;refine ⟨zV h.gb (.inr (by show w.heap.size<=g;omega)) _,h.cu.setOther (p:=⟨g,p,none⟩) (by show g≠c;omega) (by show W0<=g;have:=h.cu.ge;omega) _,h.cl,h.bs.blkK (hb _ (by omega)),?_,⟨q,ho.ofBlock fun k hk=>hb k (fun e=>h.ne (by rw [hk,e]))⟩,h.ne,fun i=>?_,?_⟩
 ·have hs:=h.dn.set (by rw [qg3]) p ((d p:Int)+1)
  rw [qu0 d hp] at hs;exact hs.1
 ·by_cases e:i=p
  ·subst e
   rw [qb5];omega
  ·rw [up_other e]
   exact h.le i
 ·have:=h.sm
  rw [qhj hp];omega
end
def qrq (w:World) (W0 c:Nat) (a0:Option Addr) (len cap:Nat) (e:Ending) (w':World):Prop:=∃ (v:Value) (n:Nat) (h:Nat->Wo2),e=.returned v/\OwV w' w.heap.size v n h/\n<=800/\Cur w' W0 c a0 len cap/\w.grownBy w' (some c)
theorem qhs (x:SysIn) (W0 c len cap B T:Nat) (a0:Option Addr) (w:World) (hX:SysX w B T x) (hL:x.Len) (hC:Cur w W0 c a0 len cap) (hcB:c<B):
  Calls Tryz.prog 90 #[.pointer (some ⟨c,0,none⟩),x.v] w (qrq w W0 c a0 len cap):=by
 have HXg:Hid (∀ wx,w.grownBy wx (some c)->SysG wx x):=fun wx hg=>hX.g wx fun b hb _ hl=>hg.block b hl (by simp;omega);have HSo:Hid (∀ wx,w.grownBy wx (some c)->Calls Tryz.prog 40 #[x.v] wx fun e w'=>e=.returned (.bool x.y.okB)/\Below wx.heap.size wx w'):=fun wx hg=>qcf x wx (HXg.out wx hg) hL hX.cap;have HCn:Hid (x.y.Ok->∀ g v p d n wr,Dw w x W0 c a0 len cap g v d n 0 wr->p<x.pn->Calls Tryz.prog 48 #[x.v,.slice (some ⟨g,0,none⟩) x.pn x.pn,.int .i64 (p:Nat)] wr fun e w'=>e=.returned (.bool (qB (x.y.hs.Can d p)))/\Below wr.heap.size wr w'):=fun hO g v p d n wr hr hp=>qh3 x g x.pn p d wr (HXg.out wr hr.gb) hX.cap hO hr.dn.slOf hr.le hp;have hcl:=hC.lt
 have B0:Hid (w.grownBy ((w.alloc (oQ5 x.pa x.pn x.pc x.sa x.sn x.sc x.wa x.wn x.wc x.ha x.hn x.hc)).alloc (.cells #[] 55)) (some c)/\BoxC ((w.alloc (oQ5 x.pa x.pn x.pc x.sa x.sn x.sc x.wa x.wn x.wc x.ha x.hn x.hc)).alloc (.cells #[] 55)) w.heap.size (.slice x.pa x.pn x.pc) (.slice x.sa x.sn x.sc) (.slice x.wa x.wn x.wc) (.slice x.ha x.hn x.hc)/\OwR ((w.alloc (oQ5 x.pa x.pn x.pc x.sa x.sn x.sc x.wa x.wn x.wc x.ha x.hn x.hc)).alloc (.cells #[] 55)) (w.heap.size+1) (.slice (some ⟨w.heap.size+1,0,none⟩) 0 0) 0 (fun _=>⟨0,0⟩)/\Cur ((w.alloc (oQ5 x.pa x.pn x.pc x.sa x.sn x.sc x.wa x.wn x.wc x.ha x.hn x.hc)).alloc (.cells #[] 55)) W0 c a0 len cap):=by
  refine ⟨(World.grownBy_alloc w _ _).trans (World.grownBy_alloc _ _ _),(BoxC.new w _ _ _ _ _).below (zT _ _),?_,(hC.alloc _).alloc _⟩;have h9:=OwR.empty (w.alloc (oQ5 x.pa x.pn x.pc x.sa x.sn x.sc x.wa x.wn x.wc x.ha x.hn x.hc)) (fun _=>⟨0,0⟩);rw [World.size_alloc] at h9;exact h9
 clear hX hL hC
 go_enter Tryz.func90,Tryz.ntmps90
 go_upto_region 2 with fail
 generalize (w.alloc (oQ5 x.pa x.pn x.pc x.sa x.sn x.sc x.wa x.wn x.wc x.ha x.hn x.hc)).alloc (.cells #[] 55)=W1 at *;obtain ⟨k0,k1,k2,k3⟩:=B0.2.1;go_wp2_with fail
 clear k0 k1 k2 k3;refine (HSo.out W1 B0.1).mono ?_;rintro e w2 ⟨rfl,b2⟩;have g2:W1.grownBy w2 (some c):=⟨b2.os,b2.tape,b2.output,b2.size,fun k hk _=>b2.block k hk⟩
 have B2:Hid (w.grownBy w2 (some c)/\BoxC w2 w.heap.size (.slice x.pa x.pn x.pc) (.slice x.sa x.sn x.sc) (.slice x.wa x.wn x.wc) (.slice x.ha x.hn x.hc)/\OwR w2 (w.heap.size+1) (.slice (some ⟨w.heap.size+1,0,none⟩) 0 0) 0 (fun _=>⟨0,0⟩)/\Cur w2 W0 c a0 len cap):=⟨B0.1.trans g2,B0.2.1.below b2,B0.2.2.1.below b2,B0.2.2.2.kept (zZ b2) (by simp) (fun k hk=>by cases hk)⟩
 clear b2 B0 HSo g2;by_cases hok:x.y.okB=true
 case neg=>
  have hok':x.y.okB=false:=by simpa using hok
  rw [hok'];have R4:Hid (OwV w2 w.heap.size (.slice (some ⟨w.heap.size+1,0,none⟩) 0 0) 0 (fun _=>⟨0,0⟩)/\Cur w2 W0 c a0 len cap/\w.grownBy w2 (some c)):=⟨B2.2.2.1.v.mono (by omega),B2.2.2.2,B2.1⟩
  clear B2;go_wp2;go_ret;exact ⟨_,_,_,rfl,R4.1,by omega,R4.2⟩
 rw [hok];have HO:Hid (x.y.Ok):=Sy.ok_of hok;have hhn:x.hn=x.pn:=HO.out.cn.2.2.1;have H4:Hid (x.pn<=4/\1<=x.pn):=⟨HO.out.cn.1.2,HO.out.cn.1.1⟩
 have h4:(x.pn:Int)<=4:=by have:=H4.1;omega
 have h41:(1:Int)<=(x.pn:Int):=by have:=H4.2;omega
 have HP:Hid (∀ i,i<x.pn->x.hL i<=200):=fun i hi=>HO.out.hl200 hi;have hto:x.y.hs.tot<=800:=Hs.tot_le H4.1 HP.out;have HSm:Hid (∀ d:Nat->Nat,(∀ i,d i<=x.y.hL i)->sumL d x.pn<=x.y.hs.tot):=fun d hd=>qdp hd x.pn;have hmk:=qco x.pn (by have:=H4.1;omega)
 have T0:Hid (Dw w x W0 c a0 len cap w2.heap.size (.slice (some ⟨w.heap.size+1,0,none⟩) 0 0) (fun _=>0) 0 0 (w2.alloc (.cells (madeCells #[.int .i64 0] x.pn) 3))):=by
  have h9:=qgo w2 x.pn (by have:=H4.1;omega);rw [<- qpp] at h9;refine ⟨B2.1.trans (World.grownBy_alloc _ _ _),B2.2.2.2.alloc _,hcl,B2.2.1.below (zT _ _),h9.mono (zJ _ _ B2.2.1.1),⟨_,B2.2.2.1.below (zT _ _)⟩,fun e=>?_,fun i=>Nat.zero_le _,?_⟩
  ·have h8:w.heap.size+1<w2.heap.size:=(B2.2.2.1.lt _ rfl).2
   have e9:w.heap.size+1=w2.heap.size:=by simpa [Value.ownBlock] using e
   omega
  ·have hz:∀ m,sumL (fun _=>0) m=0:=fun m=>by
    induction m with
    | zero=>rfl
    | succ m ih=>show sumL (fun _=>0) m+0=0;omega
   rw [hz]
 obtain ⟨-,-,-,k3⟩:=B2.2.1;rw [hhn] at k3;clear hok hhn;go_upto_region 5 with fail
 clear k3 hmk B2;generalize w2.alloc (.cells (madeCells #[.int .i64 0] x.pn) 3)=w3 at *;generalize w2.heap.size=g at *;go_wp2_with fail
 go_loopw [5,7] (fun v i wr=>∃ (k n ga gc:Nat),k<=600/\v=.slice (some ⟨ga,0,none⟩) n gc/\i=.int .i64 (k:Nat)/\Hid (∃ d,Dw w x W0 c a0 len cap g (.slice (some ⟨ga,0,none⟩) n gc) d n 0 wr)) (fun _ i _=>600 - (intOf i).toNat)
 case atStart=>exact ⟨0,0,_,_,by omega,by with_reducible rfl,rfl,_,T0.out⟩
 case round=>
  clear T0;obtain ⟨k,n,ga,gc,hk,rfl,rfl,HD⟩:=hrel;by_cases hk6:k<600
  ·have hk6':(k:Int)<600:=by omega
   go_wp2_with fail
   refine (zY W0 c len cap a0 (x.pn:Int) wr (by obtain ⟨d,hd⟩:=HD.out;exact hd.cu) h41 (by omega)).mono ?_;rintro e w4 ⟨z,rfl,⟨z0,z1⟩,hc4,hg4⟩;obtain ⟨p,rfl⟩:=Int.eq_ofNat_of_zero_le z0;have hp:p<x.pn:=by omega
   obtain ⟨d,T4⟩:∃ d,Hid (Dw w x W0 c a0 len cap g (.slice (some ⟨ga,0,none⟩) n gc) d n 0 w4):=by
    obtain ⟨d,hd⟩:=HD.out;exact ⟨d,hd.cur hc4 hg4⟩
   clear hc4 hg4 HD;obtain ⟨k0,k1,k2,k3⟩:=T4.out.bs;go_wp2_with fail
   clear k0 k1 k2 k3;refine (HCn.out HO.out g _ p d n w4 T4.out hp).mono ?_;rintro e w5 ⟨rfl,b5⟩;have T5:Hid (Dw w x W0 c a0 len cap g (.slice (some ⟨ga,0,none⟩) n gc) d n 0 w5):=T4.out.below b5;clear b5 T4;by_cases hcn:x.y.hs.Can d p
   case neg=>
    rw [qar hcn];clear hcn;go_wp2;go_roundw
    case rel=>exact ⟨k+1,n,ga,gc,by omega,by with_reducible rfl,by go_num,d,T5.out⟩
    case measure=>simp [intOf];omega
   rw [qa3 hcn];have HLt:Hid (d p<x.y.hL p):=hcn.1;have HBn:Hid (w.heap.size+1<=w5.heap.size/\n<=1000000):=⟨by have:=T5.out.glt;omega,by have h8:=HSm.out d T5.out.le;have h9:=T5.out.sm;omega⟩
   have hdk:((d p:Nat):Int)<=200:=by
    have h8:=T5.out.le p;have h9:=HP.out p hp;have h7:x.y.hL p=x.hL p:=rfl;omega
   have sd:=(T5.out.cell hp).1;obtain ⟨h5,ho5⟩:=T5.out.ow;have HO5:Hid (OwR w5 (w.heap.size+1) (.slice (some ⟨ga,0,none⟩) n gc) n (puW h5 n ⟨(p:Nat),(d p:Nat)⟩)):=ho5.congr fun i hi=>by rw [puW,if_neg (by omega)]
   clear hcn ho5;go_upto_region 11 with (at_builtin;refine qhy w5 rfl _ _ rfl (w.heap.size+1) (.slice (some ⟨ga,0,none⟩) n gc) n (puW h5 n ⟨(p:Nat),(d p:Nat)⟩) rfl HO5.out (p:Nat) (d p:Nat) (if_pos rfl) rfl HBn.2 HBn.1 ?_;intro v' w6 o6 g6 h6;have T6:Hid (Dw w x W0 c a0 len cap g v' d (n+1) 1 w6):=T5.out.told o6 g6 h6;obtain ⟨ga6,gc6,rfl,-,-,-,-⟩:=o6.form;clear o6 g6 h6)
   clear sd T5 HBn HO5;obtain ⟨sd,sf⟩:=T6.out.cell hp;have T7:Hid (Dw w x W0 c a0 len cap g (.slice (some ⟨ga6,0,none⟩) (n+1) gc6) (up d p) (n+1) 0 (w6.setCell ⟨g,p,none⟩ (.int .i64 ((d p:Int)+1)))):=T6.out.put hp HLt.out;clear T6 HLt;go_wp2;go_roundw
   case rel=>exact ⟨k+1,n+1,ga6,gc6,by omega,by with_reducible rfl,by go_num,_,T7.out⟩
   case measure=>simp [intOf];omega
  ·have hk6':¬ ((k:Int)<600):=by omega
   have HD2:Hid (n<=x.y.hs.tot/\∃ d,Dw w x W0 c a0 len cap g (.slice (some ⟨ga,0,none⟩) n gc) d n 0 wr):=by
    obtain ⟨d,hd⟩:=HD.out;exact ⟨by have h8:=HSm.out d hd.le;have h9:=hd.sm;omega,d,hd⟩
   clear HD hk;go_wp2_with fail
   clear hk6 hk6'
   go_loopg [5,9] ((x.y.hs.tot - n)*5+x.pn) (fun gh v i wr=>∃ (n p ga gc:Nat),gh=(x.y.hs.tot - n)*5+(x.pn - p)/\p<=x.pn/\v=.slice (some ⟨ga,0,none⟩) n gc/\i=.int .i64 (p:Nat)/\Hid (n<=x.y.hs.tot/\∃ d,Dw w x W0 c a0 len cap g (.slice (some ⟨ga,0,none⟩) n gc) d n 0 wr))
   case atStart=>exact ⟨n,0,ga,gc,by omega,Nat.zero_le _,by with_reducible rfl,rfl,HD2.out⟩
   case round=>
    clear HD2;obtain ⟨n,p,ga,gc,hgk,hpl,rfl,rfl,HD⟩:=hrel;have HGk:Hid (gk=(x.y.hs.tot - n)*5+(x.pn - p)):=hgk;clear hgk;by_cases hp:p<x.pn
    case neg=>
     have hpt':¬ ((p:Int)<(x.pn:Int)):=by omega
     obtain ⟨d,T4⟩:∃ d,Hid (Dw w x W0 c a0 len cap g (.slice (some ⟨ga,0,none⟩) n gc) d n 0 wr):=HD.2;have HN8:Hid (n<=800):=zP HD.1 hto;have hn8:(n:Int)<=800:=by have:=HN8.out;omega
     clear HD HGk;by_cases hn1:1<n
     case neg=>
      have hn1':¬ ((1:Int)<(n:Int)):=by omega
      have R5:Hid (qrq w W0 c a0 len cap (.returned (.slice (some ⟨ga,0,none⟩) n gc)) wr):=by
       obtain ⟨h,ho⟩:=T4.out.ow;exact ⟨_,n,h,rfl,ho.v.mono (by omega),HN8.out,T4.out.cu,T4.out.gb⟩
      clear T4;go_wp2;go_ret;exact R5.out
     have hn1':(1:Int)<(n:Int):=by omega
     go_wp2_with fail
     refine (qbv W0 c len cap a0 6 wr T4.out.cu (by omega) (by omega)).mono ?_;rintro e w6 ⟨t,rfl,hc6,hg6⟩;have T6:Hid (Dw w x W0 c a0 len cap g (.slice (some ⟨ga,0,none⟩) n gc) d n 0 w6):=T4.out.cur hc6 hg6;clear hc6 hg6 T4;cases t with
     | false=>
      have R5:Hid (qrq w W0 c a0 len cap (.returned (.slice (some ⟨ga,0,none⟩) n gc)) w6):=by
       obtain ⟨h,ho⟩:=T6.out.ow;exact ⟨_,n,h,rfl,ho.v.mono (by omega),HN8.out,T6.out.cu,T6.out.gb⟩
      clear T6;go_wp2;go_ret;exact R5.out
     | true=>
      go_wp2_with fail
      refine (qky W0 c len cap a0 ((n:Int) - 1) w6 T6.out.cu (by omega) (by omega)).mono ?_;rintro e w7 ⟨z,rfl,⟨z0,z1⟩,hc7,hg7⟩;obtain ⟨K,rfl⟩:=Int.eq_ofNat_of_zero_le z0;have hK:K+1<n:=by omega
      have hK':(K:Int)+1<(n:Int):=by omega
      have T7:Hid (Dw w x W0 c a0 len cap g (.slice (some ⟨ga,0,none⟩) n gc) d n 0 w7):=T6.out.cur hc7 hg7;clear hc7 hg7 T6
      obtain ⟨h,HV⟩:∃ h,Hid (OwV w7 (w.heap.size+1) (.slice (some ⟨ga,0,none⟩) n gc) n h):=by
       obtain ⟨h,ho⟩:=T7.out.ow;exact ⟨h,ho.v⟩
      have HA:Hid ((w7.cell? ⟨ga,K*2,none⟩=some (.int .i64 (h K).m)/\w7.cell? ⟨ga,K*2+1,none⟩=some (.int .i64 (h K).v)/\w7.cell? ⟨ga,(K+1)*2,none⟩=some (.int .i64 (h (K+1)).m)/\w7.cell? ⟨ga,(K+1)*2+1,none⟩=some (.int .i64 (h (K+1)).v))/\(∀ j,w7.frozen? ⟨ga,j,none⟩=false)/\w.heap.size+1<=ga/\ga<w7.heap.size):=by
       obtain ⟨g9,c9,e9,q1,q2,q3,q4⟩:=HV.out;simp only [Value.slice.injEq,Option.some.injEq,Addr.mk.injEq,and_true,true_and] at e9;obtain ⟨rfl,rfl⟩:=e9;have r0:=q3 K (by omega);have r1:=q3 (K+1) hK;rw [Nat.zero_add] at r0 r1;exact ⟨⟨r0.1,r0.2,r1.1,r1.2⟩,q4,q1,q2⟩
      obtain ⟨⟨a0',a1',-,-⟩,-,-,-⟩:=HA.out;go_upto_region 22 with fail
      clear a0' a1'
      have HN:Hid (Dw w x W0 c a0 len cap g (.slice (some ⟨ga,0,none⟩) n gc) d n 0 (w7.alloc (oQ3 (h K).m (h K).v))/\OwV (w7.alloc (oQ3 (h K).m (h K).v)) (w.heap.size+1) (.slice (some ⟨ga,0,none⟩) n gc) n h/\((w7.alloc (oQ3 (h K).m (h K).v)).cell? ⟨ga,K*2,none⟩=some (.int .i64 (h K).m)/\(w7.alloc (oQ3 (h K).m (h K).v)).cell? ⟨ga,K*2+1,none⟩=some (.int .i64 (h K).v)/\(w7.alloc (oQ3 (h K).m (h K).v)).cell? ⟨ga,(K+1)*2,none⟩=some (.int .i64 (h (K+1)).m)/\(w7.alloc (oQ3 (h K).m (h K).v)).cell? ⟨ga,(K+1)*2+1,none⟩=some (.int .i64 (h (K+1)).v))/\(∀ j,(w7.alloc (oQ3 (h K).m (h K).v)).frozen? ⟨ga,j,none⟩=false)/\(w7.alloc (oQ3 (h K).m (h K).v)).cell? ⟨w7.heap.size,0,none⟩=some (.int .i64 (h K).m)/\(w7.alloc (oQ3 (h K).m (h K).v)).cell? ⟨w7.heap.size,1,none⟩=some (.int .i64 (h K).v)/\w.heap.size+1<=ga/\ga≠w7.heap.size):=by
       obtain ⟨⟨r0,r1,r2,r3⟩,rf,rl,rg⟩:=HA.out;have hb:=zT w7 (oQ3 (h K).m (h K).v);exact ⟨T7.out.below hb,HV.out.below hb,⟨(hb.cell (p:=⟨ga,K*2,none⟩) rg).trans r0,(hb.cell (p:=⟨ga,K*2+1,none⟩) rg).trans r1,(hb.cell (p:=⟨ga,(K+1)*2,none⟩) rg).trans r2,(hb.cell (p:=⟨ga,(K+1)*2+1,none⟩) rg).trans r3⟩,fun j=>(hb.frozen (p:=⟨ga,j,none⟩) rg).trans (rf j),zW _ _ _ 0 rfl,zW _ _ _ 1 rfl,rl,by omega⟩
      clear HA HV T7;generalize w7.alloc (oQ3 (h K).m (h K).v)=w8 at *;generalize w7.heap.size=N at *;have HM:Hid (∃ m0 v0 m1 v1:Int,(h K).m=m0/\(h K).v=v0/\(h (K+1)).m=m1/\(h (K+1)).v=v1):=⟨_,_,_,_,rfl,rfl,rfl,rfl⟩
      have HEnd:Hid (qrq w W0 c a0 len cap (.returned (.slice (some ⟨ga,0,none⟩) n gc)) ((((w8.setCell ⟨ga,K*2,none⟩ (.int .i64 (h (K+1)).m)).setCell ⟨ga,K*2+1,none⟩ (.int .i64 (h (K+1)).v)).setCell ⟨ga,(K+1)*2,none⟩ (.int .i64 (h K).m)).setCell ⟨ga,(K+1)*2+1,none⟩ (.int .i64 (h K).v))):=by
       obtain ⟨t1,t2,⟨r0,r1,r2,r3⟩,rf,-,-,rl,-⟩:=HN.out;obtain ⟨s0,s1,s2,s3,so,sf,ss,st⟩:=qt5 (w:=w8) (g:=ga) (a0:=K*2) (a1:=K*2+1) (a2:=(K+1)*2) (a3:=(K+1)*2+1) (u0:=.int .i64 (h (K+1)).m) (u1:=.int .i64 (h (K+1)).v) (u2:=.int .i64 (h K).m) (u3:=.int .i64 (h K).v) (by omega) (by omega) (by omega) (by omega) (by omega) (by omega) (by rw [r0];rfl) (by rw [r1];rfl) (by rw [r2];rfl) (by rw [r3];rfl);have hge:=t1.cu.ge;have hgl:w.heap.size<=ga:=by omega
       have hgc:ga≠c:=by omega
       refine ⟨_,n,swH h K,rfl,(t2.put2 (h':=swH h K) hK (qvw h K) (qvx h K) (qvy h K) _ ss sf s0 s1 s2 s3 so).mono (by omega),HN8.out,?_,?_⟩
       ·exact (((t1.cu.setOther (p:=⟨ga,K*2,none⟩) hgc (by show W0<=ga;omega) _).setOther (p:=⟨ga,K*2+1,none⟩) hgc (by show W0<=ga;omega) _).setOther (p:=⟨ga,(K+1)*2,none⟩) hgc (by show W0<=ga;omega) _).setOther (p:=⟨ga,(K+1)*2+1,none⟩) hgc (by show W0<=ga;omega) _
       ·exact zV (zV (zV (zV t1.gb (.inr hgl) _) (.inr hgl) _) (.inr hgl) _) (.inr hgl) _
      obtain ⟨-,-,⟨r0,r1,r2,r3⟩,rf,rb0,rb1,-,rN⟩:=HN.out;clear HN;generalize (h K).m=m0 at *;generalize (h K).v=v0 at *;generalize (h (K+1)).m=m1 at *;generalize (h (K+1)).v=v1 at *;clear HM;have f0:=rf (K*2);have f1:=rf (K*2+1);have f2:=rf ((K+1)*2);have f3:=rf ((K+1)*2+1);clear rf;go_wp2;go_ret;exact HEnd.out
    have hpt':(p:Int)<(x.pn:Int):=by omega
    obtain ⟨d,T4⟩:∃ d,Hid (Dw w x W0 c a0 len cap g (.slice (some ⟨ga,0,none⟩) n gc) d n 0 wr):=HD.2;have HNt:Hid (n<=x.y.hs.tot):=HD.1;clear HD;obtain ⟨k0,k1,k2,k3⟩:=T4.out.bs;go_wp2_with fail
    clear k0 k1 k2 k3;refine (HCn.out HO.out g _ p d n wr T4.out hp).mono ?_;rintro e w5 ⟨rfl,b5⟩;have T5:Hid (Dw w x W0 c a0 len cap g (.slice (some ⟨ga,0,none⟩) n gc) d n 0 w5):=T4.out.below b5;clear b5 T4;by_cases hcn:x.y.hs.Can d p
    case neg=>
     rw [qar hcn];clear hcn;go_wp2
     go_roundg ((x.y.hs.tot - n)*5+(x.pn - (p+1)))
     case measure=>have:=HGk.out;omega
     case rel=>exact ⟨n,p+1,ga,gc,rfl,by omega,by with_reducible rfl,by go_num,HNt.out,d,T5.out⟩
    rw [qa3 hcn];have HLt:Hid (d p<x.y.hL p):=hcn.1;have HBn:Hid (w.heap.size+1<=w5.heap.size/\n<=1000000):=⟨by have:=T5.out.glt;omega,by have h8:=HSm.out d T5.out.le;have h9:=T5.out.sm;omega⟩
    have hdk:((d p:Nat):Int)<=200:=by
     have h8:=T5.out.le p;have h9:=HP.out p hp;have h7:x.y.hL p=x.hL p:=rfl;omega
    have sd:=(T5.out.cell hp).1;obtain ⟨h5,ho5⟩:=T5.out.ow;have HO5:Hid (OwR w5 (w.heap.size+1) (.slice (some ⟨ga,0,none⟩) n gc) n (puW h5 n ⟨(p:Nat),(d p:Nat)⟩)):=ho5.congr fun i hi=>by rw [puW,if_neg (by omega)]
    clear hcn ho5;go_upto_region 16 with (at_builtin;refine qhy w5 rfl _ _ rfl (w.heap.size+1) (.slice (some ⟨ga,0,none⟩) n gc) n (puW h5 n ⟨(p:Nat),(d p:Nat)⟩) rfl HO5.out (p:Nat) (d p:Nat) (if_pos rfl) rfl HBn.2 HBn.1 ?_;intro v' w6 o6 g6 h6;have T6:Hid (Dw w x W0 c a0 len cap g v' d (n+1) 1 w6):=T5.out.told o6 g6 h6;obtain ⟨ga6,gc6,rfl,-,-,-,-⟩:=o6.form;clear o6 g6 h6)
    clear sd T5 HBn HO5;obtain ⟨sd,sf⟩:=T6.out.cell hp;have T7:Hid (Dw w x W0 c a0 len cap g (.slice (some ⟨ga6,0,none⟩) (n+1) gc6) (up d p) (n+1) 0 (w6.setCell ⟨g,p,none⟩ (.int .i64 ((d p:Int)+1)))):=T6.out.put hp HLt.out;clear T6 HLt;have HNt7:Hid (n+1<=x.y.hs.tot):=by have h8:=HSm.out _ T7.out.le;have h9:=T7.out.sm;show n+1<=x.y.hs.tot;omega
    go_wp2
    go_roundg ((x.y.hs.tot - (n+1))*5+x.pn)
    case measure=>have:=HGk.out;have:=HNt7.out;have:=H4.out;omega
    case rel=>exact ⟨n+1,0,ga6,gc6,by omega,Nat.zero_le _,by with_reducible rfl,rfl,HNt7.out,_,T7.out⟩
def quw (w:World) (e:Ending) (w':World):Prop:=∃ (x:SysIn) (B T:Nat) (v:Value) (n:Nat) (h:Nat->Wo2),e=.returned (.tuple #[x.v,v])/\x.y.Sm/\SysX w' B T x/\OwV w' (w.heap.size+1) v n h/\n<=800/\w.heap.size<B/\T<=w'.heap.size/\Below w.heap.size w w'
theorem qmm (W0 len cap:Nat) (a0:Option Addr) (w:World) (hB:qb3 w W0 a0 len) (hW:W0<=w.heap.size) (ln:len<=1048576):
  Calls Tryz.prog 41 #[.slice a0 len cap] w (quw w):=by
 have C0:Hid (qb3 (w.alloc (zQ4)) W0 a0 len/\W0<=(w.alloc (zQ4)).heap.size/\Below w.heap.size w (w.alloc (zQ4))/\Bx (w.alloc (zQ4)) w.heap.size (.slice none 0 0) (.slice none 0 0) (.slice none 0 0) (.slice none 0 0)/\(w.alloc (zQ4)).heap.size=w.heap.size+1):=⟨hB.kept (fun k hk=>(zQ w (zQ4)).block k (by omega)),by simp;omega,zQ _ _,Bx.new w _ _ _ _ _,by simp⟩
 clear hB
 go_enter Tryz.func41,Tryz.ntmps41
 go_wp2_with fail
 generalize w.alloc (zQ4)=W2 at *;refine (qp9 W0 len cap a0 W2 C0.1 C0.2.1 ln).mono ?_;rintro e w1 ⟨rfl,hc1,hg1⟩;have C1:Hid (Cur w1 W0 W2.heap.size a0 len cap/\Below w.heap.size w w1/\Bx w1 w.heap.size (.slice none 0 0) (.slice none 0 0) (.slice none 0 0) (.slice none 0 0)/\W2.heap.size=w.heap.size+1/\W2.heap.size<w1.heap.size):=⟨hc1,C0.2.2.1.trans ((qc5 hg1).mono C0.2.2.1.size),C0.2.2.2.1.below (qc5 hg1),C0.2.2.2.2,hc1.lt⟩
 clear hc1 hg1 C0;generalize W2.heap.size=c at *;go_wp2_with fail
 refine (qox W0 c len cap a0 w1 C1.1).mono ?_;rintro e w2 ⟨x,B,T,rfl,hm,hX,hc2,hg2,hcB,hT⟩
 have DA:Hid (DW w (w2.alloc (oQ5 x.pa x.pn x.pc x.sa x.sn x.sc x.wa x.wn x.wc x.ha x.hn x.hc)) W0 c a0 len cap w.heap.size w2.heap.size B T x):=by
  have hs:=hg2.size;have h1:=C1.2.2.2.1;have h2:=C1.2.2.2.2;refine ⟨hc2.alloc _,(Below.grown C1.2.1 hg2 C1.2.1.size (fun k hk=>by cases hk;omega)).trans ((zQ _ _).mono (by have:=C1.2.1.size;omega)),hX.keep (by simp) fun b _ _ hl=>(zQ w2 _).block b hl,(C1.2.2.1.grown hg2 (by simp;omega)).below (zQ _ _),Bx.new _ _ _ _ _ _,Nat.le_refl _,by omega,hcB,by omega,hT⟩
 have HM:Hid x.y.Sm:=hm;clear hX hc2 hg2 hcB hT C1 hm;go_upto_region 3 with fail
 generalize w2.alloc (oQ5 x.pa x.pn x.pc x.sa x.sn x.sc x.wa x.wn x.wc x.ha x.hn x.hc)=wA at *;generalize w2.heap.size=M at *;have q0:Below wA.heap.size wA wA.drew:=(Below.refl wA.heap.size wA).drew;have hL:x.Len:=HM.out.inLen;have DD:DW w wA.drew W0 c a0 len cap w.heap.size M B T x:=⟨DA.out.cu.drew,DA.out.be.drew,DA.out.sx.keep (Nat.le_refl _) fun b _ _ _=>rfl,DA.out.b2.below q0,DA.out.b6.below q0,DA.out.sz⟩
 refine qak (fun w'=>BoxC w' M (.slice x.pa x.pn x.pc) (.slice x.sa x.sn x.sc) (.slice x.wa x.wn x.wc) (.slice x.ha x.hn x.hc)) (fun _=>false) (by kernel_rfl) ?_;have hHeld:(fun w':World=>BoxC w' M (.slice x.pa x.pn x.pc) (.slice x.sa x.sn x.sc) (.slice x.wa x.wn x.wc) (.slice x.ha x.hn x.hc)) wA.drew:=DD.b6.1;refine qaa 0 rfl hHeld ?_;apply Exists.intro;refine ⟨fun wq hSw=>?_,?_⟩
 ·obtain ⟨h0,h1,h2,h3⟩:=hSw
  go_simp;try with_reducible rfl
 (try simp only [Act.put,zD,zE,zF])
 refine qaa 1 rfl hHeld ?_;apply Exists.intro;refine ⟨fun wq hSw=>?_,?_⟩
 ·(try dsimp only at hSw)
  go_simp;try with_reducible rfl
 (try simp only [Act.put,zD,zE,zF])
 refine qaa 2 rfl hHeld ?_;apply Exists.intro;refine ⟨fun wq hSw=>?_,?_⟩
 ·obtain ⟨h0,h1,h2,h3⟩:=hSw
  go_simp;try with_reducible rfl
 (try simp only [Act.put,zD,zE,zF])
 refine qac 3 rfl (by kernel_rfl) (fun K hK=>?_);refine qbn rfl 90 _ _ rfl #[.pointer (some ⟨c,0,none⟩),x.v] (by simp [Act.eval]) (yA Tryz.func90 (by kernel_rfl) rfl) (qhs x W0 c len cap B T a0 wA.drew DD.sx hL DD.cu DD.sz.2.2.1) ?_;rintro e w5 ⟨v5,n,h,rfl,o5,hn,hc5,hg5⟩;have D5:DW w w5 W0 c a0 len cap w.heap.size M B T x:=DD.draw hc5 hg5;have hsz:w.heap.size<wA.heap.size:=by have h1:=DD.sz;have h2:=DD.cu.lt;have h3:wA.drew.heap.size=wA.heap.size:=rfl;omega
 have o5:OwV w5 (w.heap.size+1) v5 n h:=o5.mono (by have h3:wA.drew.heap.size=wA.heap.size:=rfl;omega);refine ⟨_,rfl,?_⟩;refine hK.out _ _ (fun _=>D5.b6.1) ?_;clear hK K
 (try simp only [Act.put,zD,zE,zF])
 obtain ⟨⟨x0,x1,x2,x3⟩,xf⟩:=D5.b2;have f0:=xf 0;have f1:=xf 1;have f2:=xf 2;have f3:=xf 3
 have HF:Hid (SysX ((((w5.setCell ⟨w.heap.size,0,none⟩ (.slice x.pa x.pn x.pc)).setCell ⟨w.heap.size,1,none⟩ (.slice x.sa x.sn x.sc)).setCell ⟨w.heap.size,2,none⟩ (.slice x.wa x.wn x.wc)).setCell ⟨w.heap.size,3,none⟩ (.slice x.ha x.hn x.hc)) B T x/\OwV ((((w5.setCell ⟨w.heap.size,0,none⟩ (.slice x.pa x.pn x.pc)).setCell ⟨w.heap.size,1,none⟩ (.slice x.sa x.sn x.sc)).setCell ⟨w.heap.size,2,none⟩ (.slice x.wa x.wn x.wc)).setCell ⟨w.heap.size,3,none⟩ (.slice x.ha x.hn x.hc)) (w.heap.size+1) v5 n h/\w.heap.size<B/\T<=w5.heap.size/\Below w.heap.size w ((((w5.setCell ⟨w.heap.size,0,none⟩ (.slice x.pa x.pn x.pc)).setCell ⟨w.heap.size,1,none⟩ (.slice x.sa x.sn x.sc)).setCell ⟨w.heap.size,2,none⟩ (.slice x.wa x.wn x.wc)).setCell ⟨w.heap.size,3,none⟩ (.slice x.ha x.hn x.hc))/\BoxC ((((w5.setCell ⟨w.heap.size,0,none⟩ (.slice x.pa x.pn x.pc)).setCell ⟨w.heap.size,1,none⟩ (.slice x.sa x.sn x.sc)).setCell ⟨w.heap.size,2,none⟩ (.slice x.wa x.wn x.wc)).setCell ⟨w.heap.size,3,none⟩ (.slice x.ha x.hn x.hc)) M (.slice x.pa x.pn x.pc) (.slice x.sa x.sn x.sc) (.slice x.wa x.wn x.wc) (.slice x.ha x.hn x.hc)):=by
  refine ⟨D5.set4 _ _ _ _,o5.ofBlock (by simp) fun k hk=>?_,by have:=D5.sz;omega,by have h1:=D5.sz;have h2:=D5.b6.lt;omega,(((D5.be.setCell (Nat.le_refl _) _).setCell (Nat.le_refl _) _).setCell (Nat.le_refl _) _).setCell (Nat.le_refl _) _,D5.b6.1.blkK ?_⟩
  ·have h1:=(o5.lt k hk).1
   rw [zO _ _ _ _ (by show k≠w.heap.size;omega),zO _ _ _ _ (by show k≠w.heap.size;omega),zO _ _ _ _ (by show k≠w.heap.size;omega),zO _ _ _ _ (by show k≠w.heap.size;omega)]
  ·have h1:=D5.sz
   rw [zO _ _ _ _ (by show M≠w.heap.size;omega),zO _ _ _ _ (by show M≠w.heap.size;omega),zO _ _ _ _ (by show M≠w.heap.size;omega),zO _ _ _ _ (by show M≠w.heap.size;omega)]
 clear hHeld;refine qac 4 rfl (by kernel_rfl) (fun K hK=>?_);go_simp;refine hK.out _ _ (fun _=>HF.2.2.2.2.2) ?_;clear hK K
 (try simp only [Act.put,zD,zE,zF])
 refine qac 5 rfl (by kernel_rfl) (fun K hK=>?_);go_simp;refine hK.out _ _ (fun _=>HF.2.2.2.2.2) ?_;clear hK K
 (try simp only [Act.put,zD,zE,zF])
 refine qas (by kernel_rfl) ?_ _;go_wp2;exact bodyPost_ret (v:=.tuple #[x.v,v5]) (by simp [results,Tryz.results41,go_sem,x0,x1,x2,x3]) rfl ⟨x,B,T,v5,n,h,rfl,HM.out,HF.1,HF.2.1,hn,HF.2.2.1,by simpa using HF.2.2.2.1,HF.2.2.2.2.1⟩
def qt0 (w:World) (e:Ending) (w':World):Prop:=∃ (x:SysIn) (B T:Nat) (v:Value) (n:Nat) (h:Nat->Wo2),e=.returned (.tuple #[x.v,v])/\x.y.Sm/\SysX w' B T x/\OwV w' w.heap.size v n h/\n<=800/\T<=w'.heap.size/\Below w.heap.size w w'
theorem qjw (W0 len cap:Nat) (a0:Option Addr) (w:World) (hB:qb3 w W0 a0 len) (hW:W0<=w.heap.size) (ln:len<=1048576):
  Calls Tryz.prog 10 #[.slice a0 len cap] w (qt0 w):=by
 have C0:Hid (qb3 (w.alloc (zQ4)) W0 a0 len/\W0<=(w.alloc (zQ4)).heap.size/\Below w.heap.size w (w.alloc (zQ4))/\Bx (w.alloc (zQ4)) w.heap.size (.slice none 0 0) (.slice none 0 0) (.slice none 0 0) (.slice none 0 0)/\(w.alloc (zQ4)).heap.size=w.heap.size+1):=⟨hB.kept (fun k hk=>(zQ w (zQ4)).block k (by omega)),by simp;omega,zQ _ _,Bx.new w _ _ _ _ _,by simp⟩
 clear hB
 go_enter Tryz.func10,Tryz.ntmps10
 go_wp2_with fail
 generalize w.alloc (zQ4)=W2 at *;refine (qmm W0 len cap a0 W2 C0.1 C0.2.1 ln).mono ?_;rintro e w2 ⟨x,B,T,v,n,h,rfl,hm,hX,hO,hn,hBl,hT,hb⟩;have HM:Hid x.y.Sm:=hm;obtain ⟨gv,cv,rfl,hgv1,hgv2,hgv3,hgv4⟩:=id hO
 have F:Hid (SysX (w2.alloc (oQ5 x.pa x.pn x.pc x.sa x.sn x.sc x.wa x.wn x.wc x.ha x.hn x.hc)) B T x/\Bx (w2.alloc (oQ5 x.pa x.pn x.pc x.sa x.sn x.sc x.wa x.wn x.wc x.ha x.hn x.hc)) w.heap.size (.slice none 0 0) (.slice none 0 0) (.slice none 0 0) (.slice none 0 0)/\Bx (w2.alloc (oQ5 x.pa x.pn x.pc x.sa x.sn x.sc x.wa x.wn x.wc x.ha x.hn x.hc)) w2.heap.size (.slice x.pa x.pn x.pc) (.slice x.sa x.sn x.sc) (.slice x.wa x.wn x.wc) (.slice x.ha x.hn x.hc)/\Below w.heap.size w (w2.alloc (oQ5 x.pa x.pn x.pc x.sa x.sn x.sc x.wa x.wn x.wc x.ha x.hn x.hc))/\w.heap.size<B/\T<=w2.heap.size/\OwV (w2.alloc (oQ5 x.pa x.pn x.pc x.sa x.sn x.sc x.wa x.wn x.wc x.ha x.hn x.hc)) (w.heap.size+1) (.slice (some ⟨gv,0,none⟩) n cv) n h):=by
  have h1:=C0.2.2.2.2;have h2:=hb.size;exact ⟨hX.keep (by simp) fun b _ _ hl=>(zQ w2 _).block b hl,(C0.2.2.2.1.below hb).below (zQ _ _),Bx.new _ _ _ _ _ _,(C0.2.2.1.trans (hb.mono (by omega))).trans ((zQ _ _).mono (by omega)),by omega,hT,(hO.below (zQ _ _)).mono (by omega)⟩
 clear hX hBl hT hb hm hO hgv1 hgv2 hgv3 hgv4 C0;go_upto_region 2 with fail
 generalize w2.alloc (oQ5 x.pa x.pn x.pc x.sa x.sn x.sc x.wa x.wn x.wc x.ha x.hn x.hc)=wA at *;generalize w2.heap.size=M at *;obtain ⟨⟨x0,x1,x2,x3⟩,xf⟩:=F.2.1;obtain ⟨⟨z0,z1,z2,z3⟩,-⟩:=F.2.2.1;go_wp2;refine bodyPost_ret (v:=.tuple #[x.v,.slice (some ⟨gv,0,none⟩) n cv]) (by simp [results,Tryz.results10,go_sem,x0,x1,x2,x3]) rfl ⟨x,B,T,_,n,h,rfl,HM.out,?_,?_,hn,?_,?_⟩
 ·exact F.1.keep (by simp) fun b hb _ _=>by
   have:=F.2.2.2.2.1;rw [zO _ _ _ _ (by show b≠w.heap.size;omega),zO _ _ _ _ (by show b≠w.heap.size;omega),zO _ _ _ _ (by show b≠w.heap.size;omega),zO _ _ _ _ (by show b≠w.heap.size;omega)]
 ·refine (F.2.2.2.2.2.2.ofBlock (by simp) fun k hk=>?_).mono (by omega)
  have h1:=(F.2.2.2.2.2.2.lt k hk).1;rw [zO _ _ _ _ (by show k≠w.heap.size;omega),zO _ _ _ _ (by show k≠w.heap.size;omega),zO _ _ _ _ (by show k≠w.heap.size;omega),zO _ _ _ _ (by show k≠w.heap.size;omega)]
 ·have:=F.2.2.2.2.2.1
  have:=F.2.2.1.lt;simp;omega
 ·exact (((F.2.2.2.1.setCell (Nat.le_refl _) _).setCell (Nat.le_refl _) _).setCell (Nat.le_refl _) _).setCell (Nat.le_refl _) _
structure Sy.Beg (t y:Sy):Prop where
 n:t.pn=y.pn
 l:t.pL=y.pL
 h:t.pH=y.pH
 le:∀ p,p<y.pn->t.hL p<=y.hL p
 ev:∀ p,p<y.pn->∀ i,i<t.hL p->t.hH p i=y.hH p i
theorem Sy.Beg.rp {t y:Sy} (b:t.Beg y) (ht:t.Ok) {p:Nat} (hp:p<y.pn):Go.Proofs.YtegogmbfhddeoaaGreatDoor.rp (y.pH p) (y.pL p) (y.hH p) (t.hL p)=some (t.sS p):=by
 have h0:=(qbj (ht.rp p (by rw [b.n];exact hp))).2.2;rw [b.h,b.l] at h0;rw [<- h0];exact qje fun i hi=>(b.ev p hp i hi).symm
theorem Sy.Beg.can {t y:Sy} (b:t.Beg y) (ht:t.Ok) (hy:y.Ok) {p:Nat} (hp:p<y.pn) (hl:t.hL p<y.hL p):doB (t.pH p) (t.pL p) (t.sS p).p (t.sS p).rs (t.sS p).os (t.sS p).c (y.hH p (t.hL p)).k (y.hH p (t.hL p)).q (y.hH p (t.hL p)).v=true:=by
 rw [b.h,b.l];have h0:=b.rp ht hp
 rcases zK (doB (y.pH p) (y.pL p) (t.sS p).p (t.sS p).rs (t.sS p).os (t.sS p).c (y.hH p (t.hL p)).k (y.hH p (t.hL p)).q (y.hH p (t.hL p)).v) with e | e
 ·exact e
 ·have h1:=qjf (qsq h0 e) hl
  rw [(qbj (hy.rp p hp)).2.2] at h1;cases h1
theorem Sy.Beg.run {t y:Sy} (b:t.Beg y) (ht:t.Ok) (hy:y.Ok) {p:Nat} (hp:p<y.pn) (hl:t.hL p<y.hL p):(t.sS p).c=0:=by
 have h:=qc9 (b.can ht hy hp hl);simp only [qbq,Bool.and_eq_true,beq_iff_eq] at h;exact h.2
theorem Sy.Beg.take {t y:Sy} (b:t.Beg y) (ht:t.Ok) (hy:y.Ok) {p:Nat} (hp:p<y.pn) (hl:t.hL p<y.hL p) (hk:t.nk p=3):(y.hH p (t.hL p)).k=3/\t.eq p (y.hH p (t.hL p)).q=(y.hH p (t.hL p)).q/\0<=(y.hH p (t.hL p)).q:=by
 have h:=b.can ht hy hp hl;have hk':nxK (t.pH p) (t.pL p) (t.sS p).p (t.sS p).rs (t.sS p).os (t.sS p).c=3:=hk;have he:=hy.evq hp hl;unfold doB canB at h;rw [if_pos hk'] at h;simp only [Bool.and_eq_true,beq_iff_eq] at h;obtain ⟨⟨h1,-⟩,h2⟩:=h;refine ⟨h1,?_,he.1⟩;unfold Sy.eq;rw [if_pos hk];by_cases e9:t.nq p=9
 ·rw [if_pos e9]
 ·have e9':¬ nxP (t.pH p) (t.pL p) (t.sS p).p (t.sS p).rs (t.sS p).os (t.sS p).c=9:=e9
  rw [if_neg e9',beq_iff_eq] at h2;rw [if_neg e9];exact h2.symm
theorem Sy.Beg.other {t y:Sy} (b:t.Beg y) (ht:t.Ok) (hy:y.Ok) {p:Nat} (hp:p<y.pn) (hl:t.hL p<y.hL p) (hk:t.nk p≠3) (f:Int):(y.hH p (t.hL p)).k=t.nk p/\t.eq p f=(y.hH p (t.hL p)).q/\t.ev p f=(y.hH p (t.hL p)).v:=by
 have h:=b.can ht hy hp hl;have hk':¬ nxK (t.pH p) (t.pL p) (t.sS p).p (t.sS p).rs (t.sS p).os (t.sS p).c=3:=hk;unfold doB canB at h;rw [if_neg hk'] at h;simp only [Bool.and_eq_true,beq_iff_eq] at h;obtain ⟨-,h1,h2,h3⟩:=h;refine ⟨h1,?_,?_⟩
 ·unfold Sy.eq
  rw [if_neg hk];exact h2.symm
 ·unfold Sy.ev
  rw [if_neg hk];exact h3.symm
theorem Sy.Beg.kq {t y:Sy} (b:t.Beg y) (ht:t.Ok) (hy:y.Ok) {p:Nat} (hp:p<y.pn) (hl:t.hL p<y.hL p):(y.hH p (t.hL p)).k=t.nk p/\t.eq p (y.hH p (t.hL p)).q=(y.hH p (t.hL p)).q:=by
 by_cases hk:t.nk p=3
 ·obtain ⟨h1,h2,-⟩:=b.take ht hy hp hl hk
  exact ⟨by rw [h1,hk],h2⟩
 ·obtain ⟨h1,h2,-⟩:=b.other ht hy hp hl hk (y.hH p (t.hL p)).q
  exact ⟨h1,h2⟩
theorem Sy.Beg.val {t y:Sy} (b:t.Beg y) {p:Nat} (hp:p<y.pn) (kd pr:Int):valL (t.hH p) kd pr (t.hL p)=valL (y.hH p) kd pr (t.hL p):=qia fun i hi=>b.ev p hp i hi
theorem Sy.Beg.evv {t y:Sy} (b:t.Beg y) (ht:t.Ok) (hy:y.Ok) {p:Nat} (hp:p<y.pn) (hl:t.hL p<y.hL p) (hc:cmS t p (y.hH p (t.hL p)).q=0):t.ev p (y.hH p (t.hL p)).q=(y.hH p (t.hL p)).v:=by
 by_cases hk:t.nk p=3
 case neg=>exact (b.other ht hy hp hl hk _).2.2
 obtain ⟨k1,k2,k3⟩:=b.take ht hy hp hl hk;have hpt:p<t.pn:=by rw [b.n];exact hp
 have D:=ht.done hpt hc;obtain ⟨t1,t2,t3,-⟩:=D.take hk;have hpe:=D.peer;rw [k2] at t1 t2 t3 hpe;obtain ⟨q,hq⟩:∃ q:Nat,(y.hH p (t.hL p)).q=q:=⟨(y.hH p (t.hL p)).q.toNat,by omega⟩
 rw [<- t3];rw [hq,Int.toNat_natCast] at t1 t2 ⊢;have hqn:q<y.pn:=by rw [hq,b.n] at hpe;omega
 have w1:=(ht.wa q (by rw [b.n];exact hqn) p hpt).eq;obtain ⟨m,em⟩:∃ m,t.wL (q*t.pn+p)=m+1:=⟨t.wL (q*t.pn+p) - 1,by omega⟩
 rw [em,qed t2,b.val hp,b.val hqn] at w1;have w2:=(hy.wa q hqn p hp).eq;obtain ⟨s1,h1⟩:=qju (y.hH p) 3 q (t.hL p+1) (y.hL p - (t.hL p+1));rw [show t.hL p+1+(y.hL p - (t.hL p+1))=y.hL p by omega,qgs (qdi.2 ⟨k1,hq⟩)] at h1;obtain ⟨s2,h2⟩:=qju (y.hH q) 2 p (t.hL q) (y.hL q - t.hL q);rw [show t.hL q+(y.hL q - t.hL q)=y.hL q by have:=b.le q hqn;omega,<- w1] at h2;rw [h1,h2] at w2;simp only [List.append_assoc,List.cons_append,List.nil_append] at w2;have w3:=List.append_cancel_left w2;simp only [List.cons.injEq] at w3;exact w3.1.symm
theorem Sy.Beg.step {t y:Sy} (b:t.Beg y) (ht:t.Ok) (hy:y.Ok) {p:Nat} (hp:p<y.pn) (hl:t.hL p<y.hL p) (hc:cmS t p (y.hH p (t.hL p)).q=0):(t.step p (y.hH p (t.hL p)).q).Beg y/\(t.step p (y.hH p (t.hL p)).q).hL=up t.hL p:=by
 have e:t.step p (y.hH p (t.hL p)).q=(t.way p (t.nk p) (t.eq p (y.hH p (t.hL p)).q) (t.ev p (y.hH p (t.hL p)).q)).evt p (t.nk p) (t.eq p (y.hH p (t.hL p)).q) (t.ev p (y.hH p (t.hL p)).q):=if_pos hc;obtain ⟨k1,k2⟩:=b.kq ht hy hp hl;rw [e,b.evv ht hy hp hl hc,k2,<- k1]
 have eL:∀ j,(up t.hL p) j=if j=p then t.hL p+1 else t.hL j:=fun j=>by
  by_cases ej:j=p
  ·subst ej
   rw [qb5,if_pos rfl]
  ·rw [up_other ej,if_neg ej]
 refine ⟨⟨b.n,b.l,b.h,fun j hj=>?_,fun j hj i hi=>?_⟩,(funext eL).symm⟩
 ·show (if j=p then t.hL p+1 else t.hL j)<=y.hL j
  by_cases ej:j=p
  ·subst ej
   rw [if_pos rfl];omega
  ·rw [if_neg ej]
   exact b.le j hj
 ·have hi':i<(if j=p then t.hL p+1 else t.hL j):=hi
  show (if j=p then (fun i=>if i=t.hL p then (⟨(y.hH p (t.hL p)).k,(y.hH p (t.hL p)).q,(y.hH p (t.hL p)).v⟩:E3) else t.hH p i) else t.hH j) i=y.hH j i;by_cases ej:j=p
  ·subst ej
   rw [if_pos rfl] at hi' ⊢;by_cases ei:i=t.hL j
   ·rw [ei]
    simp only [if_true]
   ·show (if i=t.hL j then _ else t.hH j i)=_
    rw [if_neg ei];exact b.ev j hj i (by omega)
  ·rw [if_neg ej] at hi' ⊢
   exact b.ev j hj i hi'
theorem Sy.Beg.same {t y:Sy} (b:t.Beg y) (ht:t.Ok) (hy:y.Ok) (ha:∀ p,p<y.pn->t.hL p=y.hL p):t.EqH y/\t.EqS y/\t.wn=y.wn/\∀ i,i<y.wn->numL (t.wH i) (t.wL i)=numL (y.wH i) (y.wL i):=by
 obtain ⟨-,hs,hh,hw⟩:=hy.cn;obtain ⟨-,hs',hh',hw'⟩:=ht.cn;refine ⟨⟨by rw [hh,hh',b.n],fun k hk=>?_⟩,⟨by rw [hs,hs',b.n],fun k hk=>?_⟩,by rw [hw,hw',b.n],fun i hi=>?_⟩
 ·have hk':k<y.pn:=by omega
  exact ⟨ha k hk',fun i hi=>b.ev k hk' i (by rw [ha k hk'];exact hi)⟩
 ·have hk':k<y.pn:=by omega
  have h1:=b.rp ht hk';rw [ha k hk',(qbj (hy.rp k hk')).2.2] at h1;exact (Option.some.inj h1).symm
 ·rw [hw] at hi
  have h0:0<y.pn:=hy.cn.1.1;have hx:i / y.pn<y.pn:=Nat.div_lt_of_lt_mul hi;have hb:i % y.pn<y.pn:=Nat.mod_lt _ h0;have ei:(i / y.pn)*y.pn+i % y.pn=i:=by rw [Nat.mul_comm];exact Nat.div_add_mod i y.pn
  have w1:=(ht.wa (i / y.pn) (by rw [b.n];exact hx) (i % y.pn) (by rw [b.n];exact hb)).eq;have w2:=(hy.wa (i / y.pn) hx (i % y.pn) hb).eq;rw [b.val hx,b.val hb,ha _ hx,ha _ hb,b.n] at w1;rw [<- w2] at w1;rw [ei] at w1;exact List.append_cancel_left w1
theorem qvh {y:Sy} {h:Nat->Wo2} {n:Nat} (hr:rwB y h n=true) (hc:∀ i,i<n->rdC y h i=0):∀ i,i<=n->(rdY y h i).Beg y/\∀ p,p<y.pn->(rdY y h i).hL p=tnD (rwF h) i p:=by
 unfold rwB at hr;simp only [Bool.and_eq_true] at hr;obtain ⟨ho,hq⟩:=hr;have hO:=Sy.ok_of ho;obtain ⟨hat,-⟩:=qny.1 hq;intro i
 induction i with
 | zero=>exact fun _=>⟨⟨rfl,rfl,rfl,fun _ _=>Nat.zero_le _,fun _ _ j hj=>absurd hj (Nat.not_lt_zero _)⟩,fun _ _=>rfl⟩
 | succ i ih=>
  intro hi;obtain ⟨b,hL⟩:=ih (by omega);obtain ⟨p,hp,e1,e2,hcan⟩:=hat i (by omega);have hp':p<y.pn:=hp;have hl:(rdY y h i).hL p=tnD (rwF h) i p:=hL p hp';have hlt:(rdY y h i).hL p<y.hL p:=by rw [hl];exact hcan.1
  have ep:rwF h i=p:=by rw [rwF,e1];exact Int.toNat_natCast p
  have eq:rdPq y (h i)=(y.hH p ((rdY y h i).hL p)).q:=by
   unfold rdPq;rw [e1,e2,Int.toNat_natCast,Int.toNat_natCast,hl]
  have hb:belB (p:Int) (rdY y h i).pn=true:=by
   simp only [belB,decide_eq_true_eq];rw [b.n];omega
  have hok:=qhe hO h i;have hc0:=hc i (by omega);unfold rdC stC at hc0;rw [Sy.okB_true hok,if_pos rfl,e1,if_pos hb,Int.toNat_natCast,eq] at hc0
  have hs:rdY y h (i+1)=(rdY y h i).step p (y.hH p ((rdY y h i).hL p)).q:=by
   show stY (rdY y h i) (h i).m (rdPq y (h i))=_;unfold stY;rw [Sy.okB_true hok,if_pos rfl,e1,if_pos hb,Int.toNat_natCast,eq]
  obtain ⟨b',l'⟩:=b.step hok hO hp' hlt hc0;rw [hs];refine ⟨b',fun j hj=>?_⟩;rw [l',qjt,ep];by_cases ej:j=p
  ·subst ej
   rw [qb5,qb5,hl]
  ·rw [up_other ej,up_other ej,hL j hj]
theorem Sy.EqH.symm {t y : Sy} (h : t.EqH y) : y.EqH t := ⟨h.1.symm, fun k hk => ⟨(h.2 k (by rw [← h.1]; exact hk)).1.symm, fun i hi => by
 have h9:=h.2 k (by rw [<- h.1];exact hk)
 exact (h9.2 i (by rw [<- h9.1];exact hi)).symm⟩⟩
theorem Sy.EqS.symm {t y:Sy} (h:t.EqS y):y.EqS t:=⟨h.1.symm,fun k hk=>(h.2 k (by rw [<- h.1];exact hk)).symm⟩
theorem quq {y:Sy} {h:Nat->Wo2} {n:Nat} (e:rdB y h n=true):(rdY y h n).Ok/\(rdY y h n).EqH y/\(rdY y h n).EqS y/\(rdY y h n).wn=y.wn/\∀ i,i<y.wn->numL ((rdY y h n).wH i) ((rdY y h n).wL i)=numL (y.wH i) (y.wL i):=by
 unfold rdB at e;simp only [Bool.and_eq_true] at e;obtain ⟨e1,e2⟩:=e;have hc:qt1 y h n:=qny.1 e2;obtain ⟨b,hL⟩:=qvh e1 hc n (Nat.le_refl _);have e3:=e1;unfold rwB at e3;simp only [Bool.and_eq_true] at e3;have hO:=Sy.ok_of e3.1;have hall:=(qny.1 e3.2).2;exact ⟨qhe hO h n,b.same (qhe hO h n) hO fun p hp=>(hL p hp).trans (hall p hp)⟩
structure RdJ (w:World) (x:SysIn) (B A:Nat) (Y:Sy) (vp vs vw vh:Value) (wx:World):Prop where
 k:RdK w x B A Y vp vs vw vh wx
 fa:∀ j,wx.frozen? ⟨A,j,none⟩=false
theorem RdJ.below {w:World} {x:SysIn} {B A:Nat} {Y:Sy} {vp vs vw vh:Value} {wx wy:World} (h:RdJ w x B A Y vp vs vw vh wx) (hb:Below wx.heap.size wx wy):RdJ w x B A Y vp vs vw vh wy:=
 ⟨h.k.below hb,fun j=>(hb.frozen (p:=⟨A,j,none⟩) h.k.lt).trans (h.fa j)⟩
theorem RdJ.l5 {w:World} {x:SysIn} {B A:Nat} {Y:Sy} {vp vs vw vh:Value} {wr wx:World} (h:RdJ w x B A Y vp vs vw vh wr) (hO:Y.Ok) (hb:Below wr.heap.size wr wx) (p:Nat) (f:Int) (hp:p<Y.pn):
  Calls Tryz.prog 45 #[.agg #[vp,vs,vw,vh],.int .i64 p,.int .i64 f] wx fun e w'=>e=.returned (.tuple #[.agg #[vp,vs,vw,vh],.int .i64 (stC Y p f)])/\RdJ w x B A (stY Y p f) vp vs vw vh w'/\(∀ b,wr.heap.size<=b->b<wx.heap.size->w'.heap[b]? = wx.heap[b]?)/\∀ N,wr.heap.size<=N->N<wx.heap.size->∀ a b d t,RdJ w x B A (stY Y p f) vp vs vw vh ((((w'.setCell ⟨N,0,none⟩ a).setCell ⟨N,1,none⟩ b).setCell ⟨N,2,none⟩ d).setCell ⟨N,3,none⟩ t):=by
 obtain ⟨c,up,us,uw,uh,o,hc⟩:=h.k.ow;have hA:=h.k.lt;have hAx:A<wx.heap.size:=zL hA hb.size;have o2:=(o.recol 0).below hb;have hbl:belB (p:Int) Y.pn=true:=decide_eq_true ⟨by omega,by omega⟩
 have eC:stC Y (p:Int) f=cmS Y p f:=by
  unfold stC;rw [if_pos (Sy.okB_true hO),if_pos hbl,Int.toNat_natCast]
 have eY:stY Y (p:Int) f=Y.step p f:=by
  unfold Go.Proofs.YtegogmbfhddeoaaGreatDoor.stY;rw [if_pos (Sy.okB_true hO),if_pos hbl,Int.toNat_natCast]
 rw [eC,eY];refine (qk1 Y p f wx B _ vp vs vw vh up us uw uh o2 hp hO).mono ?_;rintro e w' ⟨rfl,b1,c',us',uw',uh',o',kp⟩;have kA:=kp A hAx ((qau hA).trans hc);have hbx:=h.below hb;have r1:RdJ w x B A (Y.step p f) vp vs vw vh w':=⟨⟨hbx.k.rw.keep h.k.nb.1 b1,hbx.k.bx.blkK kA.1,⟨c',up,us',uw',uh',o',kA.2⟩,h.k.nb⟩,fun j=>(zI kA.1).trans (hbx.fa j)⟩
 refine ⟨rfl,r1,fun b h1 h2=>(kp b h2 (qaf h1)).1,fun N h1 h2 a b d t=>?_⟩;have hcN:=(kp N h2 (qaf h1)).2;have hBN:B<=N:=by have:=h.k.nb.2;omega
 have hAN:A≠N:=by omega
 refine ⟨⟨r1.k.rw.keep h.k.nb.1 (((((Below.refl B w').setCell (p:=⟨N,0,none⟩) hBN a).setCell (p:=⟨N,1,none⟩) hBN b).setCell (p:=⟨N,2,none⟩) hBN d).setCell (p:=⟨N,3,none⟩) hBN t),r1.k.bx.blkK ?_,⟨c',up,us',uw',uh',(((o'.setOut hcN 0 a).setOut hcN 1 b).setOut hcN 2 d).setOut hcN 3 t,kA.2⟩,h.k.nb⟩,fun j=>?_⟩
 ·rw [zO _ _ _ _ hAN,zO _ _ _ _ hAN,zO _ _ _ _ hAN,zO _ _ _ _ hAN]
 ·rw [World.frozen?_setCell,World.frozen?_setCell,World.frozen?_setCell,World.frozen?_setCell]
  exact r1.fa j
theorem RdJ.put4 {w:World} {x:SysIn} {B A:Nat} {Y:Sy} {vp vs vw vh:Value} {wx:World} (h:RdJ w x B A Y vp vs vw vh wx):RdJ w x B A Y vp vs vw vh ((((wx.setCell ⟨A,0,none⟩ vp).setCell ⟨A,1,none⟩ vs).setCell ⟨A,2,none⟩ vw).setCell ⟨A,3,none⟩ vh):=by
 obtain ⟨c,up,us,uw,uh,o,hc⟩:=h.k.ow;have hBA:B<=A:=h.k.nb.2;obtain ⟨c0,c1,c2,c3⟩:=h.k.bx;refine ⟨⟨h.k.rw.keep h.k.nb.1 (((((Below.refl B wx).setCell (p:=⟨A,0,none⟩) hBA vp).setCell (p:=⟨A,1,none⟩) hBA vs).setCell (p:=⟨A,2,none⟩) hBA vw).setCell (p:=⟨A,3,none⟩) hBA vh),⟨by go_cell,by go_cell,by go_cell,by go_cell⟩,⟨c,up,us,uw,uh,(((o.setOut hc 0 vp).setOut hc 1 vs).setOut hc 2 vw).setOut hc 3 vh,hc⟩,h.k.nb⟩,fun j=>?_⟩;rw [World.frozen?_setCell,World.frozen?_setCell,World.frozen?_setCell,World.frozen?_setCell];exact h.fa j
theorem qlj (x:SysIn) (la:Option Addr) (n lc:Nat) (h:Nat->Wo2) (w:World) (hG:SysG w x) (hL:x.Len) (hcap:∀ i,i<x.hn->x.hL i<=x.hC i) (hW:WoL w la n h) (hn:n<=1048576):
  Calls Tryz.prog 12 #[x.v,.slice la n lc] w fun e w'=>∃ u,e=.returned (.tuple #[u,.bool (rdB x.y h n)])/\qaw false w' w.heap.size (rdSs x.y h n) u/\Below w.heap.size w w':=by
 have HRo:Hid (∀ t,rwB x.y h n=t->∀ wx,Below w.heap.size w wx->Calls Tryz.prog 14 #[x.v,.slice la n lc] wx fun e w'=>e=.returned (.bool t)/\Below wx.heap.size wx w'):=fun t ht wx hb=>by
  rw [<- ht];exact qfk x la n lc h wx (hG.below hb) hL hcap (hW.below hb) hn
 have HNw:Hid (∀ wx,Below w.heap.size w wx->Calls Tryz.prog 44 #[.slice x.pa x.pn x.pc] wx (NwR wx x.pn x.pL x.pH)):=fun wx hb=>qep x.pa x.pn x.pc x.pA x.pL x.pC x.pH wx hL.p.1 hL.p.2 (hG.below hb).p fun i hi=>by
  obtain ⟨b,e,hlt,hI⟩:=(hG.below hb).pi i hi;rw [e];exact srcI hlt hI
 have HW:Hid (∀ wx,Below w.heap.size w wx->WoL wx la n h):=fun wx hb=>hW.below hb;have HG:Hid (∀ wx,Below w.heap.size w wx->SysG wx x):=fun wx hb=>hG.below hb;have X0:Hid (Rdw w x ((w.alloc (oQ5 x.pa x.pn x.pc x.sa x.sn x.sc x.wa x.wn x.wc x.ha x.hn x.hc)).alloc (zQ4))):=Rdw.new w x;have hn':(n:Int)<=1048576:=by omega
 clear hG hL hW hcap
 go_enter Tryz.func12,Tryz.ntmps12
 go_upto_region 1 with fail
 generalize (w.alloc (oQ5 x.pa x.pn x.pc x.sa x.sn x.sc x.wa x.wn x.wc x.ha x.hn x.hc)).alloc (zQ4)=W1 at *;obtain ⟨k0,k1,k2,k3⟩:=X0.out.bs;go_wp2_with fail
 clear k0 k1 k2 k3;cases hr:rwB x.y h n with
 | false=>
  have HF:Hid (rdB x.y h n=false/\rdSs x.y h n={ x.y with pn:=0,sn:=0,wn:=0,hn:=0 }):=⟨qjb hr,qh8 (qjb hr)⟩
  refine (HRo.out false hr W1 X0.out.be).mono ?_;rintro e w2 ⟨rfl,b2⟩;have X2:Hid (Rdw w x w2):=X0.out.below b2;clear b2 X0;obtain ⟨r0,r1,r2,r3⟩:=X2.out.bo;have rf:=X2.out.fo;go_wp2;exact bodyPost_ret (v:=.tuple #[sysV none 0 0 none 0 0 none 0 0 none 0 0,.bool false]) (by simp [results,Tryz.results12,go_sem,r0,r1,r2,r3]) rfl ⟨_,by rw [HF.1],by rw [HF.2];exact qaw.zero _ _ _,X2.out.zero⟩
 | true=>
  refine (HRo.out true hr W1 X0.out.be).mono ?_;rintro e w2 ⟨rfl,b2⟩;have X2:Hid (Rdw w x w2):=X0.out.below b2;have HAt:Hid (∀ i,i<n->∃ p q:Nat,(h i).m=(p:Nat)/\(h i).v=(q:Nat)/\p<x.y.pn/\q<x.y.hL p/\x.y.Ok):=fun i hi=>qtv hr hi;have hOk:x.y.Ok:=Sy.ok_of (by unfold rwB at hr;simp only [Bool.and_eq_true] at hr;exact hr.1);have HO:Hid (x.y.Ok/\rwB x.y h n=true/\nwN x.pn x.pL x.pH=x.pn/\snB x.pn x.pL x.pH=true):=⟨hOk,hr,if_pos hOk.snB,hOk.snB⟩
  have HPn:Hid (∀ j,(rdY x.y h j).pn=x.y.pn):=fun j=>by
   induction j with
   | zero=>rfl
   | succ j ih=>exact (qvj (qhe hOk h j) _ _).trans ih
  clear b2 X0 HRo hOk hr;obtain ⟨k0,k1,k2,k3⟩:=X2.out.bs;go_wp2_with fail
  clear k0 k1 k2 k3;refine (HNw.out w2 X2.out.be).mono ?_;rintro e w3 ⟨pa,pc,sa,sc,wa,wc,ha,hc,rfl,o3,q3⟩;rw [HO.2.2.1] at o3 ⊢;obtain ⟨c,up,us,o3⟩:=o3.s;have ba:=zT w3 (oQ5 pa x.pn pc sa x.pn sc wa (x.pn*x.pn) wc ha x.pn hc);have L4:Hid (RdJ w x w2.heap.size w3.heap.size (rdY x.y h 0) (.slice pa x.pn pc) (.slice sa x.pn sc) (.slice wa (x.pn*x.pn) wc) (.slice ha x.pn hc) (w3.alloc (oQ5 pa x.pn pc sa x.pn sc wa (x.pn*x.pn) wc ha x.pn hc))):=⟨⟨X2.out.below (q3.trans (ba.mono q3.size)),BoxC.new w3 _ _ _ _ _,⟨_,up,us,_,_,(o3.recol 0).below ba,qaf (Nat.le_refl _)⟩,X2.out.lt,q3.size⟩,fun j=>yB _ _ _ _ rfl⟩
  go_upto_region 4 with fail
  clear o3 q3 ba X2 HNw;generalize w2.heap.size=B at *;generalize w3.alloc (oQ5 pa x.pn pc sa x.pn sc wa (x.pn*x.pn) wc ha x.pn hc)=w4 at *;generalize w3.heap.size=A at *;go_wp2_with fail
  go_loopw [8] (fun i wr=>∃ j:Nat,j<=n/\i=.int .i64 (j:Nat)/\Hid (RdJ w x B A (rdY x.y h j) (.slice pa x.pn pc) (.slice sa x.pn sc) (.slice wa (x.pn*x.pn) wc) (.slice ha x.pn hc) wr/\∀ i,i<j->rdC x.y h i=0)) (fun i _=>n - (intOf i).toNat)
  case atStart=>exact ⟨0,Nat.zero_le _,rfl,L4.out,fun i hi=>absurd hi (Nat.not_lt_zero _)⟩
  case round=>
   clear L4
   rename World=>wr
   obtain ⟨j,hj,rfl,HK⟩:=hrel;by_cases hlt:j<n
   case neg=>
    have hjn:j=n:=by omega
    have HF:Hid (rdB x.y h n=true/\rdSs x.y h n=rdY x.y h j):=by
     have h9:rdB x.y h n=true:=qqx HO.2.1 fun i hi=>HK.2 i (by omega);exact ⟨h9,by rw [qm0 h9,hjn]⟩
    obtain ⟨k0,k1,k2,k3⟩:=HK.1.k.bx;obtain ⟨r0,r1,r2,r3⟩:=HK.1.k.rw.bo;have rf:=HK.1.k.rw.fo;have HE:=HK.1.k.own;clear hjn;go_wp2;exact bodyPost_ret (v:=.tuple #[.agg #[.slice pa x.pn pc,.slice sa x.pn sc,.slice wa (x.pn*x.pn) wc,.slice ha x.pn hc],.bool true]) (by simp [results,Tryz.results12,go_sem,r0,r1,r2,r3]) rfl ⟨_,by rw [HF.1],by rw [HF.2];exact HE.1,HE.2⟩
   have hlt':(j:Int)<(n:Int):=by omega
   obtain ⟨p,q,em,eq,hp,hq,-⟩:=HAt.out j hlt;obtain ⟨b,off,rfl,-,c0,c1⟩:=(HW.out wr HK.1.k.rw.be).at hlt;rw [em] at c0;rw [eq] at c1;have hhn:x.hn=x.y.pn:=HO.1.cn.2.2.1;have hp':(p:Int)<(x.hn:Int):=by rw [hhn];omega
   have hq':(q:Int)<(x.hL p:Int):=by have:x.y.hL p=x.hL p:=rfl;omega
   have HQ:Hid ((h j).m=(p:Nat)/\(h j).v=(q:Nat)/\rdPq x.y (h j)=(x.hH p q).q):=⟨em,eq,by unfold rdPq;rw [em,eq,Int.toNat_natCast,Int.toNat_natCast];rfl⟩
   have HPp:Hid (p<x.hn/\q<x.hL p/\p<x.y.pn):=⟨by rw [hhn];exact hp,hq,hp⟩
   have HSt:Hid (∀ wx,Below wr.heap.size wr wx->Calls Tryz.prog 45 #[.agg #[.slice pa x.pn pc,.slice sa x.pn sc,.slice wa (x.pn*x.pn) wc,.slice ha x.pn hc],.int .i64 (p:Nat),.int .i64 (rdPq x.y (h j))] wx fun e w'=>e=.returned (.tuple #[.agg #[.slice pa x.pn pc,.slice sa x.pn sc,.slice wa (x.pn*x.pn) wc,.slice ha x.pn hc],.int .i64 (rdC x.y h j)])/\RdJ w x B A (rdY x.y h (j+1)) (.slice pa x.pn pc) (.slice sa x.pn sc) (.slice wa (x.pn*x.pn) wc) (.slice ha x.pn hc) w'/\(∀ b,wr.heap.size<=b->b<wx.heap.size->w'.heap[b]? = wx.heap[b]?)/\∀ N,wr.heap.size<=N->N<wx.heap.size->∀ a b d t,RdJ w x B A (rdY x.y h (j+1)) (.slice pa x.pn pc) (.slice sa x.pn sc) (.slice wa (x.pn*x.pn) wc) (.slice ha x.pn hc) ((((w'.setCell ⟨N,0,none⟩ a).setCell ⟨N,1,none⟩ b).setCell ⟨N,2,none⟩ d).setCell ⟨N,3,none⟩ t)):=fun wx hb=>by
    have h9:=HK.1.l5 (qhe HO.1 h j) hb p (rdPq x.y (h j)) (by rw [HPn.out];exact HPp.2.2)
    have e9:stY (rdY x.y h j) ((p:Nat):Int) (rdPq x.y (h j))=rdY x.y h (j+1):=by
     show _=stY (rdY x.y h j) (h j).m (rdPq x.y (h j));rw [HQ.1]
    have e8:stC (rdY x.y h j) ((p:Nat):Int) (rdPq x.y (h j))=rdC x.y h j:=by
     show _=stC (rdY x.y h j) (h j).m (rdPq x.y (h j));rw [HQ.1]
    rw [e9,e8] at h9;exact h9
   have K1:Hid (RdJ w x B A (rdY x.y h j) (.slice pa x.pn pc) (.slice sa x.pn sc) (.slice wa (x.pn*x.pn) wc) (.slice ha x.pn hc) (wr.alloc (oQ3 (p:Nat) (q:Nat)))/\(∀ i,i<j->rdC x.y h i=0)/\BoxS (wr.alloc (oQ3 (p:Nat) (q:Nat))) wr.heap.size (.int .i64 (p:Nat)) (.int .i64 (q:Nat))/\Below wr.heap.size wr (wr.alloc (oQ3 (p:Nat) (q:Nat)))/\wr.heap.size<(wr.alloc (oQ3 (p:Nat) (q:Nat))).heap.size):=⟨HK.1.below (zT _ _),HK.2,BoxS.new wr _ _ _,zT _ _,by simp⟩
   clear hhn hp hq em eq;obtain ⟨bh,oh,eh,ch⟩:=(HG.out w (Below.refl _ _)).h.at HPp.1;have hch:w.cell? ⟨bh,oh+p,none⟩=some (.slice (x.hA p) (x.hL p) (x.hC p)):=ch;obtain ⟨be,oe,ee,ze,-,e1,-⟩:=((HG.out w (Below.refl _ _)).hi p HPp.1).at HPp.2.1;rw [ee] at hch;have HCe:Hid (∀ wx,Below w.heap.size w wx->wx.cell? ⟨bh,oh+p,none⟩=some (.slice (some ⟨be,oe,none⟩) (x.hL p) (x.hC p))/\wx.cell? ⟨be,oe+q*3+1,none⟩=some (.int .i64 (rdPq x.y (h j)))):=fun wx hb=>⟨(hb.cell (zJ w _ hch)).trans hch,by rw [HQ.2.2];exact (hb.cell ze).trans e1⟩
   have HEh:Hid (x.ha=some ⟨bh,oh,none⟩):=eh;clear ch e1 hch eh ee ze;go_upto_region 8 with fail
   clear c0 c1 HK;generalize wr.alloc (oQ3 (p:Nat) (q:Nat))=w5 at *
   have hS:∀ wx,Rdw w x wx->BoxC wx A (.slice pa x.pn pc) (.slice sa x.pn sc) (.slice wa (x.pn*x.pn) wc) (.slice ha x.pn hc)->BoxS wx wr.heap.size (.int .i64 (p:Nat)) (.int .i64 (q:Nat))->(fun w':World=>BoxC w' A (.slice pa x.pn pc) (.slice sa x.pn sc) (.slice wa (x.pn*x.pn) wc) (.slice ha x.pn hc)/\w'.cell? ⟨wr.heap.size,0,none⟩=some (.int .i64 (p:Nat))/\w'.cell? ⟨wr.heap.size,1,none⟩=some (.int .i64 (q:Nat))/\w'.cell? ⟨w.heap.size,3,none⟩=some (.slice (some ⟨bh,oh,none⟩) x.hn x.hc)/\w'.cell? ⟨bh,oh+p,none⟩=some (.slice (some ⟨be,oe,none⟩) (x.hL p) (x.hC p))/\w'.cell? ⟨be,oe+q*3+1,none⟩=some (.int .i64 (rdPq x.y (h j)))) wx:=fun wx hr hx hp=>by
    refine ⟨hx,hp.1,hp.2,?_,(HCe.out wx hr.be).1,(HCe.out wx hr.be).2⟩;rw [<- HEh.out];exact hr.bs.2.2.2
   have HSS:Hid (∀ wx,Rdw w x wx->BoxC wx A (.slice pa x.pn pc) (.slice sa x.pn sc) (.slice wa (x.pn*x.pn) wc) (.slice ha x.pn hc)->BoxS wx wr.heap.size (.int .i64 (p:Nat)) (.int .i64 (q:Nat))->(fun w':World=>BoxC w' A (.slice pa x.pn pc) (.slice sa x.pn sc) (.slice wa (x.pn*x.pn) wc) (.slice ha x.pn hc)/\w'.cell? ⟨wr.heap.size,0,none⟩=some (.int .i64 (p:Nat))/\w'.cell? ⟨wr.heap.size,1,none⟩=some (.int .i64 (q:Nat))/\w'.cell? ⟨w.heap.size,3,none⟩=some (.slice (some ⟨bh,oh,none⟩) x.hn x.hc)/\w'.cell? ⟨bh,oh+p,none⟩=some (.slice (some ⟨be,oe,none⟩) (x.hL p) (x.hC p))/\w'.cell? ⟨be,oe+q*3+1,none⟩=some (.int .i64 (rdPq x.y (h j)))) wx):=hS;clear hS;obtain ⟨P,hP⟩:∃ P,wr.heap.size=P:=⟨_,rfl⟩
   rw [hP] at K1 HSS HSt ⊢;clear hP;have q0:Below w5.heap.size w5 w5.drew:=(Below.refl w5.heap.size w5).drew;have hHeld:(fun w':World=>BoxC w' A (.slice pa x.pn pc) (.slice sa x.pn sc) (.slice wa (x.pn*x.pn) wc) (.slice ha x.pn hc)/\w'.cell? ⟨P,0,none⟩=some (.int .i64 (p:Nat))/\w'.cell? ⟨P,1,none⟩=some (.int .i64 (q:Nat))/\w'.cell? ⟨w.heap.size,3,none⟩=some (.slice (some ⟨bh,oh,none⟩) x.hn x.hc)/\w'.cell? ⟨bh,oh+p,none⟩=some (.slice (some ⟨be,oe,none⟩) (x.hL p) (x.hC p))/\w'.cell? ⟨be,oe+q*3+1,none⟩=some (.int .i64 (rdPq x.y (h j)))) w5.drew:=HSS.out _ (K1.1.below q0).k.rw (K1.1.below q0).k.bx (K1.2.2.1.below q0);refine qak (fun w':World=>BoxC w' A (.slice pa x.pn pc) (.slice sa x.pn sc) (.slice wa (x.pn*x.pn) wc) (.slice ha x.pn hc)/\w'.cell? ⟨P,0,none⟩=some (.int .i64 (p:Nat))/\w'.cell? ⟨P,1,none⟩=some (.int .i64 (q:Nat))/\w'.cell? ⟨w.heap.size,3,none⟩=some (.slice (some ⟨bh,oh,none⟩) x.hn x.hc)/\w'.cell? ⟨bh,oh+p,none⟩=some (.slice (some ⟨be,oe,none⟩) (x.hL p) (x.hC p))/\w'.cell? ⟨be,oe+q*3+1,none⟩=some (.int .i64 (rdPq x.y (h j)))) (fun _=>false) (by kernel_rfl) ?_;refine qaa 0 rfl hHeld ?_;apply Exists.intro;refine ⟨fun wq hSw=>?_,?_⟩
   ·obtain ⟨⟨g0,g1,g2,g3⟩,g4,g5,g6,g7,g8⟩:=hSw
    go_simp;try with_reducible rfl
   (try simp only [Act.put,zD,zE,zF])
   refine qaa 1 rfl hHeld ?_;apply Exists.intro;refine ⟨fun wq hSw=>?_,?_⟩
   ·obtain ⟨⟨g0,g1,g2,g3⟩,g4,g5,g6,g7,g8⟩:=hSw
    go_simp;try with_reducible rfl
   (try simp only [Act.put,zD,zE,zF])
   refine qaa 2 rfl hHeld ?_;apply Exists.intro;refine ⟨fun wq hSw=>?_,?_⟩
   ·obtain ⟨⟨g0,g1,g2,g3⟩,g4,g5,g6,g7,g8⟩:=hSw
    go_simp;try with_reducible rfl
   (try simp only [Act.put,zD,zE,zF])
   refine qaa 3 rfl hHeld ?_;apply Exists.intro;refine ⟨fun wq hSw=>?_,?_⟩
   ·obtain ⟨⟨g0,g1,g2,g3⟩,g4,g5,g6,g7,g8⟩:=hSw
    go_simp;try with_reducible rfl
   (try simp only [Act.put,zD,zE,zF])
   refine qaa 4 rfl hHeld ?_;apply Exists.intro;refine ⟨fun wq hSw=>?_,?_⟩
   ·obtain ⟨⟨g0,g1,g2,g3⟩,g4,g5,g6,g7,g8⟩:=hSw
    go_simp;try with_reducible rfl
   (try simp only [Act.put,zD,zE,zF])
   refine qaa 5 rfl hHeld ?_;apply Exists.intro;refine ⟨fun wq hSw=>?_,?_⟩
   ·obtain ⟨⟨g0,g1,g2,g3⟩,g4,g5,g6,g7,g8⟩:=hSw
    go_simp;try with_reducible rfl
   (try simp only [Act.put,zD,zE,zF])
   refine qaa 6 rfl hHeld ?_;apply Exists.intro;refine ⟨fun wq hSw=>?_,?_⟩
   ·obtain ⟨⟨g0,g1,g2,g3⟩,g4,g5,g6,g7,g8⟩:=hSw
    go_simp;try with_reducible rfl
   (try simp only [Act.put,zD,zE,zF])
   refine qaa 7 rfl hHeld ?_;apply Exists.intro;refine ⟨fun wq hSw=>?_,?_⟩
   ·obtain ⟨⟨g0,g1,g2,g3⟩,g4,g5,g6,g7,g8⟩:=hSw
    go_simp;try with_reducible rfl
   (try simp only [Act.put,zD,zE,zF])
   refine qaa 8 rfl hHeld ?_;apply Exists.intro;refine ⟨fun wq hSw=>?_,?_⟩
   ·obtain ⟨⟨g0,g1,g2,g3⟩,g4,g5,g6,g7,g8⟩:=hSw
    go_simp;try with_reducible rfl
   (try simp only [Act.put,zD,zE,zF])
   refine qaa 9 rfl hHeld ?_;apply Exists.intro;refine ⟨fun wq hSw=>?_,?_⟩
   ·obtain ⟨⟨g0,g1,g2,g3⟩,g4,g5,g6,g7,g8⟩:=hSw
    go_simp;try with_reducible rfl
   (try simp only [Act.put,zD,zE,zF])
   refine qaa 10 rfl hHeld ?_;apply Exists.intro;refine ⟨fun wq hSw=>?_,?_⟩
   ·obtain ⟨⟨g0,g1,g2,g3⟩,g4,g5,g6,g7,g8⟩:=hSw
    go_simp;try with_reducible rfl
   (try simp only [Act.put,zD,zE,zF])
   refine qaa 11 rfl hHeld ?_;apply Exists.intro;refine ⟨fun wq hSw=>?_,?_⟩
   ·obtain ⟨⟨g0,g1,g2,g3⟩,g4,g5,g6,g7,g8⟩:=hSw
    go_simp;try with_reducible rfl
   (try simp only [Act.put,zD,zE,zF])
   refine qaa 12 rfl hHeld ?_;apply Exists.intro;refine ⟨fun wq hSw=>?_,?_⟩
   ·obtain ⟨⟨g0,g1,g2,g3⟩,g4,g5,g6,g7,g8⟩:=hSw
    go_simp;try with_reducible rfl
   (try simp only [Act.put,zD,zE,zF])
   refine qaa 13 rfl hHeld ?_;apply Exists.intro;refine ⟨fun wq hSw=>?_,?_⟩
   ·obtain ⟨⟨g0,g1,g2,g3⟩,g4,g5,g6,g7,g8⟩:=hSw
    go_simp;try with_reducible rfl
   (try simp only [Act.put,zD,zE,zF])
   refine qhl 14 18 rfl rfl (by kernel_rfl) (fun Kc hKc=>?_) (fun Kc hKc=>?_)
   ·refine qbn rfl 45 _ _ rfl #[.agg #[.slice pa x.pn pc,.slice sa x.pn sc,.slice wa (x.pn*x.pn) wc,.slice ha x.pn hc],.int .i64 (p:Nat),.int .i64 (rdPq x.y (h j))] (by simp [Act.eval]) (yA Tryz.func45 (by kernel_rfl) rfl) (HSt.out w5.drew (K1.2.2.2.1.drew)) ?_
    rintro e w6 ⟨rfl,k6,kP,-⟩;have hPb:P<w5.drew.heap.size:=K1.2.2.2.2;have bP:BoxS w6 P (.int .i64 (p:Nat)) (.int .i64 (q:Nat)):=(K1.2.2.1.below q0).blk (kP P (Nat.le_refl _) hPb);refine ⟨_,rfl,?_⟩;refine hKc.out _ _ (fun _=>HSS.out _ k6.k.rw k6.k.bx bP) ?_;clear hKc Kc hHeld
    (try simp only [Act.put,zD,zE,zF])
    have hHeld:(fun w':World=>BoxC w' A (.slice pa x.pn pc) (.slice sa x.pn sc) (.slice wa (x.pn*x.pn) wc) (.slice ha x.pn hc)/\w'.cell? ⟨P,0,none⟩=some (.int .i64 (p:Nat))/\w'.cell? ⟨P,1,none⟩=some (.int .i64 (q:Nat))/\w'.cell? ⟨w.heap.size,3,none⟩=some (.slice (some ⟨bh,oh,none⟩) x.hn x.hc)/\w'.cell? ⟨bh,oh+p,none⟩=some (.slice (some ⟨be,oe,none⟩) (x.hL p) (x.hC p))/\w'.cell? ⟨be,oe+q*3+1,none⟩=some (.int .i64 (rdPq x.y (h j)))) w6:=HSS.out _ k6.k.rw k6.k.bx bP;refine qa7 [15,16,17] ?_;iterate 3 (refine qat rfl hHeld ?_;apply Exists.intro;refine ⟨fun wq hSw=>?_,?_⟩;(· ((try dsimp only at hSw);go_simp;try with_reducible rfl));(try simp only [Act.put,zD,zE,zF]))
    refine qay ?_;have ba:=zT w6 (zQ4);have bc:=zT w6 (oQ5 pa x.pn pc sa x.pn sc wa (x.pn*x.pn) wc ha x.pn hc);refine qac 18 rfl (by kernel_rfl) (fun Kc hKc=>?_);go_simp;refine hKc.out _ _ (fun _=>HSS.out _ (k6.below ba).k.rw (k6.below ba).k.bx (bP.below ba)) ?_;clear hKc Kc hHeld
    (try simp only [Act.put,zD,zE,zF])
    refine qac 19 rfl (by kernel_rfl) (fun Kc hKc=>?_);go_simp;refine hKc.out _ _ (fun _=>HSS.out _ (k6.below bc).k.rw (k6.below bc).k.bx (bP.below bc)) ?_;clear hKc Kc;have hHeld:(fun w':World=>BoxC w' A (.slice pa x.pn pc) (.slice sa x.pn sc) (.slice wa (x.pn*x.pn) wc) (.slice ha x.pn hc)/\w'.cell? ⟨P,0,none⟩=some (.int .i64 (p:Nat))/\w'.cell? ⟨P,1,none⟩=some (.int .i64 (q:Nat))/\w'.cell? ⟨w.heap.size,3,none⟩=some (.slice (some ⟨bh,oh,none⟩) x.hn x.hc)/\w'.cell? ⟨bh,oh+p,none⟩=some (.slice (some ⟨be,oe,none⟩) (x.hL p) (x.hC p))/\w'.cell? ⟨be,oe+q*3+1,none⟩=some (.int .i64 (rdPq x.y (h j)))) (w6.alloc (oQ5 pa x.pn pc sa x.pn sc wa (x.pn*x.pn) wc ha x.pn hc)):=HSS.out _ (k6.below bc).k.rw (k6.below bc).k.bx (bP.below bc)
    (try simp only [Act.put,zD,zE,zF])
    refine qaa 20 rfl hHeld ?_;apply Exists.intro;refine ⟨fun wq hSw=>?_,?_⟩
    ·(try dsimp only at hSw)
     go_simp;try with_reducible rfl
    (try simp only [Act.put,zD,zE,zF])
    refine qas (by kernel_rfl) ?_ _;have jj:RdJ w x B A (rdY x.y h (j+1)) (.slice pa x.pn pc) (.slice sa x.pn sc) (.slice wa (x.pn*x.pn) wc) (.slice ha x.pn hc) (w6.alloc (oQ5 pa x.pn pc sa x.pn sc wa (x.pn*x.pn) wc ha x.pn hc)):=k6.below bc;have bb:BoxC (w6.alloc (oQ5 pa x.pn pc sa x.pn sc wa (x.pn*x.pn) wc ha x.pn hc)) w6.heap.size (.slice pa x.pn pc) (.slice sa x.pn sc) (.slice wa (x.pn*x.pn) wc) (.slice ha x.pn hc):=BoxC.new w6 _ _ _ _ _;clear hHeld ba bc k6 kP bP HSS HSt;generalize w6.alloc (oQ5 pa x.pn pc sa x.pn sc wa (x.pn*x.pn) wc ha x.pn hc)=w9 at *;generalize w6.heap.size=N9 at *;have K9:Hid (RdJ w x B A (rdY x.y h (j+1)) (.slice pa x.pn pc) (.slice sa x.pn sc) (.slice wa (x.pn*x.pn) wc) (.slice ha x.pn hc) w9/\(∀ i,i<j->rdC x.y h i=0)/\BoxC w9 N9 (.slice pa x.pn pc) (.slice sa x.pn sc) (.slice wa (x.pn*x.pn) wc) (.slice ha x.pn hc)):=⟨jj,K1.2.1,bb⟩
    clear jj bb K1 HCe HEh;by_cases hc0:rdC x.y h j=0
    case neg=>
     have hne:(rdC x.y h j != 0)=true:=by simpa using hc0
     have HF:Hid (rdB x.y h n=false/\rdSs x.y h n={ x.y with pn:=0,sn:=0,wn:=0,hn:=0 }):=⟨qeg hlt hc0,qh8 (qeg hlt hc0)⟩
     generalize rdC x.y h j=cd at *;obtain ⟨r0,r1,r2,r3⟩:=K9.1.k.rw.bo;have rf:=K9.1.k.rw.fo;clear hc0;go_wp2;exact bodyPost_ret (v:=.tuple #[sysV none 0 0 none 0 0 none 0 0 none 0 0,.bool false]) (by simp [results,Tryz.results12,go_sem,r0,r1,r2,r3]) rfl ⟨_,by rw [HF.1],by rw [HF.2];exact qaw.zero _ _ _,K9.1.k.rw.zero⟩
    have hne:(rdC x.y h j != 0)=false:=by simp [hc0]
    have K7 : Hid (RdJ w x B A (rdY x.y h (j + 1)) (.slice pa x.pn pc) (.slice sa x.pn sc) (.slice wa (x.pn * x.pn) wc) (.slice ha x.pn hc) ((((w9.setCell ⟨A, 0, none⟩ (.slice pa x.pn pc)).setCell ⟨A, 1, none⟩ (.slice sa x.pn sc)).setCell ⟨A, 2, none⟩ (.slice wa (x.pn * x.pn) wc)).setCell ⟨A, 3, none⟩ (.slice ha x.pn hc)) ∧ ∀ i, i < j + 1 → rdC x.y h i = 0) := ⟨K9.1.put4, fun i hi => by
     by_cases e:i=j
     ·subst e
      exact hc0
     ·exact K9.2.1 i (by omega)⟩
    rw [hc0] at hne ⊢;obtain ⟨n0,n1,n2,n3⟩:=K9.2.2;obtain ⟨a0',a1',a2',a3'⟩:=K9.1.k.bx;have fA:=K9.1.fa;clear hc0 K9;go_wp2;go_roundw
    case rel=>exact ⟨j+1,by omega,by go_num,K7.out⟩
    case measure=>simp [intOf];omega
   ·go_simp
    have ba:Below w5.heap.size w5 (w5.alloc (zQ4)).drew:=(zT w5 _).drew;have bz:BoxC (w5.alloc (zQ4)).drew w5.heap.size (.slice none 0 0) (.slice none 0 0) (.slice none 0 0) (.slice none 0 0):=(BoxC.new w5 _ _ _ _ _).below (Below.refl _ _).drew;have fz:∀ j,(w5.alloc (zQ4)).drew.frozen? ⟨w5.heap.size,j,none⟩=false:=fun j=>(World.frozen?_drew _ _).trans (yB _ _ _ _ rfl);have zz:w5.heap.size<(w5.alloc (zQ4)).drew.heap.size:=by simp
    have kz:=K1.1.below ba;have bP:=K1.2.2.1.below ba;have bw:=K1.2.2.2.1.trans (ba.mono (Nat.le_of_lt K1.2.2.2.2));have hPN:P<w5.heap.size:=K1.2.2.2.2;refine hKc.out _ _ (fun _=>HSS.out _ kz.k.rw kz.k.bx bP) ?_;clear hKc Kc hHeld ba
    (try simp only [Act.put,zD,zE,zF])
    generalize (w5.alloc (zQ4)).drew=wz at *;generalize w5.heap.size=N9 at *;refine qac 14 rfl (by kernel_rfl) (fun Kc hKc=>?_);refine qbn rfl 45 _ _ rfl #[.agg #[.slice pa x.pn pc,.slice sa x.pn sc,.slice wa (x.pn*x.pn) wc,.slice ha x.pn hc],.int .i64 (p:Nat),.int .i64 (rdPq x.y (h j))] (by simp [Act.eval]) (yA Tryz.func45 (by kernel_rfl) rfl) (HSt.out wz bw) ?_;rintro e w6 ⟨rfl,k6,kP,kN⟩;have bP6:BoxS w6 P (.int .i64 (p:Nat)) (.int .i64 (q:Nat)):=bP.blk (kP P (Nat.le_refl _) (by omega));have hN6:=kP N9 (Nat.le_of_lt hPN) zz;obtain ⟨z0,z1,z2,z3⟩:=bz.blkK hN6;have fz6:∀ j,w6.frozen? ⟨N9,j,none⟩=false:=fun j=>(zI hN6).trans (fz j);have kS:=kN N9 (Nat.le_of_lt hPN) zz (.slice pa x.pn pc) (.slice sa x.pn sc) (.slice wa (x.pn*x.pn) wc) (.slice ha x.pn hc)
    have bPS : BoxS ((((w6.setCell ⟨N9, 0, none⟩ (.slice pa x.pn pc)).setCell ⟨N9, 1, none⟩ (.slice sa x.pn sc)).setCell ⟨N9, 2, none⟩ (.slice wa (x.pn * x.pn) wc)).setCell ⟨N9, 3, none⟩ (.slice ha x.pn hc)) P (.int .i64 (p : Nat)) (.int .i64 (q : Nat)) := bP6.blk (by
     have hPn:P≠N9:=by omega
     rw [zO _ _ _ _ hPn,zO _ _ _ _ hPn,zO _ _ _ _ hPn,zO _ _ _ _ hPn])
    have bb:BoxC ((((w6.setCell ⟨N9,0,none⟩ (.slice pa x.pn pc)).setCell ⟨N9,1,none⟩ (.slice sa x.pn sc)).setCell ⟨N9,2,none⟩ (.slice wa (x.pn*x.pn) wc)).setCell ⟨N9,3,none⟩ (.slice ha x.pn hc)) N9 (.slice pa x.pn pc) (.slice sa x.pn sc) (.slice wa (x.pn*x.pn) wc) (.slice ha x.pn hc):=⟨by go_cell,by go_cell,by go_cell,by go_cell⟩
    refine ⟨_,rfl,?_⟩;refine hKc.out _ _ (fun _=>HSS.out _ k6.k.rw k6.k.bx bP6) ?_;clear hKc Kc
    (try simp only [Act.put,zD,zE,zF])
    have hHeld:(fun w':World=>BoxC w' A (.slice pa x.pn pc) (.slice sa x.pn sc) (.slice wa (x.pn*x.pn) wc) (.slice ha x.pn hc)/\w'.cell? ⟨P,0,none⟩=some (.int .i64 (p:Nat))/\w'.cell? ⟨P,1,none⟩=some (.int .i64 (q:Nat))/\w'.cell? ⟨w.heap.size,3,none⟩=some (.slice (some ⟨bh,oh,none⟩) x.hn x.hc)/\w'.cell? ⟨bh,oh+p,none⟩=some (.slice (some ⟨be,oe,none⟩) (x.hL p) (x.hC p))/\w'.cell? ⟨be,oe+q*3+1,none⟩=some (.int .i64 (rdPq x.y (h j)))) w6:=HSS.out _ k6.k.rw k6.k.bx bP6;refine qa7 [15,16,17] ?_;iterate 3 (refine qat rfl hHeld ?_;apply Exists.intro;refine ⟨fun wq hSw=>?_,?_⟩;(· ((try dsimp only at hSw);go_simp;try with_reducible rfl));(try simp only [Act.put,zD,zE,zF]))
    refine qay ?_;clear hHeld;have f0:=fz6 0;have f1:=fz6 1;have f2:=fz6 2;have f3:=fz6 3;refine qac 19 rfl (by kernel_rfl) (fun Kc hKc=>?_);go_simp;refine hKc.out _ _ (fun _=>HSS.out _ kS.k.rw kS.k.bx bPS) ?_;clear hKc Kc;have hHeld:(fun w':World=>BoxC w' A (.slice pa x.pn pc) (.slice sa x.pn sc) (.slice wa (x.pn*x.pn) wc) (.slice ha x.pn hc)/\w'.cell? ⟨P,0,none⟩=some (.int .i64 (p:Nat))/\w'.cell? ⟨P,1,none⟩=some (.int .i64 (q:Nat))/\w'.cell? ⟨w.heap.size,3,none⟩=some (.slice (some ⟨bh,oh,none⟩) x.hn x.hc)/\w'.cell? ⟨bh,oh+p,none⟩=some (.slice (some ⟨be,oe,none⟩) (x.hL p) (x.hC p))/\w'.cell? ⟨be,oe+q*3+1,none⟩=some (.int .i64 (rdPq x.y (h j)))) ((((w6.setCell ⟨N9,0,none⟩ (.slice pa x.pn pc)).setCell ⟨N9,1,none⟩ (.slice sa x.pn sc)).setCell ⟨N9,2,none⟩ (.slice wa (x.pn*x.pn) wc)).setCell ⟨N9,3,none⟩ (.slice ha x.pn hc)):=HSS.out _ kS.k.rw kS.k.bx bPS
    (try simp only [Act.put,zD,zE,zF])
    refine qaa 20 rfl hHeld ?_;apply Exists.intro;refine ⟨fun wq hSw=>?_,?_⟩
    ·(try dsimp only at hSw)
     go_simp;try with_reducible rfl
    (try simp only [Act.put,zD,zE,zF])
    refine qas (by kernel_rfl) ?_ _;have jj:RdJ w x B A (rdY x.y h (j+1)) (.slice pa x.pn pc) (.slice sa x.pn sc) (.slice wa (x.pn*x.pn) wc) (.slice ha x.pn hc) ((((w6.setCell ⟨N9,0,none⟩ (.slice pa x.pn pc)).setCell ⟨N9,1,none⟩ (.slice sa x.pn sc)).setCell ⟨N9,2,none⟩ (.slice wa (x.pn*x.pn) wc)).setCell ⟨N9,3,none⟩ (.slice ha x.pn hc)):=kS;clear hHeld k6 kP kN kS kz bP bP6 bPS bw HSS HSt z0 z1 z2 z3 fz fz6 bz f0 f1 f2 f3 hN6 zz hPN q0;generalize ((((w6.setCell ⟨N9,0,none⟩ (.slice pa x.pn pc)).setCell ⟨N9,1,none⟩ (.slice sa x.pn sc)).setCell ⟨N9,2,none⟩ (.slice wa (x.pn*x.pn) wc)).setCell ⟨N9,3,none⟩ (.slice ha x.pn hc))=w9 at *;have K9:Hid (RdJ w x B A (rdY x.y h (j+1)) (.slice pa x.pn pc) (.slice sa x.pn sc) (.slice wa (x.pn*x.pn) wc) (.slice ha x.pn hc) w9/\(∀ i,i<j->rdC x.y h i=0)/\BoxC w9 N9 (.slice pa x.pn pc) (.slice sa x.pn sc) (.slice wa (x.pn*x.pn) wc) (.slice ha x.pn hc)):=⟨jj,K1.2.1,bb⟩
    clear jj bb K1 HCe HEh;by_cases hc0:rdC x.y h j=0
    case neg=>
     have hne:(rdC x.y h j != 0)=true:=by simpa using hc0
     have HF:Hid (rdB x.y h n=false/\rdSs x.y h n={ x.y with pn:=0,sn:=0,wn:=0,hn:=0 }):=⟨qeg hlt hc0,qh8 (qeg hlt hc0)⟩
     generalize rdC x.y h j=cd at *;obtain ⟨r0,r1,r2,r3⟩:=K9.1.k.rw.bo;have rf:=K9.1.k.rw.fo;clear hc0;go_wp2;exact bodyPost_ret (v:=.tuple #[sysV none 0 0 none 0 0 none 0 0 none 0 0,.bool false]) (by simp [results,Tryz.results12,go_sem,r0,r1,r2,r3]) rfl ⟨_,by rw [HF.1],by rw [HF.2];exact qaw.zero _ _ _,K9.1.k.rw.zero⟩
    have hne:(rdC x.y h j != 0)=false:=by simp [hc0]
    have K7 : Hid (RdJ w x B A (rdY x.y h (j + 1)) (.slice pa x.pn pc) (.slice sa x.pn sc) (.slice wa (x.pn * x.pn) wc) (.slice ha x.pn hc) ((((w9.setCell ⟨A, 0, none⟩ (.slice pa x.pn pc)).setCell ⟨A, 1, none⟩ (.slice sa x.pn sc)).setCell ⟨A, 2, none⟩ (.slice wa (x.pn * x.pn) wc)).setCell ⟨A, 3, none⟩ (.slice ha x.pn hc)) ∧ ∀ i, i < j + 1 → rdC x.y h i = 0) := ⟨K9.1.put4, fun i hi => by
     by_cases e:i=j
     ·subst e
      exact hc0
     ·exact K9.2.1 i (by omega)⟩
    rw [hc0] at hne ⊢;obtain ⟨n0,n1,n2,n3⟩:=K9.2.2;obtain ⟨a0',a1',a2',a3'⟩:=K9.1.k.bx;have fA:=K9.1.fa;clear hc0 K9;go_wp2;go_roundw
    case rel=>exact ⟨j+1,by omega,by go_num,K7.out⟩
    case measure=>simp [intOf];omega
structure Dq2 (w wr:World) (X:Nat) (x:SysIn) (gr n:Nat) (h:Nat->Wo2):Prop where
 j:WJ w wr X x
 ro:WoAt wr gr 0 n h
 lt:gr<wr.heap.size
theorem Dq2.below {w wr w':World} {X gr n:Nat} {x:SysIn} {h:Nat->Wo2} (d:Dq2 w wr X x gr n h) (hb:Below wr.heap.size wr w'):Dq2 w w' X x gr n h:=⟨d.j.below hb,d.ro.below hb d.lt,zL d.lt hb.size⟩
theorem Dq2.row {w wr:World} {X gr n:Nat} {x:SysIn} {h:Nat->Wo2} (d:Dq2 w wr X x gr n h):WoL wr (some ⟨gr,0,none⟩) n h:=.inr ⟨gr,0,rfl,d.lt,d.ro⟩
theorem qie (a0:Option Addr) (len cap:Nat) (w:World) (hl:len<=1048576) (hB:qb3 w w.heap.size a0 len) (hV:w.cell? ⟨0,0,none⟩=some (.iface 253 (.agg #[.pointer (some ⟨1,171,none⟩)]))):
  Calls Tryz.prog 3 #[.slice a0 len cap] w fun e w'=>e=.returned (.bool true)/\Below w.heap.size w w':=by
 have HB:Hid (qb3 w w.heap.size a0 len):=hB;have HV:Hid (∀ wx,Below w.heap.size w wx->wx.cell? ⟨0,0,none⟩=some (.iface 253 (.agg #[.pointer (some ⟨1,171,none⟩)]))):=fun wx hb=>(hb.cell (p:=⟨0,0,none⟩) (zJ w _ hV)).trans hV;clear hB hV
 go_enter Tryz.func3,Tryz.ntmps3
 go_wp2_with fail
 refine (qpl a0 len cap w).mono ?_;rintro e w1 ⟨rfl,e1⟩;obtain rfl:=e1.symm;rw [decide_eq_false (show ¬ (1048576:Int)<(len:Int) by omega)];go_wp2_with fail
 refine (qjw w.heap.size len cap a0 w HB.out (Nat.le_refl _) hl).mono ?_;rintro e w2 ⟨x,B,T,v,n,h,rfl,hm,hX,hO,hn,-,b2⟩;have HM:Hid (x.Len/\(∀ i,i<x.hn->x.hL i<=x.hC i)/\n<=800):=⟨hm.inLen,hX.cap,hn⟩
 obtain ⟨gr,cr,rfl,-,gr1,gr2,-⟩:=hO;have K2:Hid (Dq2 w (w2.alloc (oQ5 x.pa x.pn x.pc x.sa x.sn x.sc x.wa x.wn x.wc x.ha x.hn x.hc)) w2.heap.size x gr n h):=⟨⟨hX.self.below (zQ _ _),BoxC.new _ _ _ _ _ _,b2.trans ((zQ _ _).mono b2.size)⟩,gr2.below (zQ _ _) gr1,by simp;omega⟩
 clear hX b2 hm HB gr1 gr2 hn
 have HRo:Hid (∀ wx t,rwB x.y h n=t->Dq2 w wx w2.heap.size x gr n h->Calls Tryz.prog 13 #[x.v,.slice (some ⟨gr,0,none⟩) n cr] wx fun e w'=>e=.returned (.bool t)/\Below wx.heap.size wx w'):=fun wx t ht hd=>by
  rw [<- ht];exact qfb x _ n cr h wx hd.j.g HM.1 hd.row (by have:=HM.2.2;omega) (HV.out _ hd.j.be)
 have HRs:Hid (∀ wx t,rwB x.y h n=t->Dq2 w wx w2.heap.size x gr n h->Calls Tryz.prog 14 #[x.v,.slice (some ⟨gr,0,none⟩) n cr] wx fun e w'=>e=.returned (.bool t)/\Below wx.heap.size wx w'):=fun wx t ht hd=>by
  rw [<- ht];exact qfk x _ n cr h wx hd.j.g HM.1 HM.2.1 hd.row (by have:=HM.2.2;omega)
 go_upto_region 4 with fail
 generalize w2.alloc (oQ5 x.pa x.pn x.pc x.sa x.sn x.sc x.wa x.wn x.wc x.ha x.hn x.hc)=W2 at *;generalize w2.heap.size=X at *;clear w2;obtain ⟨z0,z1,z2,z3⟩:=K2.out.j.bx;go_wp2_with fail
 clear z0 z1 z2 z3;refine (qkv x _ n cr h W2 K2.out.j.g HM.1 K2.out.row (by have:=HM.2.2;omega) (HV.out _ K2.out.j.be)).mono ?_;rintro e w3 ⟨v3,rfl,o3,d3⟩;obtain ⟨x',rfl,ey,g3,cp3,nn3⟩:=o3.inJ;have K3:Hid (Dq2 w (w3.alloc (oQ5 x'.pa x'.pn x'.pc x'.sa x'.sn x'.sc x'.wa x'.wn x'.wc x'.ha x'.hn x'.hc)) X x gr n h/\WJ w (w3.alloc (oQ5 x'.pa x'.pn x'.pc x'.sa x'.sn x'.sc x'.wa x'.wn x'.wc x'.ha x'.hn x'.hc)) w3.heap.size x'/\x'.y=rdSs x.y h n):=⟨(K2.out.below d3).below (zQ _ _),⟨g3.below (zQ _ _),BoxC.new _ _ _ _ _ _,((K2.out.below d3).below (zQ _ _)).j.be⟩,ey⟩
 clear o3 ey g3 d3 K2 cp3 nn3;obtain ⟨R,hR⟩:∃ R,rdB x.y h n=R:=⟨_,rfl⟩
 rw [hR];have HR:Hid (rdB x.y h n=R):=hR;clear hR;obtain ⟨k0,k1,k2,k3⟩:=K3.1.j.bx;go_wp2_with fail
 clear k0 k1 k2 k3;generalize w3.alloc (oQ5 x'.pa x'.pn x'.pc x'.sa x'.sn x'.sc x'.wa x'.wn x'.wc x'.ha x'.hn x'.hc)=W3 at *;generalize w3.heap.size=Y at *;clear w3;refine (qlj x _ n cr h W3 K3.1.j.g HM.1 HM.2.1 K3.1.row (by have:=HM.2.2;omega)).mono ?_;rintro e w4 ⟨v4,rfl,o4,d4⟩;rw [HR.out];obtain ⟨x2,rfl,-,-,-,-⟩:=o4.inJ;have K4:Hid (Dq2 w (w4.alloc (oQ5 x2.pa x2.pn x2.pc x2.sa x2.sn x2.sc x2.wa x2.wn x2.wc x2.ha x2.hn x2.hc)) X x gr n h/\WJ w (w4.alloc (oQ5 x2.pa x2.pn x2.pc x2.sa x2.sn x2.sc x2.wa x2.wn x2.wc x2.ha x2.hn x2.hc)) Y x'/\x'.y=rdSs x.y h n):=⟨(K3.1.below d4).below (zQ _ _),(K3.2.1.below d4).below (zQ _ _),K3.2.2⟩
 clear o4 d4 K3;go_upto_region 6 with fail
 generalize w4.alloc (oQ5 x2.pa x2.pn x2.pc x2.sa x2.sn x2.sc x2.wa x2.wn x2.wc x2.ha x2.hn x2.hc)=W4 at *;obtain ⟨Q,hQ⟩:∃ Q,rwB x.y h n=Q:=⟨_,rfl⟩
 have HQ:Hid (rwB x.y h n=Q):=hQ;clear hQ;have hRR:(R != R)=false:=by cases R <;> rfl
 have hQQ:(Q != Q)=false:=by cases Q <;> rfl
 have q0:Below W4.heap.size W4 W4.drew:=(Below.refl W4.heap.size W4).drew;have HS0:Hid (∀ wx,Below W4.heap.size W4 wx->BoxC wx X (.slice x.pa x.pn x.pc) (.slice x.sa x.sn x.sc) (.slice x.wa x.wn x.wc) (.slice x.ha x.hn x.hc)):=fun wx hb=>(K4.1.below hb).j.bx;refine qak (fun w'=>BoxC w' X (.slice x.pa x.pn x.pc) (.slice x.sa x.sn x.sc) (.slice x.wa x.wn x.wc) (.slice x.ha x.hn x.hc)) (fun _=>false) (by kernel_rfl) ?_;have hHeld:=HS0.out _ q0;refine qa7 [0,1,2,3] ?_;iterate 4 (refine qat rfl hHeld ?_;apply Exists.intro;refine ⟨fun wq hSw=>?_,?_⟩;(· ((try dsimp only at hSw);go_simp;try with_reducible rfl));(try simp only [Act.put,zD,zE,zF]))
 refine qay ?_;refine qaa 4 rfl hHeld ?_;apply Exists.intro;refine ⟨fun wq hSw=>?_,?_⟩
 ·obtain ⟨h0,h1,h2,h3⟩:=hSw
  go_simp;try with_reducible rfl
 (try simp only [Act.put,zD,zE,zF])
 refine qaa 5 rfl hHeld ?_;apply Exists.intro;refine ⟨fun wq hSw=>?_,?_⟩
 ·(try dsimp only at hSw)
  go_simp;try with_reducible rfl
 (try simp only [Act.put,zD,zE,zF])
 refine qaa 7 rfl hHeld ?_;apply Exists.intro;refine ⟨fun wq hSw=>?_,?_⟩
 ·obtain ⟨h0,h1,h2,h3⟩:=hSw
  go_simp;try with_reducible rfl
 (try simp only [Act.put,zD,zE,zF])
 refine qaa 8 rfl hHeld ?_;apply Exists.intro;refine ⟨fun wq hSw=>?_,?_⟩
 ·(try dsimp only at hSw)
  go_simp;try with_reducible rfl
 (try simp only [Act.put,zD,zE,zF])
 refine qac 6 rfl (by kernel_rfl) (fun Kc hKc=>?_);refine qbn rfl 13 _ _ rfl #[x.v,.slice (some ⟨gr,0,none⟩) n cr] (by simp [Act.eval]) (yA Tryz.func13 (by kernel_rfl) rfl) (HRo.out W4.drew Q HQ.out (K4.1.below q0)) ?_;rintro e w5 ⟨rfl,b5⟩;have q5:Below W4.heap.size W4 w5:=q0.trans (b5.mono q0.size);refine ⟨_,rfl,?_⟩;refine hKc.out _ _ (fun _=>HS0.out _ q5) ?_;clear hKc Kc hHeld
 (try simp only [Act.put,zD,zE,zF])
 have hHeld:=HS0.out _ q5;refine qac 9 rfl (by kernel_rfl) (fun Kc hKc=>?_);refine qbn rfl 14 _ _ rfl #[x.v,.slice (some ⟨gr,0,none⟩) n cr] (by simp [Act.eval]) (yA Tryz.func14 (by kernel_rfl) rfl) (HRs.out w5 Q HQ.out (K4.1.below q5)) ?_;rintro e w6 ⟨rfl,b6⟩;have q6:Below W4.heap.size W4 w6:=q5.trans (b6.mono q5.size);refine ⟨_,rfl,?_⟩;refine hKc.out _ _ (fun _=>HS0.out _ q6) ?_;clear hKc Kc hHeld
 (try simp only [Act.put,zD,zE,zF])
 have hHeld:=HS0.out _ q6;refine qa7 [10,11] ?_;iterate 2 (refine qat rfl hHeld ?_;apply Exists.intro;refine ⟨fun wq hSw=>?_,?_⟩;(· ((try dsimp only at hSw);go_simp;try with_reducible rfl));(try simp only [Act.put,zD,zE,zF]))
 refine qay ?_;have K6:Hid (WJ w w6 X x/\WJ w w6 Y x'/\x'.y=rdSs x.y h n):=⟨(K4.1.below q6).j,K4.2.1.below q6,K4.2.2⟩
 clear hHeld HS0 q0 q5 q6 b5 b6 HRo HRs HQ K4 hQQ hRR;refine qas (by kernel_rfl) ?_ _;cases R with
 | false=>
  have HN:Hid (x'.pn=0):=by
   have h9:=K6.2.2;rw [qh8 HR.out] at h9;exact congrArg Sy.pn h9
  obtain ⟨k0,k1,k2,k3⟩:=K6.2.1.bx;rw [HN.out] at k0;go_wp2;go_ret;exact ⟨rfl,K6.1.be⟩
 | true=>
  obtain ⟨hO',hEH,hES,hwn,hWN⟩:=quq HR.out;have hy:x'.y=rdY x.y h n:=K6.2.2.trans (qm0 HR.out)
  have HE:Hid (x'.y.Ok/\x'.y.EqH x.y/\x'.y.EqS x.y/\x'.wn=x.wn/\∀ i,i<x.wn->numL (x'.wH i) (x'.wL i)=numL (x.wH i) (x.wL i)):=by
   rw [<- hy] at hO' hEH hES hwn hWN;exact ⟨hO',hEH,hES,hwn,hWN⟩
  have HL':Hid x'.Len:=HE.1.sm.inLen
  have HO:Hid (x.y.Ok):=by
   have h9:=HR.out;unfold rdB rwB at h9;simp only [Bool.and_eq_true] at h9;exact Sy.ok_of h9.1.1
  have HSYM:Hid (x.y.EqH x'.y/\x.y.EqS x'.y):=⟨HE.2.1.symm,HE.2.2.1.symm⟩
  clear hO' hEH hES hwn hWN hy;obtain ⟨s0,s1,s2,s3⟩:=K6.1.bx;obtain ⟨t0,t1,t2,t3⟩:=K6.2.1.bx;go_upto_region 12 with (first|(go_at_call 15;refine (qm1 x' x _ (HSYM.1) K6.2.1.g K6.1.g HL'.out).mono ?_;rintro e w8 ⟨rfl,d8⟩;clear s0 s1 s2 s3 t0 t1 t2 t3;have K8:Hid (WJ w w8 X x/\WJ w w8 Y x'):=⟨K6.1.below d8,K6.2.1.below d8⟩;obtain ⟨s0,s1,s2,s3⟩:=K8.1.bx;obtain ⟨t0,t1,t2,t3⟩:=K8.2.bx;clear d8)|(go_at_call 16;refine (qji x' x _ (HSYM.2) K8.2.g K8.1.g HL'.out).mono ?_;rintro e w9 ⟨rfl,d9⟩;have K9:Hid (WJ w w9 X x/\WJ w w9 Y x'):=⟨K8.1.below d9,K8.2.below d9⟩;clear d9 K8 s0 s1 s2 s3 t0 t1 t2 t3))
  clear K6;have hw16:(x.wn:Int)<=1048576:=by have:=HM.1.w.1;omega
  have HX:Hid (x'.wn=x.wn):=HE.2.2.2.1;go_wp2_with fail
  go_loopw [9] (fun i wr=>∃ j:Nat,j<=x.wn/\i=.int .i64 (j:Nat)/\Hid (WJ w wr X x/\WJ w wr Y x')) (fun i _=>x.wn - (intOf i).toNat)
  case atStart=>exact ⟨0,Nat.zero_le _,rfl,K9.out⟩
  case round=>
   clear K9
   rename World=>wr
   obtain ⟨j,hj,rfl,HK⟩:=hrel;obtain ⟨s0,s1,s2,s3⟩:=HK.1.bx;by_cases hjt:j<x.wn
   case neg=>
    have hjt':¬ (j:Int)<(x.wn:Int):=by omega
    obtain ⟨t0,t1,t2,t3⟩:=HK.2.bx;go_wp2_with fail
    clear s0 s1 s2 s3 t0 t1 t2 t3;refine (qdk x' wr HK.2.g HL'.out (HV.out _ HK.1.be)).mono ?_;rintro e w9 ⟨rfl,d9⟩;have K9:Hid (WJ w w9 X x):=HK.1.below d9;have hok:x'.y.okB=true:=Sy.okB_true HE.1;clear d9 HK;rw [hok];go_wp2;go_ret;exact ⟨rfl,K9.out.be⟩
   have hjt':(j:Int)<(x.wn:Int):=by omega
   have hjt2:(j:Int)<(x'.wn:Int):=by rw [HX.out];omega
   obtain ⟨ba,bo,eb,cb⟩:=HK.1.g.w.at hjt;obtain ⟨ca,co,ec,cc⟩:=HK.2.g.w.at (show j<x'.wn by rw [HX.out];exact hjt);obtain ⟨t0,t1,t2,t3⟩:=HK.2.bx;rw [eb] at s2;rw [ec] at t2;go_upto_region 15 with fail
   have q0:Below wr.heap.size wr wr.drew:=(Below.refl wr.heap.size wr).drew;have HS0:Hid (∀ wx,Below wr.heap.size wr wx->wx.cell? ⟨X,2,none⟩=some (.slice (some ⟨ba,bo,none⟩) x.wn x.wc)/\wx.cell? ⟨Y,2,none⟩=some (.slice (some ⟨ca,co,none⟩) x'.wn x'.wc)/\wx.cell? ⟨ba,bo+j,none⟩=some (.slice (x.wA j) (x.wL j) (x.wC j))/\wx.cell? ⟨ca,co+j,none⟩=some (.slice (x'.wA j) (x'.wL j) (x'.wC j))):=fun wx hb=>⟨(hb.cell (p:=⟨X,2,none⟩) (zJ wr _ s2)).trans s2,(hb.cell (p:=⟨Y,2,none⟩) (zJ wr _ t2)).trans t2,(hb.cell (p:=⟨ba,bo+j,none⟩) (zJ wr _ cb)).trans cb,(hb.cell (p:=⟨ca,co+j,none⟩) (zJ wr _ cc)).trans cc⟩
   have HWl:Hid (∀ i,i<x.wn->x.wL i<=1048576):=HM.1.w.2;have HWl':Hid (∀ i,i<x'.wn->x'.wL i<=1048576):=HL'.out.w.2;have HNe:Hid (numL (x'.wH j) (x'.wL j)=numL (x.wH j) (x.wL j)/\(numL (x.wH j) (x.wL j)).length<=1048576):=⟨HE.2.2.2.2 j hjt,zP (qes _ _) (HWl.out j hjt)⟩
   clear s0 s1 s2 s3 t0 t1 t2 t3 cb cc eb ec;refine qak (fun w'=>w'.cell? ⟨X,2,none⟩=some (.slice (some ⟨ba,bo,none⟩) x.wn x.wc)/\w'.cell? ⟨Y,2,none⟩=some (.slice (some ⟨ca,co,none⟩) x'.wn x'.wc)/\w'.cell? ⟨ba,bo+j,none⟩=some (.slice (x.wA j) (x.wL j) (x.wC j))/\w'.cell? ⟨ca,co+j,none⟩=some (.slice (x'.wA j) (x'.wL j) (x'.wC j))) (fun _=>false) (by kernel_rfl) ?_;have hHeld:=HS0.out _ q0;refine qaa 0 rfl hHeld ?_;apply Exists.intro;refine ⟨fun wq hSw=>?_,?_⟩
   ·obtain ⟨h0,h1,h2,h3⟩:=hSw
    go_simp;try with_reducible rfl
   (try simp only [Act.put,zD,zE,zF])
   refine qaa 1 rfl hHeld ?_;apply Exists.intro;refine ⟨fun wq hSw=>?_,?_⟩
   ·obtain ⟨h0,h1,h2,h3⟩:=hSw
    go_simp;try with_reducible rfl
   (try simp only [Act.put,zD,zE,zF])
   refine qaa 2 rfl hHeld ?_;apply Exists.intro;refine ⟨fun wq hSw=>?_,?_⟩
   ·obtain ⟨h0,h1,h2,h3⟩:=hSw
    go_simp;try with_reducible rfl
   (try simp only [Act.put,zD,zE,zF])
   refine qaa 3 rfl hHeld ?_;apply Exists.intro;refine ⟨fun wq hSw=>?_,?_⟩
   ·obtain ⟨h0,h1,h2,h3⟩:=hSw
    go_simp;try with_reducible rfl
   (try simp only [Act.put,zD,zE,zF])
   refine qaa 4 rfl hHeld ?_;apply Exists.intro;refine ⟨fun wq hSw=>?_,?_⟩
   ·obtain ⟨h0,h1,h2,h3⟩:=hSw
    go_simp;try with_reducible rfl
   (try simp only [Act.put,zD,zE,zF])
   refine qaa 6 rfl hHeld ?_;apply Exists.intro;refine ⟨fun wq hSw=>?_,?_⟩
   ·obtain ⟨h0,h1,h2,h3⟩:=hSw
    go_simp;try with_reducible rfl
   (try simp only [Act.put,zD,zE,zF])
   refine qaa 7 rfl hHeld ?_;apply Exists.intro;refine ⟨fun wq hSw=>?_,?_⟩
   ·obtain ⟨h0,h1,h2,h3⟩:=hSw
    go_simp;try with_reducible rfl
   (try simp only [Act.put,zD,zE,zF])
   refine qaa 8 rfl hHeld ?_;apply Exists.intro;refine ⟨fun wq hSw=>?_,?_⟩
   ·obtain ⟨h0,h1,h2,h3⟩:=hSw
    go_simp;try with_reducible rfl
   (try simp only [Act.put,zD,zE,zF])
   refine qaa 9 rfl hHeld ?_;apply Exists.intro;refine ⟨fun wq hSw=>?_,?_⟩
   ·obtain ⟨h0,h1,h2,h3⟩:=hSw
    go_simp;try with_reducible rfl
   (try simp only [Act.put,zD,zE,zF])
   refine qaa 10 rfl hHeld ?_;apply Exists.intro;refine ⟨fun wq hSw=>?_,?_⟩
   ·obtain ⟨h0,h1,h2,h3⟩:=hSw
    go_simp;try with_reducible rfl
   (try simp only [Act.put,zD,zE,zF])
   refine qac 5 rfl (by kernel_rfl) (fun Kc hKc=>?_);refine qbn rfl 18 _ _ rfl #[.slice (x'.wA j) (x'.wL j) (x'.wC j)] (by simp [Act.eval]) (yA Tryz.func18 (by kernel_rfl) rfl) (qdj (x'.wA j) (x'.wL j) (x'.wC j) (x'.wH j) wr.drew (HWl'.out j (by rw [HX.out];exact hjt)) ((HK.2.below q0).g.wi j (by rw [HX.out];exact hjt))) ?_;rintro e w5 ⟨v5,rfl,o5,b5⟩;have q5:Below wr.heap.size wr w5:=q0.trans (b5.mono q0.size);refine ⟨_,rfl,?_⟩;refine hKc.out _ _ (fun _=>HS0.out _ q5) ?_;clear hKc Kc hHeld
   (try simp only [Act.put,zD,zE,zF])
   have hHeld:=HS0.out _ q5;refine qac 11 rfl (by kernel_rfl) (fun Kc hKc=>?_);refine qbn rfl 18 _ _ rfl #[.slice (x.wA j) (x.wL j) (x.wC j)] (by simp [Act.eval]) (yA Tryz.func18 (by kernel_rfl) rfl) (qdj (x.wA j) (x.wL j) (x.wC j) (x.wH j) w5 (HWl.out j hjt) ((HK.1.below q5).g.wi j hjt)) ?_;rintro e w6 ⟨v6,rfl,o6,b6⟩;have q6:Below wr.heap.size wr w6:=q5.trans (b6.mono q5.size);rw [HNe.1] at o5;have o5:=o5.below b6;obtain ⟨a5,c5,rfl,l5⟩:=o5.form;obtain ⟨a6,c6,rfl,l6⟩:=o6.form;have S5:=l5;have S6:=l6;refine ⟨_,rfl,?_⟩;refine hKc.out _ _ (fun _=>HS0.out _ q6) ?_;clear hKc Kc hHeld
   (try simp only [Act.put,zD,zE,zF])
   have hHeld:=HS0.out _ q6;refine qac 12 rfl (by kernel_rfl) (fun Kc hKc=>?_);refine qbn rfl 17 _ _ rfl #[.slice a5 (numL (x.wH j) (x.wL j)).length c5,.slice a6 (numL (x.wH j) (x.wL j)).length c6] (by simp [Act.eval]) (yA Tryz.func17 (by kernel_rfl) rfl) (qdo a5 a6 c5 c6 (numL (x.wH j) (x.wL j)) w6 HNe.2 S5 S6) ?_;rintro e w7 ⟨rfl,b7⟩;have q7:Below wr.heap.size wr w7:=q6.trans (b7.mono q6.size);refine ⟨_,rfl,?_⟩;refine hKc.out _ _ (fun _=>HS0.out _ q7) ?_;clear hKc Kc hHeld
   (try simp only [Act.put,zD,zE,zF])
   have hHeld:=HS0.out _ q7;refine qaa 13 rfl hHeld ?_;apply Exists.intro;refine ⟨fun wq hSw=>?_,?_⟩
   ·obtain ⟨h0,h1,h2,h3⟩:=hSw
    go_simp;try with_reducible rfl
   (try simp only [Act.put,zD,zE,zF])
   have K7:Hid (WJ w w7 X x/\WJ w w7 Y x'):=⟨HK.1.below q7,HK.2.below q7⟩
   clear hHeld HS0 q0 q5 q6 q7 b5 b6 b7 o5 o6 S5 S6 l5 l6 HWl HWl' HNe HK;refine qas (by kernel_rfl) ?_ _;go_wp2;go_roundw
   case rel=>exact ⟨j+1,by omega,by go_num,K7.out⟩
   case measure=>simp [intOf];omega
theorem qid (a0:Option Addr) (len cap:Nat) (w:World) (_hm:len<=maxLen) (hl:1048576<len):
  Calls Tryz.prog 3 #[.slice a0 len cap] w fun e w'=>e=.returned (.bool true)/\Below w.heap.size w w':=by
 go_enter Tryz.func3,Tryz.ntmps3
 go_wp2_with fail
 refine (qpl a0 len cap w).mono ?_;rintro e w1 ⟨rfl,rfl⟩;rw [decide_eq_true (show (1048576:Int)<(len:Int) by omega)];go_wp2;go_ret;exact ⟨rfl,Below.refl _ _⟩
theorem qob (os:Os) (started:os.Started) (H:Type) (enc:TypeId × Value->H):
  ReturnsInHanded {} Tryz.checked os 3 .any (fun w args => (Rows.fnAnyOrderSpec.pre enc Tryz.prog Tryz.f3 [] false w args /\ laidMetH Tryz.prog [("errors.errorType", Rows.laid_errors_errorType)] w) /\ sizedMet enc Tryz.prog Tryz.f3 (OpenSpec.ofChange Rows.fnAnyOrderSpec) false w args)
   (Rows.fnAnyOrderSpec.post enc Tryz.prog Tryz.f3 false true false false):=by
 refine returnsInHanded_of_change_and (C := Tryz.checked) (X := fun w _ => laidMetH Tryz.prog [("errors.errorType", Rows.laid_errors_errorType)] w) (fun _ _ _ hh h => h.of_heap hh) Tryz.own started (by kernel_rfl) Tryz.func3
  (ChangeSpec.witness_at (enc := enc) (C := Tryz.checked) (os := os) (X := fun w _ => laidMetH Tryz.prog [("errors.errorType", Rows.laid_errors_errorType)] w) false (qk3 os) #[.slice none 0 0] 8 rfl (by kernel_rfl) (by kernel_rfl) (by kernel_rfl) (by kernel_rfl) (by kernel_rfl) (qi4 os _)) ?_
 intro W base args ds gs before hval0 hW _ _ hL _;have hval:∀ (j:Nat) t v,Tryz.f3.params[j]? = some t->args[j]? = some v->Value.okWide Tryz.prog W .any base t v:=hval0;have hW':=hW;obtain ⟨p,q,hA0,hV,rfl,hfz,hnd⟩:=hW;have hA:DataW.TrodAll enc Tryz.prog W 0 (fun _=>true) true Tryz.f3.params.toList args.toList ds p:=hA0;rw [Tryz.params3] at hA hval;obtain ⟨v0,d0,rfl,rfl,h0⟩:=trodAll_one hA;obtain ⟨rfl,rfl⟩:=trodVars_none hV;have lt0:∀ x ∈ p,x.block<W.heap.size:=by obtain ⟨m,hm⟩:=h0;exact DataW.trod_lt m _ _ _ hm
 have hg:=qhn hL;clear hA0 hval0
 have hlaw:Calls Tryz.prog 3 #[v0] W fun e w'=>e=.returned (.bool true)/\Below W.heap.size W w':=by
  obtain ⟨a0,len,cap,rfl⟩:=okWide_slice Tryz.underlying22 (hval 0 22 v0 rfl rfl);obtain ⟨hm,hB⟩:=qo1 h0;by_cases hs:len<=1048576
  ·exact qie a0 len cap W hs hB hg
  ·exact qid a0 len cap W hm (by omega)
 refine hlaw.mono fun e W' ⟨he,bel⟩=>?_;subst he;exact ⟨_,rfl,_,_,_,[],_,[],hW',trodAll_mk1 (shut_bool Tryz.underlying4 _),trodAll_mk1 (Below.trod Tryz.laidOut (by kernel_rfl) (of_decide_eq_true (by kernel_rfl)) h0 bel lt0),rfl,bel.frame _,fun h=>by cases h⟩
theorem qru:Rows.FnAnyOrderSaid:=
 OpenClaim.holds_of_wide 3 Tryz.f3 rfl rfl rfl rfl rfl rfl rfl ⟨rfl,rfl,rfl,rfl,rfl⟩ rfl rfl rfl rfl rfl (by kernel_rfl) Tryz.func3 (by kernel_rfl)
  (of_decide_eq_true (by kernel_rfl)) (by unfold Func.isWrapper;first|(rw [if_pos (by decide +kernel)];kernel_rfl)|(rw [if_neg (by decide +kernel)];exact ⟨rfl,rfl⟩))
  (fun os started H enc _=>qob os started H enc)
theorem qpk (f : FuncId) (fn : Func) (hf : Tryz.pinned.checked.prog.funcNamed "loop.example/g00196/laws.FnAnyOrder" = some f) (hfn : Tryz.pinned.checked.prog.funcs[f]? = some fn) :
  true=Tryz.pinned.checked.prog.looks []/\∀ (j:Nat) t,fn.params[j]? = some t->Tryz.pinned.checked.prog.wantsStandIn t=false:=by
 obtain rfl : f = 3 := Option.some.inj ((show Tryz.prog.funcNamed "loop.example/g00196/laws.FnAnyOrder" = some 3 by kernel_rfl).symm.trans hf) |>.symm
 obtain rfl:fn=Tryz.f3:=(Option.some.inj (Tryz.func3.symm.trans hfn)).symm;refine ⟨by kernel_rfl,fun j t ht=>?_⟩;rw [Tryz.params3] at ht;have hm:=Array.mem_of_getElem? ht;simp at hm;obtain rfl:=hm;exact (show Tryz.prog.wantsStandIn 22=false by kernel_rfl)
theorem anyD_card:Rows.FnAnyOrderCardSaid:=
 Claim7.holds_tied_plain_at .later [] _ _ _ _ qru (fun _ h=>by cases h) (by kernel_rfl) (fun _ h=>by cases h) fnAnyOrder_row_tie rfl ⟨rfl,rfl⟩ (by kernel_rfl) rfl qpk (by kernel_rfl)
