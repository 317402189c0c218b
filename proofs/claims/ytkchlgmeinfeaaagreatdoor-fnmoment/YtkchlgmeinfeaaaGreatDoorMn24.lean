import Derived.Test.YtkchlgmeinfeaaaGreatDoorMn23
import Derived.Test.YtkchlgmeinfeaaaGreatDoorMn21
namespace Go.Proofs.YtkchlgmeinfeaaaGreatDoor
open Go.Proofs.Tryz
set_option maxRecDepth 100000
set_option maxHeartbeats 2000000
open Go.ChangeShapes Go.WideShapes Go.ChangeAt Go.RowKit Go.Deep Go.Sort
theorem qfy (x:SysIn) (ca:Option Addr) (cc:Nat) (c:List Int) (w:World) (hG:SysG w x) (hL:x.Len) (hcap:∀ i,i<x.hn->x.hL i<=x.hC i) (hc:Sl w ca c) (hcl:c.length<=1048576):
  Calls prog 24 #[x.v,.slice ca c.length cc] w (rB w (.bool (cutB x.y c))):=by
 have HS:Hid (∀ wx,Bw w wx->Calls prog 56 #[x.v] wx (rB wx (.bool x.y.okB))):=fun wx hb=>qcu x wx (hG.bw hb) hL hcap;have HU:Hid (x.y.okB=true->∀ wx,Bw w wx->Calls prog 57 #[x.v,.slice ca c.length cc] wx (rB wx (.bool (qB (x.y.Cut c))))):=fun t wx hb=>qrk x ca cc c wx (hG.bw hb) hL (Sy.ok_of t).cn.2.2.1 (hc.bw hb) hcl;have BW:Hid (Bw w (w.alloc (x.oX))):=zT _ _;have NB:Hid (x.bX (w.alloc (x.oX)) w.heap.size):=BoxC.new w _ _ _ _ _;have HX:Hid (cutB x.y c=(x.y.okB && qB (x.y.Cut c))):=rfl;generalize cutB x.y c=R at *;clear hG hL hcap hc
 go_enter func24,ntmps24
 go_wp2_with fail
 generalize w.alloc (x.oX)=W2 at *;refine (HS.out W2 BW.out).mono ?_;rintro e w1 ⟨rfl,q1⟩;have B1:Hid (Bw w w1/\x.bX w1 w.heap.size):=⟨BW.trans (q1.mono BW.size),NB.bw q1⟩
 clear q1 BW NB HS
 rcases zK x.y.okB with t | t
 case inr=>
  have HV:Hid (R=false):=by
   show R=false;rw [HX.out,t];rfl
  rw [t];clear t HU HX;go_wp2;go_ret;rw [HV.out];exact ⟨rfl,B1.1⟩
 have HV:Hid (R=qB (x.y.Cut c)):=by
  show R=_;rw [HX.out,t];rfl
 have HU':Hid (∀ wx,Bw w wx->Calls prog 57 #[x.v,.slice ca c.length cc] wx (rB wx (.bool (qB (x.y.Cut c))))):=HU.out t;rw [t];clear t HX HU;obtain ⟨b0,b1,b2,b3⟩:=B1.2;go_wp2_with fail
 refine (HU'.out w1 B1.1).mono ?_;rintro e w2 ⟨rfl,q2⟩;have B2:Hid (Bw w w2):=B1.1.trans (q2.mono B1.1.size);rw [<- HV.out];clear q2 b0 b1 b2 b3 B1 HU' HV;go_wp2;go_ret;exact ⟨rfl,B2.out⟩
theorem qf0 (x:SysIn) (ca:Option Addr) (cc:Nat) (c:List Int) (w:World) (hG:SysG w x) (hL:x.Len) (hcap:∀ i,i<x.hn->x.hL i<=x.hC i) (hc:Sl w ca c) (hcl:c.length<=1048576):
  Calls prog 9 #[x.v,.slice ca c.length cc] w (rB w (.bool (whB x.y c))):=by
 have HS:Hid (∀ wx,Bw w wx->Calls prog 24 #[x.v,.slice ca c.length cc] wx (rB wx (.bool (cutB x.y c)))):=fun wx hb=>qfy x ca cc c wx (hG.bw hb) hL hcap (hc.bw hb) hcl;have HU:Hid (cutB x.y c=true->∀ wx,Bw w wx->Calls prog 25 #[x.v,.slice ca c.length cc] wx (rB wx (.bool (qB (x.y.Wh (cN c)))))):=fun t wx hb=>qht x ca cc c wx (hG.bw hb) hcap (qbj t).1 (qbj t).2 (hc.bw hb);have BW:Hid (Bw w (w.alloc (x.oX))):=zT _ _;have NB:Hid (x.bX (w.alloc (x.oX)) w.heap.size):=BoxC.new w _ _ _ _ _;have HX:Hid (whB x.y c=(cutB x.y c && qB (x.y.Wh (cN c)))):=rfl;generalize whB x.y c=R at *;generalize cutB x.y c=T at *;clear hG hL hcap hc
 go_enter func9,ntmps9
 go_wp2_with fail
 generalize w.alloc (x.oX)=W2 at *;refine (HS.out W2 BW.out).mono ?_;rintro e w1 ⟨rfl,q1⟩;have B1:Hid (Bw w w1/\x.bX w1 w.heap.size):=⟨BW.trans (q1.mono BW.size),NB.bw q1⟩
 clear q1 BW NB HS;cases T with
 | false=>
  have HV:Hid (R=false):=by
   show R=false;rw [HX.out];rfl
  clear HU HX;go_wp2;go_ret;rw [HV.out];exact ⟨rfl,B1.1⟩
 | true=>
  have HV:Hid (R=qB (x.y.Wh (cN c))):=by
   show R=_;rw [HX.out];rfl
  have HU':=HU.out rfl;have HU2:Hid (∀ wx,Bw w wx->Calls prog 25 #[x.v,.slice ca c.length cc] wx (rB wx (.bool (qB (x.y.Wh (cN c)))))):=HU';clear HX HU HU';obtain ⟨b0,b1,b2,b3⟩:=B1.2;go_wp2_with fail
  refine (HU2.out w1 B1.1).mono ?_;rintro e w2 ⟨rfl,q2⟩;have B2:Hid (Bw w w2):=B1.1.trans (q2.mono B1.1.size);rw [<- HV.out];clear q2 b0 b1 b2 b3 B1 HU2 HV;go_wp2;go_ret;exact ⟨rfl,B2.out⟩
theorem qfm (x:SysIn) (ca:Option Addr) (cc:Nat) (c:List Int) (w:World) (hG:SysG w x) (hL:x.Len) (hc:Sl w ca c) (hcl:c.length<=1048576) (hV:w.cell? (aQ 0 0)=some vT):
  Calls prog 19 #[x.v,.slice ca c.length cc] w (rB w (.bool (cutB x.y c))):=by
 have HG:Hid (SysG w x):=hG;have HC:Hid (Sl w ca c):=hc;have hl':(c.length:Int)<=1048576:=by omega
 have hh':(x.hn:Int)<=1048576:=by have:=hL.h.1;omega
 have HLh:Hid (∀ i,i<x.hn->x.hL i<=1048576):=hL.h.2;have HS:Hid (∀ wx,Bw w wx->Calls prog 10 #[x.v] wx (rB wx (.bool x.y.okB))):=fun wx hb=>qbq x wx (hG.bw hb) hL ((hb.cell (p:=⟨0,0,none⟩) (zJ w _ hV)).trans hV);have BW:Hid (Bw w (w.alloc (x.oX))):=zT _ _;have NB:Hid (x.bX (w.alloc (x.oX)) w.heap.size):=BoxC.new w _ _ _ _ _;have HX:Hid (cutB x.y c=(x.y.okB && qB (x.y.Cut c))):=rfl;generalize cutB x.y c=R at *;clear hG hL hV hc
 go_enter func19,ntmps19
 go_wp2_with fail
 generalize w.alloc (x.oX)=W2 at *;refine (HS.out W2 BW.out).mono ?_;rintro e w1 ⟨rfl,q1⟩;have B1:Hid (Bw w w1/\x.bX w1 w.heap.size):=⟨BW.trans (q1.mono BW.size),NB.bw q1⟩
 clear q1 BW NB HS
 rcases zK x.y.okB with t | t
 case inr=>
  have HV:Hid (R=false):=by
   show R=false;rw [HX.out,t];rfl
  rw [t];clear t HX;go_wp2;go_ret;rw [HV.out];exact ⟨rfl,B1.1⟩
 have HN:Hid (x.hn=x.pn):=(Sy.ok_of t).cn.2.2.1
 have HV:Hid (R=qB (x.y.Cut c)):=by
  show R=_;rw [HX.out,t];rfl
 rw [t];clear t HX;have b3:=B1.2.2.2.2
 rcases zK ((c.length:Int) != (x.hn:Int)) with t | t
 case inl=>
  have HZ:Hid (R=false):=by
   show R=false;rw [HV.out];refine qar fun h=>?_;have h1:c.length=x.pn:=h.len;rw [h1,HN.out] at t;simp at t
  clear HV;go_wp2;go_ret;rw [HZ.out];exact ⟨rfl,B1.1⟩
 have HQ:Hid (c.length=x.hn):=by
  have h:(c.length:Int)=(x.hn:Int):=by simpa using t
  show c.length=x.hn;omega
 go_wp2_with fail
 clear b3 t
 go_loopw [20] (fun i wr=>∃ k:Nat,k<=c.length/\i=.int .i64 k/\Hid (Bw w wr/\x.bX wr w.heap.size)/\Hid (∀ j,j<k->0<=zi c j/\zi c j<=(x.hL j:Int))) (fun i _=>c.length - (intOf i).toNat)
 case atStart=>exact ⟨0,nD _,rfl,B1.out,fun j hj=>by omega⟩
 case round=>
  clear B1;obtain ⟨k,hk,rfl,HB,HK⟩:=hrel;by_cases hlt:k<c.length
  ·have hlt':(k:Int)<(c.length:Int):=by omega
   have hkn:k<x.hn:=by have:=HQ.out;omega
   have hkn':(k:Int)<(x.hn:Int):=by omega
   obtain ⟨cb,co,rfl,-,c0⟩:=(HC.bw HB.1).at hlt;obtain ⟨bh,oh,eh,ch⟩:=(HG.bw HB.1).h.at hkn;have b3:=HB.2.2.2.2;rw [eh] at b3;clear eh;generalize hZ:zi c k=Z at *;have HX:Hid (zi c k=Z):=hZ;clear hZ;by_cases hz0:Z<0
   ·have HZ:Hid (R=false):=by
     show R=false;rw [HV.out];refine qar fun h=>?_;have h1:=(h.le k (by have:=HQ.out;have:=HN.out;show k<x.pn;omega)).1;rw [HX.out] at h1;omega
    have B3:=HB.1;clear HV HK HB;go_wp2;go_ret;rw [HZ.out];exact ⟨rfl,B3⟩
   ·by_cases hz1:(x.hL k:Int)<Z
    ·have HZ:Hid (R=false):=by
      show R=false;rw [HV.out];refine qar fun h=>?_;have h1:=(h.le k (by have:=HQ.out;have:=HN.out;show k<x.pn;omega)).2;rw [HX.out] at h1;have h2:Z<=(x.hL k:Int):=h1;omega
     have B3:=HB.1;clear HV HK HB;go_wp2;go_ret;rw [HZ.out];exact ⟨rfl,B3⟩
    ·have HK':Hid (∀ j,j<k+1->0<=zi c j/\zi c j<=(x.hL j:Int)):=fun j hj=>by
      by_cases e:j=k
      ·subst e
       rw [HX.out];omega
      ·exact HK.out j (by omega)
     clear HK HX;go_wp2;go_roundw
     case rel=>exact ⟨k+1,by omega,by go_num,HB.out,HK'.out⟩
     case measure=>simp [intOf];omega
  ·have HZ:Hid (R=true):=by
    show R=true;rw [HV.out];exact qaz ⟨HQ.trans HN.out,fun p hp=>HK.out p (by have:=HQ.out;have:=HN.out;have h1:p<x.pn:=hp;omega)⟩
   have B3:=HB.1;clear HK HB;go_wp2;go_ret;rw [HZ.out];exact ⟨rfl,B3⟩
theorem qnq {w w':World} {b o n B:Nat} (h:w.there b o n) (hb:Below B w w') (hB:b<B):w'.there b o n:=fun j hj=>by
 obtain ⟨h1,h2⟩:=h j hj;have e:=hb.block b hB;exact ⟨(congrArg (Option.isSome) (zH (a:=⟨b,o+j,none⟩) e)).trans h1,(zI (a:=⟨b,o+j,none⟩) e).trans h2⟩
theorem qrx {w:World} {B b n cap:Nat} {E:TypeId} {a:Option Addr} {f:Nat->Value} {xs cl:List Value} (h:RowS w a n f) (ho:w.ownsRow B E 1 (.slice a n cap) n xs) (hb:b<B):RowS (w.setCells b 0 cl) a n f:=by
 rcases h with h | ⟨g,off,rfl,hlt,hc⟩
 ·exact .inl h
 ·have hg:g≠b:=by
   rcases ho.2 with ⟨e,h0⟩ | ⟨g',cap',cur,e,hB,_⟩
   ·cases e
   ·simp only [Value.slice.injEq,nG,Addr.mk.injEq] at e
    omega
  have ht:qap (fun k=>k=b) w (w.setCells b 0 cl):=qap.sets (P:=fun k=>k=b) rfl _ _ (qap.refl _ _);exact .inr ⟨g,off,rfl,zL hlt ht.size,fun i hi=>(ht.cell hlt hg _).trans (hc i hi)⟩
theorem qr7 (a:Option Addr) (len cap h:Nat) (hh:h<=cap) (w:World):(Instr.slice 48 (.slice a len cap) none (some (iV (h:Int))) (some (iV (h:Int)))).run prog w=.ok (.slice a h h) w:=by
 have hh':(h:Int)<=(cap:Int):=by omega
 cases a with
 | none=>simp [go_sem,sliced,hh']
 | some a=>simp [go_sem,sliced,hh']
theorem qty {w:World} {B:Nat} {E:TypeId} {v:Value} {n:Nat} {u:Nat->Value} (h:w.ownsRow B E 1 v n ((List.range n).map u)):∃ a cap,v=.slice a n cap/\RowS w a n u:=by
 rcases h.2 with ⟨rfl,h0⟩ | ⟨g,cap,cur,rfl,hb,_⟩
 ·exact ⟨none,0,by rw [h0],.inl h0⟩
 ·refine ⟨_,cap,rfl,.inr ⟨g,0,rfl,(h.lt g rfl).2,fun i hi=>?_⟩⟩
  rw [nL,World.ownsRow.cellAt h i (by omega)];simp [hi]
def hcL (ha:Option Addr) (hn hc:Nat):List Value:=[.slice ha hn hc,iV 0,iV 0,iV 0,iV 0,iV 0,iV 0,iV 0,iV 0,iV 0,iV 0,iV 0,iV 0,iV 0,iV 0,iV 0,iV 0,iV 0,iV 0,iV 0,iV 0]
theorem qmq (ha:Option Addr) (hn hc:Nat):(hcL ha hn hc).length=21:=rfl
theorem qmr (ha:Option Addr) (hn hc:Nat):∀ v ∈ hcL ha hn hc,v.oneCell'=true:=by
 intro v hv;simp only [hcL,List.mem_cons,List.not_mem_nil,or_false] at hv
 rcases hv with rfl | rfl | rfl | rfl | rfl | rfl | rfl | rfl | rfl | rfl | rfl | rfl | rfl | rfl | rfl | rfl | rfl | rfl | rfl | rfl | rfl <;> rfl
theorem qe2:(prog.info? 52).map (·.size)=some 21:=by kernel_rfl
theorem qjy {fn:Func} {ra:Nat} {ty:TypeId} (h:fn.results=#[.cell ra ty]) (tmps:Array Value) (w:World) (N:Nat) (cs:List Value) (d:TypeDesc) (ha:tmps.getD ra undef=.pointer (some (aQ N 0))) (hc:w.rangeAt N 0 cs) (hu:prog.underlying ty=some d) (hd:d.isRow=true) (hi:(prog.info? ty).map (·.size)=some cs.length):
  (results fn tmps).run prog w=.ok (.agg cs.toArray) w:=by
 have hl:=run_loadVar_mid (P:=prog) w N 0 ty cs d hc hu hd hi;rw [Array.getD_eq_getD_getElem?] at ha;simp [results,h,ha,asAddr,hl]
theorem qfl (x:SysIn) (ca:Option Addr) (cc:Nat) (c:List Int) (w:World) (hG:SysG w x) (hcap:∀ i,i<x.hn->x.hL i<=x.hC i) (hhn:x.hn=x.pn) (h4:x.pn<=4) (hC:x.y.Cut c) (hc:Sl w ca c):
  Calls prog 20 #[x.v,.slice ca c.length cc] w fun e w'=>∃ ha hc,e=.returned (.agg (hcL ha c.length hc).toArray)/\RowS w' ha c.length (fun i=>.slice (x.hA i) (cN c i) (cN c i))/\Bw w w':=by
 have HG:Hid (SysG w x):=hG;have HSl:Hid (Sl w ca c):=hc;have hcl:c.length=x.pn:=hC.len;have hl':(c.length:Int)<=4:=by omega
 have HQ:Hid (c.length=x.hn/\c.length<=4):=⟨by omega,by omega⟩
 have HZ:Hid (∀ p,p<c.length->zi c p=(cN c p:Nat)/\cN c p<=x.hC p):=fun p hp=>⟨hC.nat (by show p<x.pn;omega),zP (hC.leN (by show p<x.pn;omega)) (hcap p (by omega))⟩
 obtain ⟨cs,hcs,hmk⟩:=qct qjg c.length (by omega);have HCS:Hid (cs.size=c.length):=hcs;have BW:Hid (Bw w ((w.alloc (x.oX)).alloc (zQ4))):=(zT _ _).trans ((zT _ _).mono (by simp));have NB:Hid (x.bX ((w.alloc (x.oX)).alloc (zQ4)) w.heap.size):=(BoxC.new w _ _ _ _ _).bw (zT _ _);have NT:Hid (((w.alloc (x.oX)).alloc (zQ4)).there (w.heap.size+1) 0 21):=qbm _ _ _ _ _ rfl (by simp);have NS:Hid (((w.alloc (x.oX)).alloc (zQ4)).heap.size=w.heap.size+2):=by show _=_;simp
 clear hG hcap hhn h4 hC hc hcl hcs
 go_enter func20,ntmps20
 go_upto_region 1 with fail
 generalize (w.alloc (x.oX)).alloc (zQ4)=W2 at *;go_upto_region 2 with fail
 clear hmk
 have O0:Hid ((W2.alloc (.cells cs 48)).ownsRow (w.heap.size+2) 48 1 (sG W2.heap.size 0 c.length) 0 ((List.range 0).map fun i=>.slice (x.hA i) (cN c i) (cN c i))):=by
  have:=World.ownsRow_made (base:=w.heap.size+2) (e:=48) (size:=1) W2 cs c.length (by rw [NS.out];omega) (by unfold maxLen;have:=HQ.out;omega) (by rw [HCS.out,Nat.mul_one]);exact this
 have B0:Hid (Below (w.heap.size+2) W2 (W2.alloc (.cells cs 48))):=(zT _ _).mono (by rw [NS.out];omega);generalize W2.alloc (.cells cs 48)=W3 at *;go_wp2_with fail
 go_loopw [5,13] (fun o i wr=>∃ k:Nat,k<=c.length/\i=.int .i64 k/\Hid (wr.ownsRow (w.heap.size+2) 48 1 o k ((List.range k).map fun i=>.slice (x.hA i) (cN c i) (cN c i))/\Below (w.heap.size+2) W2 wr)) (fun _ i _=>c.length - (intOf i).toNat)
 case atStart=>exact ⟨0,nD _,rfl,O0.out,B0.out⟩
 case round=>
  clear O0 B0;obtain ⟨k,hk,rfl,HB⟩:=hrel;have BE:Hid (Bw w wr/\x.bX wr w.heap.size/\w.heap.size+2<=wr.heap.size):=⟨BW.trans (HB.2.mono (by omega)),NB.belowB HB.2 (by omega),by have:=HB.2.size;have:=NS.out;omega⟩
  by_cases hlt:k<c.length
  ·have hlt':(k:Int)<(c.length:Int):=by omega
   have hkn:k<x.hn:=by have:=HQ.out;omega
   have hkn':(k:Int)<(x.hn:Int):=by omega
   obtain ⟨cb,co,rfl,-,c0⟩:=(HSl.bw BE.1).at hlt;obtain ⟨bh,oh,eh,ch⟩:=(HG.bw BE.1).h.at hkn;have b3:=BE.2.1.2.2.2;rw [eh] at b3;clear eh;rw [(HZ.out k hlt).1] at c0;have ks:=qr7 (x.hA k) (x.hL k) (x.hC k) (cN c k) (HZ.out k hlt).2;have HK2:Hid (k<=2000000):=by show _<=_;have:=HQ.out;omega
   go_wp2_with (at_builtin;refine qao qjg wr rfl rfl _ _ rfl (w.heap.size+2) u5 k _ rfl HB.1 #[.slice (x.hA k) (cN c k) (cN c k)] rfl rfl (by intro u hu;simp at hu;subst hu;rfl) HK2.out BE.2.2 ?_;intro v5 w5 o5 g5 q5 n5;have F5:Hid (w5.ownsRow (w.heap.size+2) 48 1 v5 (k+1) ((List.range (k+1)).map fun i=>.slice (x.hA i) (cN c i) (cN c i))/\Below (w.heap.size+2) W2 w5):=⟨by rw [List.range_succ,List.map_append];exact o5,Below.grown HB.2 g5 BE.2.2 (fun j hj=>(HB.1.lt j hj).1)⟩;clear o5 g5 q5 n5)
   go_roundw
   case rel=>exact ⟨k+1,by omega,by go_num,F5.out⟩
   case measure=>simp [intOf];omega
  ·have hkl:k=c.length:=by omega
   have F5:Hid (wr.ownsRow (w.heap.size+2) 48 1 u5 c.length ((List.range c.length).map fun i=>.slice (x.hA i) (cN c i) (cN c i))):=by
    have:=HB.1;rw [hkl] at this;exact this
   obtain ⟨ea,ec,rfl,rs⟩:=qty F5.out;have RS:Hid (RowS wr ea c.length fun i=>.slice (x.hA i) (cN c i) (cN c i)):=rs;have hl:=qmq ea c.length ec;have ho:=qmr ea c.length ec;generalize hcs:hcL ea c.length ec=cl at *;have HCL:Hid (hcL ea c.length ec=cl):=hcs;have hs:cl.toArray.size=21:=by simpa using hl
   have HT:Hid (wr.there (w.heap.size+1) 0 cl.toArray.size):=by
    show wr.there _ _ _;rw [hs];exact qnq NT.out HB.2 (by omega)
   have HI:Hid ((prog.info? 52).map (·.size)=some cl.length):=by show _=_;rw [hl];exact qe2
   have HO:Hid (cl.toArray.all (·.oneCell')=true):=all_oneCell_toArray ho;have OW:Hid (∀ j,(Value.slice ea c.length ec).ownBlock=some j->w.heap.size+2<=j):=fun j hj=>(F5.lt j hj).1;have RK:Hid (RowS (wr.setCells (w.heap.size+1) 0 cl) ea c.length fun i=>.slice (x.hA i) (cN c i) (cN c i)):=qrx RS.out (F5.out) (by omega);have BK:Hid (Bw w (wr.setCells (w.heap.size+1) 0 cl)):=BE.1.trans ((qap.sets (P:=fun b=>b=w.heap.size+1) rfl _ _ (qap.refl _ _)).bw BE.1.size fun b e=>by omega);clear hcs hl ho hs HB hkl rs RS F5 BE;go_wp2_with (refine wpList_store_mid rfl 52 (.tmp 4) (.tmp 31) rfl (w.heap.size+1) 0 cl.toArray rfl (by rw [<- HCL.out];rfl) HT.out (by simpa using HI.out) HO.out ?_)
   have HR:Hid ((wr.setCells (w.heap.size+1) 0 cl).rangeAt (w.heap.size+1) 0 cl):=World.rangeAt_setCells_same _ _ _ _ (by simpa using HT.out);clear HT;generalize wr.setCells (w.heap.size+1) 0 cl=W5 at *;exact bodyPost_ret (qjy results20 _ _ (w.heap.size+1) cl _ rfl HR.out Tryz.underlying52 rfl HI.out) rfl ⟨ea,ec,by rw [HCL.out],RK.out,BK.out⟩
theorem qln (X hc:Nat) (ha:Option Addr) (hA:Nat->Option Addr) (hC:Nat->Nat) (y:Hs) (a b:Nat) (w:World) (c0:w.cell? ⟨X,0,none⟩=some (.slice ha y.n hc)) (hE:HisE w ha hA hC y) (hl:∀ i,i<y.n->y.l i<=200) (han:a<y.n):
  Calls prog 66 #[.pointer (some (aQ X 0)),iV a,iV b] w fun e w'=>∃ a1 c1,e=.returned (.slice a1 (valL (y.e a) 2 b (y.l a)).length c1)/\OwnI w' w.heap.size (.slice a1 (valL (y.e a) 2 b (y.l a)).length c1) (valL (y.e a) 2 b (y.l a))/\Bw w w':=by
 have HE:Hid (EvL w (hA a) (y.l a) (y.e a)):=hE.ev a han;have HLb:Hid (y.l a<=1048576):=by have:=hl a han;show _<=_;omega
 have ha':(a:Int)<(y.n:Int):=by omega
 obtain ⟨bh,oh,eh,ch⟩:=hE.row.at han;rw [eh] at c0;clear hE hl eh
 go_enter func66,ntmps66
 go_wp2_with fail
 refine (qc6 (hA a) (y.l a) _ (y.e a) 2 b w HLb.out HE.out).mono ?_;rintro e w1 ⟨v,rfl,o1,b1⟩;obtain ⟨a1,c1,rfl,-⟩:=o1.form;have O1:Hid (OwnI w1 w.heap.size (.slice a1 (valL (y.e a) 2 b (y.l a)).length c1) (valL (y.e a) 2 b (y.l a))/\Bw w w1):=⟨o1,b1⟩
 clear o1 b1 c0 ch;go_wp2;go_ret;exact ⟨_,_,rfl,O1.out⟩
theorem qns (X hc:Nat) (ha:Option Addr) (hA:Nat->Option Addr) (hC:Nat->Nat) (y:Hs) (a b:Nat) (w:World) (c0:w.cell? ⟨X,0,none⟩=some (.slice ha y.n hc)) (hE:HisE w ha hA hC y) (hl:∀ i,i<y.n->y.l i<=200) (han:a<y.n) (hbn:b<y.n):
  Calls prog 55 #[.pointer (some (aQ X 0)),iV a,iV b] w (rB w (iV (nthV (y.e b) 3 a (y.l b) (cnt (y.e a) 2 b (y.l a):Nat)))):=by
 have HS:Hid (∀ wx,Bw w wx->Calls prog 66 #[.pointer (some ⟨X,0,none⟩),iV a,iV b] wx fun e w'=>∃ a1 c1,e=.returned (.slice a1 (cnt (y.e a) 2 b (y.l a)) c1)/\Bw wx w'):=fun wx hb=>by
  refine (qln X hc ha hA hC y a b wx ((hb.cell (p:=(aQ X 0)) (zJ w _ c0)).trans c0) (hE.bw hb) hl han).mono ?_;rintro e w1 ⟨a1,c1,rfl,-,q⟩;exact ⟨a1,c1,by rw [qcb];rfl,q⟩
 have HN:Hid (∀ wx,Bw w wx->Calls prog 99 #[.slice (hA b) (y.l b) (hC b),iV 3,iV a,iV (cnt (y.e a) 2 b (y.l a):Nat)] wx (rB wx (iV (nthV (y.e b) 3 a (y.l b) (cnt (y.e a) 2 b (y.l a):Nat))))):=fun wx hb=>qqw (hA b) (y.l b) (hC b) (y.e b) 3 a _ wx (by have:=hl b hbn;omega) ((hE.bw hb).ev b hbn);have hcn:cnt (y.e a) 2 b (y.l a)<=200:=zP (qkq _ _ _ _) (hl a han);have hbn':(b:Int)<(y.n:Int):=by omega
 obtain ⟨bh,oh,eh,ch⟩:=hE.row.at hbn;rw [eh] at c0;clear hE hl eh;generalize nthV (y.e b) 3 a (y.l b) (cnt (y.e a) 2 b (y.l a):Nat)=V at *;generalize cnt (y.e a) 2 b (y.l a)=cn at *;have hcn':(cn:Int)<=200:=by omega
 have HC0:Hid (w.cell? (aQ X 0)=some (.slice (some (aQ bh oh)) y.n hc)):=c0;have HC1:Hid (w.cell? ⟨bh,oh+b,none⟩=some (.slice (hA b) (y.l b) (hC b))):=ch
 go_enter func55,ntmps55
 go_wp2_with fail
 go_region_law (first
  | (refine qcl rfl 66 _ _ rfl #[.pointer (some (aQ X 0)),.int .i64 a,.int .i64 b] (by simp [Act.eval,Act.put]) (yB func66) (HS.out w.drew (nE _ _).drew) ?_;rintro e w1 ⟨a1,c1,rfl,b1⟩;refine ⟨_,rfl,?_⟩;have q1:Bw w w1:=(nE w.heap.size w).drew.trans b1;have c2:=(q1.cell (p:=(aQ X 0)) (zJ w _ HC0.out)).trans HC0.out;have c3:=(q1.cell (p:=⟨bh,oh+b,none⟩) (zJ w _ HC1.out)).trans HC1.out;have Q1:Hid (Bw w w1):=q1;clear b1 q1)
  | (refine qcl rfl 99 _ _ rfl #[.slice (hA b) (y.l b) (hC b),.int .i64 3,.int .i64 a,.int .i64 (cn:Nat)] (by simp [Act.eval,Act.put]) (yB func99) (HN.out w1 Q1.out) ?_;rintro e w2 ⟨rfl,b2⟩;refine ⟨_,rfl,?_⟩;have Q2:Hid (Bw w w2):=Q1.trans (b2.mono Q1.size);clear b2))
 all_goals
  clear Q1;go_wp2;go_ret;exact ⟨rfl,Q2.out⟩
theorem qgw (X hc:Nat) (ha:Option Addr) (hA:Nat->Option Addr) (hC:Nat->Nat) (y:Hs) (w:World) (c0:w.cell? ⟨X,0,none⟩=some (.slice ha y.n hc)) (hE:HisE w ha hA hC y) (hl:∀ i,i<y.n->y.l i<=200) (h4:y.n<=4):
  Calls prog 23 #[.pointer (some ⟨X,0,none⟩)] w fun e w'=>e=.returned (.bool (qB (∀ a,a<y.n->∀ b,b<y.n->nthV (y.e b) 3 a (y.l b) (cnt (y.e a) 2 b (y.l a):Nat)<0)))/\Bw w w':=by
 have HOv:Hid (∀ wx,Bw w wx->∀ a b,a<y.n->b<y.n->Calls prog 55 #[.pointer (some ⟨X,0,none⟩),iV (a:Nat),iV (b:Nat)] wx (rB wx (iV (nthV (y.e b) 3 a (y.l b) (cnt (y.e a) 2 b (y.l a):Nat))))):=fun wx hb a b ha' hb'=>qns X hc ha hA hC y a b wx ((hb.cell (p:=⟨X,0,none⟩) (zJ w _ c0)).trans c0) (hE.bw hb) hl ha' hb';have HC0:Hid (∀ wx,Bw w wx->wx.cell? ⟨X,0,none⟩=some (.slice ha y.n hc)):=fun wx hb=>(hb.cell (p:=⟨X,0,none⟩) (zJ w _ c0)).trans c0;have hl':(y.n:Int)<=4:=by omega
 clear hE hl;generalize hov:(fun a b:Nat=>nthV (y.e b) 3 a (y.l b) (cnt (y.e a) 2 b (y.l a):Nat))=ov;have e1:∀ a b:Nat,nthV (y.e b) 3 a (y.l b) (cnt (y.e a) 2 b (y.l a):Nat)=ov a b:=fun a b=>by rw [<- hov]
 simp only [e1] at HOv ⊢;clear e1 hov
 go_enter func23,ntmps23
 go_wp2_with fail
 clear c0
 go_loopw [10] (fun i wr=>∃ k:Nat,k<=y.n/\i=.int .i64 k/\Hid (Bw w wr)/\Hid (∀ a,a<k->∀ b,b<y.n->ov a b<0)) (fun i _=>y.n - (intOf i).toNat)
 case atStart=>exact ⟨0,nD _,rfl,nE _ _,fun j hj=>by omega⟩
 case round=>
  obtain ⟨k,hk,rfl,HB,HK⟩:=hrel;by_cases hlt:k<y.n
  ·have hlt':(k:Int)<(y.n:Int):=by omega
   have c1:=HC0.out wr HB.out;go_wp2_with fail
   clear c1
   go_loopw [18] (fun i wr=>∃ j:Nat,j<=y.n/\i=.int .i64 j/\Hid (Bw w wr)/\Hid (∀ b,b<j->ov k b<0)) (fun i _=>y.n - (intOf i).toNat)
   case atStart=>exact ⟨0,nD _,rfl,HB.out,fun j hj=>by omega⟩
   case round=>
    clear HB;obtain ⟨j,hj,rfl,HB,HJ⟩:=hrel;by_cases hjt:j<y.n
    ·have hjt':(j:Int)<(y.n:Int):=by omega
     go_wp2_with fail
     refine (HOv.out _ HB.out k j hlt hjt).mono ?_;rintro e w3 ⟨rfl,q3⟩;have B3:Hid (Bw w w3):=HB.trans (q3.mono HB.size);clear q3 HB;by_cases ho:0<=ov k j
     ·have HV:Hid (qB (∀ a,a<y.n->∀ b,b<y.n->ov a b<0)=false):=qar fun h=>by
       have h1:=h k hlt j hjt;omega
      go_wp2;go_ret;rw [HV.out];exact ⟨rfl,B3.out⟩
     ·have HJ':Hid (∀ b,b<j+1->ov k b<0):=fun b hb=>by
       by_cases e:b=j
       ·subst e
        omega
       ·exact HJ.out b (by omega)
      clear HJ;go_wp2;go_roundw
      case rel=>exact ⟨j+1,by omega,by go_num,B3.out,HJ'.out⟩
      case measure=>simp [intOf];omega
    ·have HK':Hid (∀ a,a<k+1->∀ b,b<y.n->ov a b<0):=fun a ha b hb=>by
      by_cases e:a=k
      ·subst e
       exact HJ.out b (by omega)
      ·exact HK.out a (by omega) b hb
     clear HK HJ;go_wp2;go_roundw
     case rel=>exact ⟨k+1,by omega,by go_num,HB.out,HK'.out⟩
     case measure=>simp [intOf];omega
  ·have HV:Hid (qB (∀ a,a<y.n->∀ b,b<y.n->ov a b<0)=true):=qaz fun a ha b hb=>HK.out a (by omega) b hb
   have B3:=HB.out;clear HK HB;go_wp2;go_ret;rw [HV.out];exact ⟨rfl,B3⟩
def Sy.at (y:Sy) (c:List Int):Hs:=⟨c.length,cN c,y.hH⟩
theorem qqv {x:SysIn} {w w':World} {ha:Option Addr} {c:List Int} (hG:SysG w x) (hb:Bw w w') (hC:x.y.Cut c) (hhn:x.hn=x.pn) (hr:RowS w' ha c.length (fun i=>.slice (x.hA i) (cN c i) (cN c i))):HisE w' ha x.hA (cN c) (x.y.at c):=
 ⟨hr, fun i hi => by
  have hi':i<x.pn:=by have h1:c.length=x.pn:=hC.len;have h2:i<c.length:=hi;omega
  exact ((hG.bw hb).hi i (by omega)).take (hC.leN hi')⟩
theorem qn3 {w:World} {X hc n:Nat} {ha:Option Addr} {cs:List Value} (h:w.rangeAt X 0 cs) (e:hcL ha n hc=cs):w.cell? (aQ X 0)=some (.slice ha n hc):=by
 subst e;have:=h 0 (.slice ha n hc) rfl;simpa using this
theorem qjc (x:SysIn) (ca:Option Addr) (cc:Nat) (c:List Int) (w:World) (hG:SysG w x) (hL:x.Len) (hcap:∀ i,i<x.hn->x.hL i<=x.hC i) (hc:Sl w ca c) (hcl:c.length<=1048576) (hV:w.cell? ⟨0,0,none⟩=some (.iface 221 (.agg #[.pointer (some ⟨1,132,none⟩)]))):
  Calls prog 8 #[x.v,.slice ca c.length cc] w (rB w (.bool (whB x.y c))):=by
 have HS:Hid (∀ wx,Bw w wx->Calls prog 19 #[x.v,.slice ca c.length cc] wx (rB wx (.bool (cutB x.y c)))):=fun wx hb=>qfm x ca cc c wx (hG.bw hb) hL (hc.bw hb) hcl ((hb.cell (p:=⟨0,0,none⟩) (zJ w _ hV)).trans hV);have HH:Hid (cutB x.y c=true->∀ wx,Bw w wx->Calls prog 20 #[x.v,.slice ca c.length cc] wx fun e w'=>∃ ha hc,e=.returned (.agg (hcL ha c.length hc).toArray)/\RowS w' ha c.length (fun i=>.slice (x.hA i) (cN c i) (cN c i))/\Bw wx w'):=fun t wx hb=>qfl x ca cc c wx (hG.bw hb) hcap (qbj t).1.cn.2.2.1 (qbj t).1.cn.1.2 (qbj t).2 (hc.bw hb)
 have HW:Hid (cutB x.y c=true->∀ wx X ha hc,Bw w wx->wx.cell? ⟨X,0,none⟩=some (.slice ha c.length hc)->RowS wx ha c.length (fun i=>.slice (x.hA i) (cN c i) (cN c i))->Calls prog 23 #[.pointer (some ⟨X,0,none⟩)] wx (rB wx (.bool (whB x.y c)))):=fun t wx X ha hc' hb hcell hr=>by
  obtain ⟨hO,hC⟩:=qbj t;have hln:c.length=x.pn:=hC.len;have h:=qgw X hc' ha x.hA (cN c) (x.y.at c) wx hcell (qqv hG hb hC hO.cn.2.2.1 hr) (fun i hi=>zP (hC.leN (by have h2:i<c.length:=hi;show i<x.pn;omega)) (hO.hl200 (by have h2:i<c.length:=hi;show i<x.pn;omega))) (by have h4:x.pn<=4:=hO.cn.1.2;show c.length<=4;omega)
  have e:whB x.y c=qB (∀ a,a<(x.y.at c).n->∀ b,b<(x.y.at c).n->nthV ((x.y.at c).e b) 3 a ((x.y.at c).l b) (cnt ((x.y.at c).e a) 2 b ((x.y.at c).l a):Nat)<0):=by
   unfold whB;rw [t,Bool.true_and]
   have hiff:x.y.Wh (cN c) ↔ (∀ a,a<(x.y.at c).n->∀ b,b<(x.y.at c).n->nthV ((x.y.at c).e b) 3 a ((x.y.at c).l b) (cnt ((x.y.at c).e a) 2 b ((x.y.at c).l a):Nat)<0):=by
    constructor
    ·intro hw a ha b hb
     exact (qd9 (y:=x.y) (c:=cN c)).2 (hw a (by have h2:a<c.length:=ha;show a<x.pn;omega) b (by have h2:b<c.length:=hb;show b<x.pn;omega))
    ·intro hw a ha b hb
     exact (qd9 (y:=x.y) (c:=cN c)).1 (hw a (by have h2:a<x.pn:=ha;show a<c.length;omega) b (by have h2:b<x.pn:=hb;show b<c.length;omega))
   by_cases hw:x.y.Wh (cN c)
   ·rw [qaz hw,qaz (hiff.1 hw)]
   ·rw [qar hw,qar fun h=>hw (hiff.2 h)]
  rw [e];exact h
 have HX:Hid (cutB x.y c=false->whB x.y c=false):=fun h=>by
  show whB x.y c=false;unfold whB;rw [h];rfl
 have BW:Hid (Bw w (w.alloc (x.oX))):=zT _ _;have NB:Hid (x.bX (w.alloc (x.oX)) w.heap.size):=BoxC.new w _ _ _ _ _;generalize whB x.y c=R at *;generalize cutB x.y c=T at *;clear hG hL hcap hc hV
 go_enter func8,ntmps8
 go_wp2_with fail
 generalize w.alloc (x.oX)=W2 at *;refine (HS.out W2 BW.out).mono ?_;rintro e w1 ⟨rfl,q1⟩;have B1:Hid (Bw w w1/\x.bX w1 w.heap.size):=⟨BW.trans (q1.mono BW.size),NB.bw q1⟩
 clear q1 BW NB HS;cases T with
 | false=>
  have HV:=HX.out rfl;clear HX HH HW;go_wp2;go_ret;rw [HV];exact ⟨rfl,B1.1⟩
 | true=>
  have HH':Hid (∀ wx,Bw w wx->Calls prog 20 #[x.v,.slice ca c.length cc] wx fun e w'=>∃ ha hc,e=.returned (.agg (hcL ha c.length hc).toArray)/\RowS w' ha c.length (fun i=>.slice (x.hA i) (cN c i) (cN c i))/\Bw wx w'):=HH.out rfl;have HW':Hid (∀ wx X ha hc,Bw w wx->wx.cell? ⟨X,0,none⟩=some (.slice ha c.length hc)->RowS wx ha c.length (fun i=>.slice (x.hA i) (cN c i) (cN c i))->Calls prog 23 #[.pointer (some ⟨X,0,none⟩)] wx (rB wx (.bool R))):=HW.out rfl;clear HX HH HW;obtain ⟨b0,b1,b2,b3⟩:=B1.2;go_wp2_with fail
  refine (HH'.out w1 B1.1).mono ?_;rintro e w2 ⟨ea,ec,rfl,r2,q2⟩;have B2:Hid (Bw w w2/\RowS w2 ea c.length (fun i=>.slice (x.hA i) (cN c i) (cN c i))):=⟨B1.1.trans (q2.mono B1.1.size),r2⟩
  clear q2 r2 b0 b1 b2 b3 B1 HH';have hl:=qmq ea c.length ec;have ho:=qmr ea c.length ec;generalize hcs:hcL ea c.length ec=cl at *;have hs:cl.toArray.size=21:=by simpa using hl
  have HI:Hid ((prog.info? 52).map (·.size)=some cl.toArray.size):=by show _=_;rw [hs];exact qe2
  have HO:Hid (cl.toArray.all (·.oneCell')=true):=all_oneCell_toArray ho;have HT:Hid ((w2.alloc (zQ4)).there w2.heap.size 0 cl.toArray.size):=qbm _ _ _ _ _ (by rw [hs];rfl) rfl;have BE:Hid (Bw w2 ((w2.alloc (zQ4)).setCells w2.heap.size 0 cl)):=(qap.sets (P:=fun b=>b=w2.heap.size) rfl _ _ (qap.of_below (zT _ _))).bw (nA _) fun b e=>by omega
  have HR:((w2.alloc (zQ4)).setCells w2.heap.size 0 cl).rangeAt w2.heap.size 0 cl:=World.rangeAt_setCells_same _ _ _ _ (by simpa using HT.out);have HCe:Hid (((w2.alloc (zQ4)).setCells w2.heap.size 0 cl).cell? (aQ w2.heap.size 0)=some (.slice ea c.length ec)):=qn3 HR hcs;clear hl ho hs HR hcs;go_upto_region 4 with (refine wpList_store_mid rfl 52 (.tmp 5) (.tmp 12) rfl w2.heap.size 0 cl.toArray rfl rfl HT.out HI.out HO.out ?_)
  clear HT HI HO;generalize (w2.alloc (zQ4)).setCells w2.heap.size 0 cl=w3 at *;have B3:Hid (Bw w w3/\RowS w3 ea c.length (fun i=>.slice (x.hA i) (cN c i) (cN c i))):=⟨B2.1.trans (BE.mono B2.1.size),B2.2.bw BE.out⟩
  clear BE B2;go_wp2_with fail
  refine (HW'.out w3 w2.heap.size ea ec B3.1 HCe.out B3.2).mono ?_;rintro e w4 ⟨rfl,q4⟩;have B4:Hid (Bw w w4):=B3.1.trans (q4.mono B3.1.size);clear q4 B3 HCe HW';go_wp2;go_ret;exact ⟨rfl,B4.out⟩
theorem qru {N n c k:Nat} (h:(Value.slice (some (aQ N 0)) n c).ownBlock=some k):N=k:=by
 cases h;rfl
def sm:List Int->Nat
 | []=>0
 | x :: xs=>x.toNat+sm xs
theorem qr8:∀ (e:List Int) (b:Nat) (k:Int),b<e.length->k<zi e b->0<=k->sm (e.set b k)<sm e
 | [],b,k,hb,_,_=>by simp at hb
 | x :: xs,0,k,_,hk,h0=>by
  have h1:zi (x :: xs) 0=x:=rfl;rw [h1] at hk;simp only [zE,sm];omega
 | x :: xs,b+1,k,hb,hk,h0=>by
  have h1:zi (x :: xs) (b+1)=zi xs b:=rfl;rw [h1] at hk;have:=qr8 xs b k (by simpa using hb) hk h0;simp only [zF,sm];omega
structure CW (w wr:World) (x:SysIn) (g cap:Nat) (c e:List Int):Prop where
 ow:OwnI wr (w.heap.size+1) (sG g c.length cap) e
 be:Bw w wr
 bx:x.bX wr w.heap.size
 cl:x.y.Cl c e
 ln:e.length=c.length
theorem CW.g {w wr:World} {x:SysIn} {g cap:Nat} {c e:List Int} (h:CW w wr x g cap c e):w.heap.size+1<=g/\g<wr.heap.size:=h.ow.lt g rfl
theorem CW.bw {w wr w':World} {x:SysIn} {g cap:Nat} {c e:List Int} (h:CW w wr x g cap c e) (hb:Bw wr w'):CW w w' x g cap c e:=⟨h.ow.bw hb,h.be.trans (hb.mono h.be.size),h.bx.bw hb,h.cl,h.ln⟩
theorem CW.slOf {w wr:World} {x:SysIn} {g cap:Nat} {c e:List Int} (h:CW w wr x g cap c e):Sl wr (some (aQ g 0)) e:=h.ow.slOf
theorem CW.cell {w wr:World} {x:SysIn} {g cap:Nat} {c e:List Int} (h:CW w wr x g cap c e) {b:Nat} (hb:b<c.length):wr.cell? (aQ g b)=some (iV (zi e b))/\wr.frozen? (aQ g b)=false:=by
 have ho:=h.ow;rw [<- h.ln] at ho hb;exact ⟨ho.cell hb,ho.frozen b⟩
theorem CW.put {w wr:World} {x:SysIn} {g cap:Nat} {c e:List Int} (h:CW w wr x g cap c e) {b:Nat} {k:Int} (hn:x.y.Cl c (e.set b k)):CW w (wr.setCell (aQ g b) (iV k)) x g cap c (e.set b k):=by
 have hg:=h.g;obtain ⟨h0,h1,h2,h3⟩:=h.bx;have hc:∀ i,(wr.setCell ⟨g,b,none⟩ (iV k)).cell? ⟨w.heap.size,i,none⟩=wr.cell? ⟨w.heap.size,i,none⟩:=fun i=>World.cell?_setCell_other _ _ _ _ (by intro e;injection e with e;omega);exact ⟨(h.ow.set h.ln.symm b k).1,h.be.setCell (by simp;omega) _,⟨(hc _).trans h0,(hc _).trans h1,(hc _).trans h2,(hc _).trans h3⟩,hn,by rw [List.length_set];exact h.ln⟩
theorem qm2 (x:SysIn) (ca:Option Addr) (cc:Nat) (c:List Int) (w:World) (hG:SysG w x) (hcap:∀ i,i<x.hn->x.hL i<=x.hC i) (ht:cutB x.y c=true) (hc:Sl w ca c):
  Calls prog 46 #[x.v,.slice ca c.length cc] w fun e w'=>∃ u,e=.returned u/\OwnI w' w.heap.size u (clS x.y c)/\Bw w w':=by
 obtain ⟨hO,hC⟩:=qbj ht;have hln:c.length=x.pn:=hC.len;have h1:1<=x.pn:=hO.cn.1.1;have h4:x.pn<=4:=hO.cn.1.2;have hl':(c.length:Int)<=4:=by omega
 have HQ:Hid (c.length=x.pn/\0<c.length/\c.length<=4):=⟨hln,by omega,by omega⟩
 have HSl:Hid (Sl w ca c):=hc
 have HWh:Hid (∀ wr g cap e,CW w wr x g cap c e->Calls prog 25 #[x.v,.slice (some ⟨g,0,none⟩) c.length cap] wr fun r w'=>r=.returned (.bool (qB (x.y.Wh (cN e))))/\Bw wr w'):=fun wr g cap e h=>by
  have:=qht x (some (aQ g 0)) cap e wr (hG.bw h.be) hcap hO (h.cl.cut hC) h.slOf
  rwa [h.ln] at this
 have HOv:Hid (∀ wr g cap e a b,CW w wr x g cap c e->a<c.length->b<c.length->Calls prog 58 #[x.v,.slice (some ⟨g,0,none⟩) c.length cap,iV (a:Nat),iV (b:Nat)] wr fun r w'=>r=.returned (iV (ovN x.y (cN e) a b))/\Bw wr w'):=fun wr g cap e a b h ha hb=>by
  have:=qir x (some (aQ g 0)) cap e a b wr (hG.bw h.be) hcap hO (h.cl.cut hC) h.slOf (by omega) (by omega)
  rwa [h.ln] at this
 have HSt:Hid (x.y.Cl c c):=Sy.Cl.start hC;have HEnd:Hid (∀ e,x.y.Cl c e->x.y.Wh (cN e)->clS x.y c=e):=fun e h h'=>qvd ht h h';have BW:Hid (Bw w (w.alloc (x.oX))):=zT _ _;have NB:Hid (x.bX (w.alloc (x.oX)) w.heap.size):=BoxC.new w _ _ _ _ _;have NS:Hid ((w.alloc (x.oX)).heap.size=w.heap.size+1):=by show _=_;simp
 clear hG hcap hO hC hc hln h1 h4 ht
 go_enter func46,ntmps46
 go_upto_region 1 with fail
 generalize w.alloc (x.oX)=W2 at *;have HL4:Hid (([]:List Int).length+c.length<=4000000/\W2.heap.size<=(W2.alloc (.cells #[] 3)).heap.size/\Sl (W2.alloc (.cells #[] 3)) ca c):=⟨by have:=HQ.out;simp;omega,by simp,(HSl.bw BW.out).bw (zT _ _)⟩
 go_wp2_with (at_builtin;refine qa7 _ rfl _ _ rfl W2.heap.size cc (sG W2.heap.size 0 0) ca [] c rfl rfl (qbz W2) HL4.2.2 HL4.1 HL4.2.1 ?_;intro v4 w4 o4 g4 _;obtain ⟨g,cap,rfl,-,-⟩:=(show OwnI w4 W2.heap.size v4 c from o4).block HQ.2.1;have H4:Hid (CW w w4 x g cap c c):=⟨OwnI.mono (show OwnI w4 W2.heap.size _ c from o4) (by rw [NS.out];omega),Below.grown (BW.trans ((zT _ _).mono BW.size)) g4 (by have:=BW.size;simp;omega) (fun k hk=>by have:=qru hk;have:=NS.out;omega),NB.belowB (B:=w.heap.size+1) (Below.grown ((zT _ _).mono (by rw [NS.out];omega)) g4 (by have:=NS.out;simp;omega) (fun k hk=>by have:=qru hk;have:=NS.out;omega)) (by omega),HSt.out,rfl⟩;clear o4 g4)
 clear BW NB NS HL4 HSt
 go_loopg [6] (sm c) (fun gn _ wr=>∃ e,gn=sm e/\Hid (CW w wr x g cap c e))
 case atStart=>exact ⟨c,rfl,H4.out⟩
 case round=>
  clear H4;obtain ⟨e,hgn,HB⟩:=hrel;have HGN:Hid (gk=sm e):=hgn;clear hgn;obtain ⟨b0,b1,b2,b3⟩:=HB.bx;go_wp2_with fail
  refine (HWh.out _ g cap e HB.out).mono ?_;rintro r w5 ⟨rfl,q5⟩;have B5:Hid (CW w w5 x g cap c e):=HB.bw q5;clear q5 b0 b1 b2 b3 HB;by_cases hw:x.y.Wh (cN e)
  ·rw [qaz hw]
   have HV:Hid (OwnI w5 w.heap.size (sG g c.length cap) (clS x.y c)/\Bw w w5):=by
    have h:=HEnd.out e B5.cl hw;refine ⟨?_,B5.be⟩;rw [h];exact B5.ow.mono (by omega)
   clear hw B5;go_wp2;go_ret;exact ⟨_,rfl,HV.out⟩
  rw [qar hw];have HNW:Hid (¬ x.y.Wh (cN e)):=hw;clear hw;go_wp2_with fail
  go_loopw [6] (fun i wr=>∃ (k:Nat) (e':List Int),k<=c.length/\i=.int .i64 k/\Hid (CW w wr x g cap c e'/\(sm e'<sm e\/(e'=e/\∀ a,a<k->∀ b,b<c.length->tN x.y (cN e) a b<=sN x.y (cN e) a b)))) (fun i _=>c.length - (intOf i).toNat)
  case atStart=>exact ⟨0,e,nD _,rfl,B5.out,.inr ⟨rfl,fun a ha=>by omega⟩⟩
  case round=>
   clear B5;obtain ⟨k,e1,hk,rfl,HB⟩:=hrel;by_cases hlt:k<c.length
   ·have hlt':(k:Int)<(c.length:Int):=by omega
    go_wp2_with fail
    go_loopw [7] (fun i wr=>∃ (j:Nat) (e':List Int),j<=c.length/\i=.int .i64 j/\Hid (CW w wr x g cap c e'/\(sm e'<sm e\/(e'=e/\(∀ a,a<k->∀ b,b<c.length->tN x.y (cN e) a b<=sN x.y (cN e) a b)/\∀ b,b<j->tN x.y (cN e) k b<=sN x.y (cN e) k b)))) (fun i _=>c.length - (intOf i).toNat)
    case atStart=>exact ⟨0,e1,nD _,rfl,HB.1,HB.2.imp id fun h=>⟨h.1,h.2,fun b hb=>by omega⟩⟩
    case round=>
     clear HB;obtain ⟨j,e2,hj,rfl,HB⟩:=hrel;by_cases hjt:j<c.length
     ·have hjt':(j:Int)<(c.length:Int):=by omega
      obtain ⟨b0,b1,b2,b3⟩:=HB.1.bx;go_wp2_with fail
      refine (HOv.out _ g cap e2 k j HB.1 hlt hjt).mono ?_;rintro r w6 ⟨rfl,q6⟩;have B6:Hid (CW w w6 x g cap c e2/\(sm e2<sm e\/(e2=e/\(∀ a,a<k->∀ b,b<c.length->tN x.y (cN e) a b<=sN x.y (cN e) a b)/\∀ b,b<j->tN x.y (cN e) k b<=sN x.y (cN e) k b))):=⟨HB.1.bw q6,HB.2⟩
      have HN:Hid (ovN x.y (cN e2) k j<0 ↔ tN x.y (cN e2) k j<=sN x.y (cN e2) k j):=qd9
      have HX:Hid (0<=ovN x.y (cN e2) k j->x.y.Cl c (e2.set j (ovN x.y (cN e2) k j))/\sm (e2.set j (ovN x.y (cN e2) k j))<sm e2):=fun h=>by
       have hq:=HQ.out;obtain ⟨h1,h2,h3⟩:=B6.1.cl.next (a:=k) (b:=j) (by show k<x.pn;omega) (by show j<x.pn;omega) h;exact ⟨h1,qr8 e2 j _ (by rw [B6.1.ln];exact hjt) h3 h2⟩
      generalize ovN x.y (cN e2) k j=ov at *;clear q6 b0 b1 b2 b3 HB;by_cases ho:0<=ov
      ·obtain ⟨ce,cf⟩:=B6.1.cell hjt
       have B7 : Hid (CW w (w6.setCell ⟨g, j, none⟩ (iV ov)) x g cap c (e2.set j ov) ∧ sm (e2.set j ov) < sm e) := ⟨B6.1.put (HX.out ho).1, by
        have h1:=(HX.out ho).2
        rcases B6.2 with h | ⟨h,-⟩
        ·omega
        ·rw [<- h];exact h1⟩
       clear HN HX B6;go_wp2;go_roundw
       case rel=>exact ⟨j+1,_,by omega,by go_num,B7.1,.inl B7.2⟩
       case measure=>simp [intOf];omega
      ·have HJ : Hid (sm e2 < sm e ∨ (e2 = e ∧ (∀ a, a < k → ∀ b, b < c.length → tN x.y (cN e) a b ≤ sN x.y (cN e) a b) ∧ ∀ b, b < j + 1 → tN x.y (cN e) k b ≤ sN x.y (cN e) k b)) := B6.2.imp id fun ⟨h1, h2, h3⟩ => ⟨h1, h2, fun b hb => by
        by_cases eb:b=j
        ·subst eb
         rw [<- h1];exact HN.1 (by omega)
        ·exact h3 b (by omega)⟩
       have B7:Hid (CW w w6 x g cap c e2):=B6.1;clear HN HX B6;go_wp2;go_roundw
       case rel=>exact ⟨j+1,e2,by omega,by go_num,B7.out,HJ.out⟩
       case measure=>simp [intOf];omega
     ·have HK : Hid (CW w wr x g cap c e2 ∧ (sm e2 < sm e ∨ (e2 = e ∧ ∀ a, a < k + 1 → ∀ b, b < c.length → tN x.y (cN e) a b ≤ sN x.y (cN e) a b))) := ⟨HB.1, HB.2.imp id fun ⟨h1, h2, h3⟩ => ⟨h1, fun a ha b hb => by
       by_cases ea:a=k
       ·subst ea
        exact h3 b (by omega)
       ·exact h2 a (by omega) b hb⟩⟩
      clear HB;go_wp2;go_roundw
      case rel=>exact ⟨k+1,e2,by omega,by go_num,HK.out⟩
      case measure=>simp [intOf];omega
   ·have HK : Hid (CW w wr x g cap c e1 ∧ sm e1 < gk) := ⟨HB.1, by
     rw [HGN.out]
     rcases HB.2 with h | ⟨h1,h2⟩
     ·exact h
     ·exact absurd (fun a ha b hb=>h2 a (by have:=HQ.out;have h3:a<x.pn:=ha;omega) b (by have:=HQ.out;have h3:b<x.pn:=hb;omega)) HNW.out⟩
    clear HB HGN HNW;go_wp2
    go_roundg (sm e1)
    case measure=>exact HK.2
    case rel=>exact ⟨e1,rfl,HK.1⟩
structure Wo2 where
 m:Int
 v:Int
abbrev woV (m v:Int):Value:=.agg #[iV m,iV v]
def WoAt (w:World) (b off len:Nat) (h:Nat->Wo2):Prop:=∀ i,i<len->
 w.cell? ⟨b,off+i*2,none⟩=some (iV (h i).m)/\w.cell? ⟨b,off+i*2+1,none⟩=some (iV (h i).v)
theorem WoAt.bw {w w':World} {B b off len:Nat} {h:Nat->Wo2} (hh:WoAt w b off len h) (hb:Below B w w') (hB:b<B):WoAt w' b off len h:=by
 intro i hi;obtain ⟨h0,h1⟩:=hh i hi;exact ⟨(hb.cell hB).trans h0,(hb.cell hB).trans h1⟩
theorem quy:(prog.info? 43).map (fun i=>(i.zero,i.size,i.bytes))=some (some (woV 0 0),2,16):=by kernel_rfl
def sndN (y:Sy) (p i:Nat):Int:=if (y.hH p i).k=3 then nthV (y.hH (y.hH p i).q.toNat) 2 p (y.hL (y.hH p i).q.toNat) ((plN (y.hH p) 3 (y.hH p i).q i).length:Nat) else -1
open Classical in
noncomputable def hasB (y:Sy) (p i:Int):Bool:=y.okB && belB p y.pn && belB i (y.hL p.toNat)
def sdr (y:Sy) (p i:Nat):Option (Nat × Nat):=if (y.hH p i).k=3 then some ((y.hH p i).q.toNat,(sndN y p i).toNat) else none
def clkF (y:Sy):Nat->Nat->Nat->Nat->Nat
 | 0,_,_,_=>0
 | f+1,p,i,q=>if q=p then i+1 else max (if i=0 then 0 else clkF y f p (i - 1) q) (match sdr y p i with | none=>0 | some s=>clkF y f s.1 s.2 q)
def clk (y:Sy) (p i q:Nat):Nat:=clkF y 801 p i q
structure HisQ (w:World) (X:Nat) (ha:Option Addr) (hc:Nat) (y:Hs) (d:Nat->Nat):Prop where
 c4:w.cell? (aQ X 0)=some (.slice ha y.n hc)
 pt:∀ i,i<4->w.cell? ⟨X,1+i,none⟩=some (iV (d i))
 op:∀ a b,a<4->b<4->w.cell? ⟨X,5+a*4+b,none⟩=some (iV (y.opn d a b))
 fr:∀ j,w.frozen? ⟨X,j,none⟩=false
theorem HisQ.lt {w:World} {X:Nat} {ha:Option Addr} {hc:Nat} {y:Hs} {d:Nat->Nat} (h:HisQ w X ha hc y d):X<w.heap.size:=zJ w _ h.c4
theorem HisQ.blk {w w':World} {X:Nat} {ha:Option Addr} {hc:Nat} {y:Hs} {d:Nat->Nat} (h:HisQ w X ha hc y d) (hb:w'.heap[X]? = w.heap[X]?):HisQ w' X ha hc y d:=
 ⟨(zH hb).trans h.c4,fun i hi=>(zH hb).trans (h.pt i hi),fun a b h1 h2=>(zH hb).trans (h.op a b h1 h2),fun j=>(zI hb).trans (h.fr j)⟩
theorem HisQ.bw {w w':World} {X:Nat} {ha:Option Addr} {hc:Nat} {y:Hs} {d:Nat->Nat} (h:HisQ w X ha hc y d) (hb:Bw w w'):HisQ w' X ha hc y d:=h.blk (hb.block X h.lt)
theorem qsw (X:Nat) (ha:Option Addr) (hc:Nat) (hA:Nat->Option Addr) (hC:Nat->Nat) (y:Hs) (d:Nat->Nat) (k:Nat) (w:World) (hE:HisE w ha hA hC y) (hP:HisQ w X ha hc y d) (h4:y.n<=4) (hk:k<y.n) (hp:y.Peers) (hl:∀ i,i<y.n->y.l i<=200) (hd:∀ i,d i<=y.l i):
  Calls prog 73 #[.pointer (some (aQ X 0)),iV k] w (rB w (.bool (qB (y.Can d k)))):=by
 have HE:Hid (HisE w ha hA hC y):=hE;have HP:Hid (HisQ w X ha hc y d):=hP;have HCan:Hid (y.Can d k ↔ d k<y.l k/\((y.e k (d k)).k=3->0<y.opn d (y.e k (d k)).q.toNat k)):=Hs.can_iff hp hk;have hk4:(k:Int)<4:=by omega
 have hk':(k:Int)<(y.n:Int):=by omega
 have hl200:(y.l k:Int)<=200:=by have:=hl k hk;omega
 have hdk:(d k:Int)<=(y.l k:Int):=by have:=hd k;omega
 obtain ⟨bh,oh,eh,ch⟩:=hE.row.at hk;obtain ⟨c4,pt,op,-⟩:=hP;have pk:=pt k (by omega);rw [eh] at c4;clear hE;by_cases he:d k=y.l k
 ·have HN:Hid (qB (y.Can d k)=false):=qar fun h=>by have:=h.1;omega
  rw [he] at pk;clear op pt
  go_enter func73,ntmps73
  go_wp2_with fail
  go_quiet (fail)
  go_wp2;go_ret;rw [HN.out];exact ⟨rfl,yE (nE _ _) _⟩
 ·have hlt:d k<y.l k:=by have:=hd k;omega
  have hlt':(d k:Int)<(y.l k:Int):=by omega
  have hne:((d k:Int) == (y.l k:Int))=false:=by
   have:¬ (d k:Int)=(y.l k:Int):=by omega
   simpa using this
  obtain ⟨b,off,ea,zb,e0,e1,e2⟩:=(HE.ev k hk).at hlt;rw [ea] at ch;have n1:w.heap.size≠X:=by have:=HP.lt;omega
  have n2:w.heap.size≠b:=by omega
  have n3:w.heap.size≠bh:=by have:=zJ w _ ch;simp at this;omega
  clear zb;have hq:=hp k hk (d k) hlt;obtain ⟨q,hqe⟩:∃ q:Nat,(y.e k (d k)).q=(q:Int):=⟨(y.e k (d k)).q.toNat,by omega⟩
  have hq4:(q:Int)<4:=by omega
  have oq:=op q k (by omega) (by omega);rw [hqe] at e1
  rcases zK ((y.e k (d k)).k != 3) with t | t
  ·have HN:Hid (qB (y.Can d k)=true):=qaz (HCan.2 ⟨hlt,fun h=>by rw [h] at t;cases t⟩)
   clear op pt hq hqe oq HCan;generalize (y.e k (d k)).k=kd at *;generalize (y.e k (d k)).v=vd at *
   go_enter func73,ntmps73
   go_wp2_with fail
   go_quiet (fail)
   go_wp2_with fail
   have BD:Hid (Bw w (w.drewN nq)):=yE (nE _ _) _;replace n1:(w.drewN nq).heap.size≠X:=n1;replace n2:(w.drewN nq).heap.size≠b:=n2;replace n3:(w.drewN nq).heap.size≠bh:=n3;replace c4:(w.drewN nq).cell? (aQ X 0)=_:=c4;replace pk:(w.drewN nq).cell? ⟨X,1+k,none⟩=_:=pk;replace ch:(w.drewN nq).cell? ⟨bh,oh+k,none⟩=_:=ch;replace e0:(w.drewN nq).cell? ⟨b,off+d k*3,none⟩=_:=e0;replace e1:(w.drewN nq).cell? ⟨b,off+d k*3+1,none⟩=_:=e1;replace e2:(w.drewN nq).cell? ⟨b,off+d k*3+2,none⟩=_:=e2;generalize w.drewN nq=wd at *;have c4':=qaa c4;have pk':=qaa pk;have ch':=qaa ch;have e0':=qaa e0;have e1':=qaa e1;have e2':=qaa e2
   go_region
   all_goals
    go_wp2_with fail
    go_quiet (fail)
    go_wp2;go_ret;rw [HN.out];exact ⟨rfl,yE (BD.trans ((zT _ _).mono BD.size)).drew _⟩
  ·have hk3:(y.e k (d k)).k=3:=by simpa using t
   have HN:Hid (qB (y.Can d k)=decide (0<y.opn d q k)):=by
    show qB (y.Can d k)=decide (0<y.opn d q k);have e:(y.e k (d k)).q.toNat=q:=by omega
    by_cases h0:0<y.opn d q k
    ·rw [decide_eq_true h0]
     exact qaz (HCan.2 ⟨hlt,fun _=>by rw [e];exact h0⟩)
    ·rw [decide_eq_false h0]
     refine qar fun h=>h0 ?_;have:=(HCan.1 h).2 hk3
     rwa [e] at this
   rw [hk3] at e0;clear op pt hq hqe HCan t hk3;generalize (y.e k (d k)).v=vd at *;generalize y.opn d q k=on at *
   go_enter func73,ntmps73
   go_wp2_with fail
   go_quiet (fail)
   go_wp2_with fail
   have BD:Hid (Bw w (w.drewN nq)):=yE (nE _ _) _;replace n1:(w.drewN nq).heap.size≠X:=n1;replace n2:(w.drewN nq).heap.size≠b:=n2;replace n3:(w.drewN nq).heap.size≠bh:=n3;replace c4:(w.drewN nq).cell? (aQ X 0)=_:=c4;replace pk:(w.drewN nq).cell? ⟨X,1+k,none⟩=_:=pk;replace ch:(w.drewN nq).cell? ⟨bh,oh+k,none⟩=_:=ch;replace e0:(w.drewN nq).cell? ⟨b,off+d k*3,none⟩=_:=e0;replace e1:(w.drewN nq).cell? ⟨b,off+d k*3+1,none⟩=_:=e1;replace e2:(w.drewN nq).cell? ⟨b,off+d k*3+2,none⟩=_:=e2;replace oq:(w.drewN nq).cell? ⟨X,5+q*4+k,none⟩=_:=oq;generalize w.drewN nq=wd at *;have c4':=qaa c4;have pk':=qaa pk;have ch':=qaa ch;have e0':=qaa e0;have e1':=qaa e1;have e2':=qaa e2;have oq':=qaa oq
   go_region
   all_goals
    go_wp2_with fail
    go_quiet (fail)
    go_wp2;go_ret;rw [HN.out];exact ⟨rfl,yE (BD.trans ((zT _ _).mono BD.size)).drew _⟩
theorem HisQ.put {w w':World} {X:Nat} {ha:Option Addr} {hc:Nat} {y:Hs} {d:Nat->Nat} {k:Nat} (h:HisQ w X ha hc y d) (c4:w'.cell? ⟨X,0,none⟩=w.cell? ⟨X,0,none⟩) (pt:∀ i,i<4->w'.cell? ⟨X,1+i,none⟩=if i=k then some (iV (d k+1:Nat)) else w.cell? ⟨X,1+i,none⟩)
  (op:∀ a b,a<4->b<4->w'.cell? ⟨X,5+a*4+b,none⟩=some (iV (y.opn (up d k) a b))) (fr:∀ j,w'.frozen? ⟨X,j,none⟩=false):HisQ w' X ha hc y (up d k):=by
 refine ⟨c4.trans h.c4,fun i hi=>?_,op,fr⟩;rw [pt i hi];by_cases e:i=k
 ·subst e
  rw [nC rfl,qbu]
 ·rw [nB e,up_other e]
  exact h.pt i hi
theorem HisQ.put2 {w:World} {X:Nat} {ha:Option Addr} {hc:Nat} {y:Hs} {d:Nat->Nat} {k i0 j0:Nat} {on:Int} {o:Obj} (h:HisQ w X ha hc y d) (hk:k<4) (hi:i0<4) (hj:j0<4) (HO:∀ a b,y.opn (up d k) a b=if a=i0/\b=j0 then on else y.opn d a b):
  HisQ (((w.setCell ⟨X,5+i0*4+j0,none⟩ (iV on)).setCell ⟨X,1+k,none⟩ (iV ((d k:Int)+1))).alloc o) X ha hc y (up d k)/\qap (fun b=>b=X) w (((w.setCell ⟨X,5+i0*4+j0,none⟩ (iV on)).setCell ⟨X,1+k,none⟩ (iV ((d k:Int)+1))).alloc o):=by
 have hX:=h.lt;refine ⟨h.put (k:=k) (qdf (by omega) (by omega) hX) (fun i hi'=>?_) (fun a b ha' hb'=>?_) (fun j=>?_),?_⟩
 ·by_cases e:i=k
  ·subst e
   rw [nC rfl,qim (by omega) (by rw [h.pt i hi'];rfl) hX];rfl
  ·rw [nB e]
   exact qdf (by omega) (by omega) hX
 ·rw [HO]
  by_cases e:a=i0/\b=j0
  ·obtain ⟨rfl,rfl⟩:=e
   rw [nC ⟨rfl,rfl⟩];exact qil (by omega) (by rw [h.op a b ha' hb'];rfl) hX
  ·rw [nB e,<- h.op a b ha' hb']
   exact qdf (by omega) (by omega) hX
 ·rw [qcf (by simpa [World.setCell] using hX),World.frozen?_setCell,World.frozen?_setCell]
  exact h.fr j
 ·exact ((qap.of_set (P:=fun b=>b=X) w (a:=(aQ X _)) rfl _).trans (qap.of_set (P:=fun b=>b=X) _ (a:=(aQ X _)) rfl _)).trans (qap.of_below (zT _ _))
theorem HisQ.put1 {w:World} {X:Nat} {ha:Option Addr} {hc:Nat} {y:Hs} {d:Nat->Nat} {k:Nat} {o:Obj} (h:HisQ w X ha hc y d) (hk:k<4) (HO:∀ a b,y.opn (up d k) a b=y.opn d a b):
  HisQ ((w.setCell ⟨X,1+k,none⟩ (iV ((d k:Int)+1))).alloc o) X ha hc y (up d k)/\qap (fun b=>b=X) w ((w.setCell ⟨X,1+k,none⟩ (iV ((d k:Int)+1))).alloc o):=by
 have hX:=h.lt
 have ho:∀ m,m≠1+k->((w.setCell ⟨X,1+k,none⟩ (iV ((d k:Int)+1))).alloc o).cell? ⟨X,m,none⟩=w.cell? ⟨X,m,none⟩:=fun m hm=>by
  rw [World.cell?_alloc_lt _ _ _ (by simpa [World.setCell] using hX),World.cell?_setCell_other _ _ _ _ (by intro e;injection e with _ e;exact hm e.symm)]
 refine ⟨h.put (k:=k) (ho 0 (by omega)) (fun i hi'=>?_) (fun a b ha' hb'=>?_) (fun j=>?_),?_⟩
 ·by_cases e:i=k
  ·subst e
   rw [nC rfl,World.cell?_alloc_lt _ _ _ (by simpa [World.setCell] using hX),World.cell?_setCell_same' _ _ _ (by rw [h.pt i hi'];rfl)];rfl
  ·rw [nB e]
   exact ho _ (by omega)
 ·rw [HO,<- h.op a b ha' hb']
  exact ho _ (by omega)
 ·rw [qcf (by simpa [World.setCell] using hX),World.frozen?_setCell]
  exact h.fr j
 ·exact (qap.of_set (P:=fun b=>b=X) w (a:=(aQ X _)) rfl _).trans (qap.of_below (zT _ _))
theorem HisQ.dr {w:World} {X:Nat} {ha:Option Addr} {hc:Nat} {y:Hs} {d:Nat->Nat} (h:HisQ w X ha hc y d):HisQ w.drew X ha hc y d:=⟨h.c4,h.pt,h.op,h.fr⟩
theorem qtv (X:Nat) (ha:Option Addr) (hc:Nat) (hA:Nat->Option Addr) (hC:Nat->Nat) (y:Hs) (d:Nat->Nat) (k:Nat) (w:World) (hE:HisE w ha hA hC y) (hP:HisQ w X ha hc y d) (h4:y.n<=4) (hk:k<y.n) (hp:y.Peers) (hl:∀ i,i<y.n->y.l i<=200) (hd:∀ i,d i<=y.l i) (hlt:d k<y.l k):
  Calls prog 36 #[.pointer (some (aQ X 0)),iV k] w fun e w'=>e=.returned (.tuple #[])/\HisQ w' X ha hc y (up d k)/\qap (fun b=>b=X) w w':=by
 have HP:Hid (HisQ w X ha hc y d):=hP;have hk4:(k:Int)<4:=by omega
 have hk':(k:Int)<(y.n:Int):=by omega
 have hl200:(y.l k:Int)<=200:=by have:=hl k hk;omega
 have hlt':(d k:Int)<(y.l k:Int):=by omega
 obtain ⟨bh,oh,eh,ch⟩:=hE.row.at hk;obtain ⟨c4,pt,op,fr⟩:=hP;have pk:=pt k (by omega);rw [eh] at c4;obtain ⟨b,off,ea,zb,e0,e1,e2⟩:=(hE.ev k hk).at hlt;rw [ea] at ch;have n1:w.heap.size≠X:=by have:=HP.lt;omega
 have n2:w.heap.size≠b:=by omega
 have n3:w.heap.size≠bh:=by have:=zJ w _ ch;simp at this;omega
 have zX:X<w.heap.size:=HP.lt;have hq:=hp k hk (d k) hlt;obtain ⟨q,hqe⟩:∃ q:Nat,(y.e k (d k)).q=(q:Int):=⟨(y.e k (d k)).q.toNat,by omega⟩
 have hq4:(q:Int)<4:=by omega
 have hqn:q<y.n:=by omega
 rw [hqe] at e1;have c4':=qaa c4;have pk':=qaa pk;have ch':=qaa ch;have e0':=qaa e0;have e1':=qaa e1;have e2':=qaa e2;have fr':∀ j,w.frozen? ⟨X,j,none⟩=false:=fr
 rcases zK ((y.e k (d k)).k == 2) with t | t
 ·have hk2:(y.e k (d k)).k=2:=by simpa using t
  have oq:=op k q (by omega) (by omega);obtain ⟨o1,o2⟩:=Hs.opn_le hd hl hk hqn;have oq':=qaa oq;rw [hk2] at e0 e0'
  have HO:Hid (∀ a b,y.opn (up d k) a b=if a=k/\b=q then y.opn d k q+1 else y.opn d a b):=fun a b=>by
   rw [Hs.opn_up,hk2,hqe];by_cases e:a=k/\b=q
   ·obtain ⟨rfl,rfl⟩:=e
    simp
   ·rw [nB e,nB (fun h=>e ⟨h.1,by omega⟩),nB (fun h=>absurd h.2.1 (by decide))]
    omega
  clear op pt t hk2 hq hqe hp hE eh ea;generalize (y.e k (d k)).v=vd at *;generalize y.opn d k q=on at *
  go_enter func36,ntmps36
  go_wp2_with fail
  go_region
  all_goals
   go_wp2_with fail
   go_region
   all_goals
    go_wp2_with fail
    go_region
    all_goals
     go_wp2_with fail
     go_end0
     have hz:=HP.put2 (o:=oQ0 2 q vd) (show k<4 by omega) (show k<4 by omega) (show q<4 by omega) HO.out;exact ⟨rfl,hz.1.dr.dr.dr,hz.2.dr.dr.dr⟩
 rcases zK ((y.e k (d k)).k == 3) with t3 | t3
 ·have hk3:(y.e k (d k)).k=3:=by simpa using t3
  have oq:=op q k (by omega) (by omega);obtain ⟨o1,o2⟩:=Hs.opn_le hd hl hqn hk;have oq':=qaa oq;rw [hk3] at e0 e0'
  have HO:Hid (∀ a b,y.opn (up d k) a b=if a=q/\b=k then y.opn d q k - 1 else y.opn d a b):=fun a b=>by
   rw [Hs.opn_up,hk3,hqe];by_cases e:a=q/\b=k
   ·obtain ⟨rfl,rfl⟩:=e
    simp
   ·rw [nB e,nB (fun h=>absurd h.2.1 (by decide)),nB (fun h=>e ⟨by omega,h.1⟩)]
    omega
  clear op pt t t3 hk3 hq hqe hp hE eh ea;generalize (y.e k (d k)).v=vd at *;generalize y.opn d q k=on at *
  go_enter func36,ntmps36
  go_wp2_with fail
  go_region
  all_goals
   go_wp2_with fail
   go_region
   all_goals
    go_wp2_with fail
    go_region
    all_goals
     go_wp2_with fail
     go_end0
     have hz:=HP.put2 (o:=oQ0 3 q vd) (show k<4 by omega) (show q<4 by omega) (show k<4 by omega) HO.out;exact ⟨rfl,hz.1.dr.dr.dr,hz.2.dr.dr.dr⟩
 ·have HO:Hid (∀ a b,y.opn (up d k) a b=y.opn d a b):=fun a b=>by
   have t2:(y.e k (d k)).k≠2:=by simpa using t
   have t3':(y.e k (d k)).k≠3:=by simpa using t3
   rw [Hs.opn_up,nB (fun h=>t2 h.2.1),nB (fun h=>t3' h.2.1)];omega
  clear op pt hq hqe hp hE eh ea;generalize (y.e k (d k)).v=vd at *;generalize (y.e k (d k)).k=kd at *
  go_enter func36,ntmps36
  go_wp2_with fail
  go_region
  all_goals
   go_wp2_with fail
   go_region
   all_goals
    go_wp2_with fail
    go_end0
    have hz:=HP.put1 (o:=oQ0 kd q vd) (show k<4 by omega) HO.out;exact ⟨rfl,hz.1.dr.dr,hz.2.dr.dr⟩
