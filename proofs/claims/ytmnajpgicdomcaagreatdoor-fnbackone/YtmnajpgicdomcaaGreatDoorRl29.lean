import Derived.Test.YtmnajpgicdomcaaGreatDoorRl24
import Derived.ScopeJumps
import Derived.WalkMore
namespace Go.Proofs.YtmnajpgicdomcaaGreatDoor
set_option maxRecDepth 100000
set_option maxHeartbeats 4000000
open Go.ChangeShapes Go.WideShapes Go.ChangeAt Go.RowKit Go.Deep Go.Sort
theorem qfs (x:SysIn) (ca:Option Addr) (cc:Nat) (c:List Int) (w:World) (hG:SysG w x) (hL:x.Len) (hc:Sl w ca c) (hcl:c.length<=1048576) (hV:w.cell? ⟨0,0,none⟩=some (.iface 181 (.agg #[.pointer (some ⟨1,126,none⟩)]))):
  Calls Tryz.prog 59 #[x.v,.slice ca c.length cc] w fun e w'=>e=.returned (.bool (cutB x.y c))/\Below w.heap.size w w':=by
 have HG:Hid (SysG w x):=hG;have HC:Hid (Sl w ca c):=hc;have hl':(c.length:Int)<=1048576:=by omega
 have hh':(x.hn:Int)<=1048576:=by have:=hL.h.1;omega
 have HLh:Hid (∀ i,i<x.hn->x.hL i<=1048576):=hL.h.2;have HS:Hid (∀ wx,Below w.heap.size w wx->Calls Tryz.prog 23 #[x.v] wx fun e w'=>e=.returned (.bool x.y.okB)/\Below wx.heap.size wx w'):=fun wx hb=>qdv x wx (hG.below hb) hL ((hb.cell (p:=⟨0,0,none⟩) (zJ w _ hV)).trans hV);have BW:Hid (Below w.heap.size w (w.alloc (oQ4 x.pa x.pn x.pc x.sa x.sn x.sc x.wa x.wn x.wc x.ha x.hn x.hc))):=zT _ _;have NB:Hid (BoxC (w.alloc (oQ4 x.pa x.pn x.pc x.sa x.sn x.sc x.wa x.wn x.wc x.ha x.hn x.hc)) w.heap.size (.slice x.pa x.pn x.pc) (.slice x.sa x.sn x.sc) (.slice x.wa x.wn x.wc) (.slice x.ha x.hn x.hc)):=BoxC.new w _ _ _ _ _;have HX:Hid (cutB x.y c=(x.y.okB && qB (x.y.Cut c))):=rfl;generalize cutB x.y c=R at *;clear hG hL hV hc
 go_enter Tryz.func59,Tryz.ntmps59
 go_wp2_with fail
 generalize w.alloc (oQ4 x.pa x.pn x.pc x.sa x.sn x.sc x.wa x.wn x.wc x.ha x.hn x.hc)=W2 at *;refine (HS.out W2 BW.out).mono ?_;rintro e w1 ⟨rfl,q1⟩;have B1:Hid (Below w.heap.size w w1/\BoxC w1 w.heap.size (.slice x.pa x.pn x.pc) (.slice x.sa x.sn x.sc) (.slice x.wa x.wn x.wc) (.slice x.ha x.hn x.hc)):=⟨BW.out.trans (q1.mono BW.out.size),NB.out.below q1⟩
 clear q1 BW NB HS
 rcases zK x.y.okB with t | t
 case inr=>
  have HV:Hid (R=false):=by
   show R=false;rw [HX.out,t];rfl
  rw [t];clear t HX;go_wp2;go_ret;rw [HV.out];exact ⟨rfl,B1.1⟩
 have HN:Hid (x.hn=x.pn):=(Sy.ok_of t).cn.2.2.1
 have HV:Hid (R=qB (x.y.Cut c)):=by
  show R=_;rw [HX.out,t];rfl
 rw [t];clear t HX;have b3:=B1.2.2.2.2
 rcases zK ((c.length:Int) != (x.hn:Int)) with t | t
 case inl=>
  have HZ:Hid (R=false):=by
   show R=false;rw [HV.out];refine qaw fun h=>?_;have h1:c.length=x.pn:=h.len;rw [h1,HN.out] at t;simp at t
  clear HV;go_wp2;go_ret;rw [HZ.out];exact ⟨rfl,B1.1⟩
 have HQ:Hid (c.length=x.hn):=by
  have h:(c.length:Int)=(x.hn:Int):=by simpa using t
  show c.length=x.hn;omega
 go_wp2_with fail
 clear b3 t
 go_loopw [20] (fun i wr=>∃ k:Nat,k<=c.length/\i=.int .i64 k/\Hid (Below w.heap.size w wr/\BoxC wr w.heap.size (.slice x.pa x.pn x.pc) (.slice x.sa x.sn x.sc) (.slice x.wa x.wn x.wc) (.slice x.ha x.hn x.hc))/\Hid (∀ j,j<k->0<=zi c j/\zi c j<=(x.hL j:Int))) (fun i _=>c.length - (intOf i).toNat)
 case atStart=>exact ⟨0,Nat.zero_le _,rfl,B1.out,fun j hj=>by omega⟩
 case round=>
  clear B1;obtain ⟨k,hk,rfl,HB,HK⟩:=hrel;by_cases hlt:k<c.length
  ·have hlt':(k:Int)<(c.length:Int):=by omega
   have hkn:k<x.hn:=by have:=HQ.out;omega
   have hkn':(k:Int)<(x.hn:Int):=by omega
   obtain ⟨cb,co,rfl,-,c0⟩:=(HC.out.below HB.1).at hlt;obtain ⟨bh,oh,eh,ch⟩:=(HG.out.below HB.1).h.at hkn;have b3:=HB.2.2.2.2;rw [eh] at b3;clear eh;generalize hZ:zi c k=Z at *;have HX:Hid (zi c k=Z):=hZ;clear hZ;by_cases hz0:Z<0
   ·have HZ:Hid (R=false):=by
     show R=false;rw [HV.out];refine qaw fun h=>?_;have h1:=(h.le k (by have:=HQ.out;have:=HN.out;show k<x.pn;omega)).1;rw [HX.out] at h1;omega
    have B3:=HB.1;clear HV HK HB;go_wp2;go_ret;rw [HZ.out];exact ⟨rfl,B3⟩
   ·by_cases hz1:(x.hL k:Int)<Z
    ·have HZ:Hid (R=false):=by
      show R=false;rw [HV.out];refine qaw fun h=>?_;have h1:=(h.le k (by have:=HQ.out;have:=HN.out;show k<x.pn;omega)).2;rw [HX.out] at h1;have h2:Z<=(x.hL k:Int):=h1;omega
     have B3:=HB.1;clear HV HK HB;go_wp2;go_ret;rw [HZ.out];exact ⟨rfl,B3⟩
    ·have HK':Hid (∀ j,j<k+1->0<=zi c j/\zi c j<=(x.hL j:Int)):=fun j hj=>by
      by_cases e:j=k
      ·subst e
       rw [HX.out];omega
      ·exact HK.out j (by omega)
     clear HK HX;go_wp2;go_roundw
     case rel=>exact ⟨k+1,by omega,by go_num,HB.out,HK'.out⟩
     case measure=>simp [intOf];omega
  ·have HZ:Hid (R=true):=by
    show R=true;rw [HV.out];exact qa4 ⟨HQ.out.trans HN.out,fun p hp=>HK.out p (by have:=HQ.out;have:=HN.out;have h1:p<x.pn:=hp;omega)⟩
   have B3:=HB.1;clear HK HB;go_wp2;go_ret;rw [HZ.out];exact ⟨rfl,B3⟩
theorem qnv {w w':World} {b o n B:Nat} (h:w.there b o n) (hb:Below B w w') (hB:b<B):w'.there b o n:=fun j hj=>by
 obtain ⟨h1,h2⟩:=h j hj;have e:=hb.block b hB;exact ⟨(congrArg (Option.isSome) (zH (a:=⟨b,o+j,none⟩) e)).trans h1,(zI (a:=⟨b,o+j,none⟩) e).trans h2⟩
theorem qrz {w:World} {B b n cap:Nat} {E:TypeId} {a:Option Addr} {f:Nat->Value} {xs cl:List Value} (h:RowS w a n f) (ho:w.ownsRow B E 1 (.slice a n cap) n xs) (hb:b<B):RowS (w.setCells b 0 cl) a n f:=by
 rcases h with h | ⟨g,off,rfl,hlt,hc⟩
 ·exact .inl h
 ·have hg:g≠b:=by
   rcases ho.2 with ⟨e,h0⟩ | ⟨g',cap',cur,e,hB,_⟩
   ·cases e
   ·simp only [Value.slice.injEq,Option.some.injEq,Addr.mk.injEq] at e
    omega
  have ht:qau (fun k=>k=b) w (w.setCells b 0 cl):=qau.sets (P:=fun k=>k=b) rfl _ _ (qau.refl _ _);exact .inr ⟨g,off,rfl,zL hlt ht.size,fun i hi=>(ht.cell hlt hg _).trans (hc i hi)⟩
theorem qr7 (a:Option Addr) (len cap h:Nat) (hh:h<=cap) (w:World):(Instr.slice 37 (.slice a len cap) none (some (.int .i64 (h:Int))) (some (.int .i64 (h:Int)))).run Tryz.prog w=.ok (.slice a h h) w:=by
 have hh':(h:Int)<=(cap:Int):=by omega
 cases a with
 | none=>simp [go_sem,sliced,hh']
 | some a=>simp [go_sem,sliced,hh']
theorem qtw {w:World} {B:Nat} {E:TypeId} {v:Value} {n:Nat} {u:Nat->Value} (h:w.ownsRow B E 1 v n ((List.range n).map u)):∃ a cap,v=.slice a n cap/\RowS w a n u:=by
 rcases h.2 with ⟨rfl,h0⟩ | ⟨g,cap,cur,rfl,hb,_⟩
 ·exact ⟨none,0,by rw [h0],.inl h0⟩
 ·refine ⟨_,cap,rfl,.inr ⟨g,0,rfl,(h.lt g rfl).2,fun i hi=>?_⟩⟩
  rw [Nat.zero_add,World.ownsRow.cellAt h i (by omega)];simp [hi]
def hcL (ha:Option Addr) (hn hc:Nat):List Value:=[.slice ha hn hc,.int .i64 0,.int .i64 0,.int .i64 0,.int .i64 0,.int .i64 0,.int .i64 0,.int .i64 0,.int .i64 0,.int .i64 0,.int .i64 0,.int .i64 0,.int .i64 0,.int .i64 0,.int .i64 0,.int .i64 0,.int .i64 0,.int .i64 0,.int .i64 0,.int .i64 0,.int .i64 0]
theorem qmw (ha:Option Addr) (hn hc:Nat):(hcL ha hn hc).length=21:=rfl
theorem qmx (ha:Option Addr) (hn hc:Nat):∀ v ∈ hcL ha hn hc,v.oneCell'=true:=by
 intro v hv;simp only [hcL,List.mem_cons,List.not_mem_nil,or_false] at hv
 rcases hv with rfl | rfl | rfl | rfl | rfl | rfl | rfl | rfl | rfl | rfl | rfl | rfl | rfl | rfl | rfl | rfl | rfl | rfl | rfl | rfl | rfl <;> rfl
theorem qe5:(Tryz.prog.info? 76).map (·.size)=some 21:=by kernel_rfl
theorem qka {fn:Func} {ra:Nat} {ty:TypeId} (h:fn.results=#[.cell ra ty]) (tmps:Array Value) (w:World) (N:Nat) (cs:List Value) (d:TypeDesc) (ha:tmps.getD ra undef=.pointer (some ⟨N,0,none⟩)) (hc:w.rangeAt N 0 cs) (hu:Tryz.prog.underlying ty=some d) (hd:d.isRow=true) (hi:(Tryz.prog.info? ty).map (·.size)=some cs.length):
  (results fn tmps).run Tryz.prog w=.ok (.agg cs.toArray) w:=by
 have hl:=run_loadVar_mid (P:=Tryz.prog) w N 0 ty cs d hc hu hd hi;rw [Array.getD_eq_getD_getElem?] at ha;simp [results,h,ha,asAddr,hl]
theorem qfr (x:SysIn) (ca:Option Addr) (cc:Nat) (c:List Int) (w:World) (hG:SysG w x) (hcap:∀ i,i<x.hn->x.hL i<=x.hC i) (hhn:x.hn=x.pn) (h4:x.pn<=4) (hC:x.y.Cut c) (hc:Sl w ca c):
  Calls Tryz.prog 60 #[x.v,.slice ca c.length cc] w fun e w'=>∃ ha hc,e=.returned (.agg (hcL ha c.length hc).toArray)/\RowS w' ha c.length (fun i=>.slice (x.hA i) (cN c i) (cN c i))/\Below w.heap.size w w':=by
 have HG:Hid (SysG w x):=hG;have HSl:Hid (Sl w ca c):=hc;have hcl:c.length=x.pn:=hC.len;have hl':(c.length:Int)<=4:=by omega
 have HQ:Hid (c.length=x.hn/\c.length<=4):=⟨by omega,by omega⟩
 have HZ:Hid (∀ p,p<c.length->zi c p=(cN c p:Nat)/\cN c p<=x.hC p):=fun p hp=>⟨hC.nat (by show p<x.pn;omega),zP (hC.leN (by show p<x.pn;omega)) (hcap p (by omega))⟩
 obtain ⟨cs,hcs,hmk⟩:=qcu qjv c.length (by omega);have HCS:Hid (cs.size=c.length):=hcs;have BW:Hid (Below w.heap.size w ((w.alloc (oQ4 x.pa x.pn x.pc x.sa x.sn x.sc x.wa x.wn x.wc x.ha x.hn x.hc)).alloc (zQ4))):=(zT _ _).trans ((zT _ _).mono (by simp));have NB:Hid (BoxC ((w.alloc (oQ4 x.pa x.pn x.pc x.sa x.sn x.sc x.wa x.wn x.wc x.ha x.hn x.hc)).alloc (zQ4)) w.heap.size (.slice x.pa x.pn x.pc) (.slice x.sa x.sn x.sc) (.slice x.wa x.wn x.wc) (.slice x.ha x.hn x.hc)):=(BoxC.new w _ _ _ _ _).below (zT _ _);have NT:Hid (((w.alloc (oQ4 x.pa x.pn x.pc x.sa x.sn x.sc x.wa x.wn x.wc x.ha x.hn x.hc)).alloc (zQ4)).there (w.heap.size+1) 0 21):=qbw _ _ _ _ _ rfl (by simp);have NS:Hid (((w.alloc (oQ4 x.pa x.pn x.pc x.sa x.sn x.sc x.wa x.wn x.wc x.ha x.hn x.hc)).alloc (zQ4)).heap.size=w.heap.size+2):=by show _=_;simp
 clear hG hcap hhn h4 hC hc hcl hcs
 go_enter Tryz.func60,Tryz.ntmps60
 go_upto_region 1 with fail
 generalize (w.alloc (oQ4 x.pa x.pn x.pc x.sa x.sn x.sc x.wa x.wn x.wc x.ha x.hn x.hc)).alloc (zQ4)=W2 at *;go_upto_region 2 with fail
 clear hmk
 have O0:Hid ((W2.alloc (.cells cs 37)).ownsRow (w.heap.size+2) 37 1 (.slice (some ⟨W2.heap.size,0,none⟩) 0 c.length) 0 ((List.range 0).map fun i=>.slice (x.hA i) (cN c i) (cN c i))):=by
  have:=World.ownsRow_made (base:=w.heap.size+2) (e:=37) (size:=1) W2 cs c.length (by rw [NS.out];omega) (by unfold maxLen;have:=HQ.out;omega) (by rw [HCS.out,Nat.mul_one]);exact this
 have B0:Hid (Below (w.heap.size+2) W2 (W2.alloc (.cells cs 37))):=(zT _ _).mono (by rw [NS.out];omega);generalize W2.alloc (.cells cs 37)=W3 at *;go_wp2_with fail
 go_loopw [5,13] (fun o i wr=>∃ k:Nat,k<=c.length/\i=.int .i64 k/\Hid (wr.ownsRow (w.heap.size+2) 37 1 o k ((List.range k).map fun i=>.slice (x.hA i) (cN c i) (cN c i))/\Below (w.heap.size+2) W2 wr)) (fun _ i _=>c.length - (intOf i).toNat)
 case atStart=>exact ⟨0,Nat.zero_le _,rfl,O0.out,B0.out⟩
 case round=>
  clear O0 B0;obtain ⟨k,hk,rfl,HB⟩:=hrel;have BE:Hid (Below w.heap.size w wr/\BoxC wr w.heap.size (.slice x.pa x.pn x.pc) (.slice x.sa x.sn x.sc) (.slice x.wa x.wn x.wc) (.slice x.ha x.hn x.hc)/\w.heap.size+2<=wr.heap.size):=⟨BW.out.trans (HB.2.mono (by omega)),NB.out.belowB HB.2 (by omega),by have:=HB.2.size;have:=NS.out;omega⟩
  by_cases hlt:k<c.length
  ·have hlt':(k:Int)<(c.length:Int):=by omega
   have hkn:k<x.hn:=by have:=HQ.out;omega
   have hkn':(k:Int)<(x.hn:Int):=by omega
   obtain ⟨cb,co,rfl,-,c0⟩:=(HSl.out.below BE.1).at hlt;obtain ⟨bh,oh,eh,ch⟩:=(HG.out.below BE.1).h.at hkn;have b3:=BE.2.1.2.2.2;rw [eh] at b3;clear eh;rw [(HZ.out k hlt).1] at c0;have ks:=qr7 (x.hA k) (x.hL k) (x.hC k) (cN c k) (HZ.out k hlt).2;have HK2:Hid (k<=2000000):=by show _<=_;have:=HQ.out;omega
   go_wp2_with (at_builtin;refine qan qjv wr rfl rfl _ _ rfl (w.heap.size+2) u5 k _ rfl HB.1 #[.slice (x.hA k) (cN c k) (cN c k)] rfl rfl (by intro u hu;simp at hu;subst hu;rfl) HK2.out BE.2.2 ?_;intro v5 w5 o5 g5 q5 n5;have F5:Hid (w5.ownsRow (w.heap.size+2) 37 1 v5 (k+1) ((List.range (k+1)).map fun i=>.slice (x.hA i) (cN c i) (cN c i))/\Below (w.heap.size+2) W2 w5):=⟨by rw [List.range_succ,List.map_append];exact o5,Below.grown HB.2 g5 BE.2.2 (fun j hj=>(HB.1.lt j hj).1)⟩;clear o5 g5 q5 n5)
   go_roundw
   case rel=>exact ⟨k+1,by omega,by go_num,F5.out⟩
   case measure=>simp [intOf];omega
  ·have hkl:k=c.length:=by omega
   have F5:Hid (wr.ownsRow (w.heap.size+2) 37 1 u5 c.length ((List.range c.length).map fun i=>.slice (x.hA i) (cN c i) (cN c i))):=by
    have:=HB.1;rw [hkl] at this;exact this
   obtain ⟨ea,ec,rfl,rs⟩:=qtw F5.out;have RS:Hid (RowS wr ea c.length fun i=>.slice (x.hA i) (cN c i) (cN c i)):=rs;have hl:=qmw ea c.length ec;have ho:=qmx ea c.length ec;generalize hcs:hcL ea c.length ec=cl at *;have HCL:Hid (hcL ea c.length ec=cl):=hcs;have hs:cl.toArray.size=21:=by simpa using hl
   have HT:Hid (wr.there (w.heap.size+1) 0 cl.toArray.size):=by
    show wr.there _ _ _;rw [hs];exact qnv NT.out HB.2 (by omega)
   have HI:Hid ((Tryz.prog.info? 76).map (·.size)=some cl.length):=by show _=_;rw [hl];exact qe5
   have HO:Hid (cl.toArray.all (·.oneCell')=true):=all_oneCell_toArray ho;have OW:Hid (∀ j,(Value.slice ea c.length ec).ownBlock=some j->w.heap.size+2<=j):=fun j hj=>(F5.out.lt j hj).1;have RK:Hid (RowS (wr.setCells (w.heap.size+1) 0 cl) ea c.length fun i=>.slice (x.hA i) (cN c i) (cN c i)):=qrz RS.out (F5.out) (by omega);have BK:Hid (Below w.heap.size w (wr.setCells (w.heap.size+1) 0 cl)):=BE.1.trans ((qau.sets (P:=fun b=>b=w.heap.size+1) rfl _ _ (qau.refl _ _)).below BE.1.size fun b e=>by omega);clear hcs hl ho hs HB hkl rs RS F5 BE;go_wp2_with (refine wpList_store_mid rfl 76 (.tmp 4) (.tmp 31) rfl (w.heap.size+1) 0 cl.toArray rfl (by rw [<- HCL.out];rfl) HT.out (by simpa using HI.out) HO.out ?_)
   have HR:Hid ((wr.setCells (w.heap.size+1) 0 cl).rangeAt (w.heap.size+1) 0 cl):=World.rangeAt_setCells_same _ _ _ _ (by simpa using HT.out);clear HT;generalize wr.setCells (w.heap.size+1) 0 cl=W5 at *;exact bodyPost_ret (qka Tryz.results60 _ _ (w.heap.size+1) cl _ rfl HR.out Tryz.underlying76 rfl HI.out) rfl ⟨ea,ec,by rw [HCL.out],RK.out,BK.out⟩
theorem qlv (X hc:Nat) (ha:Option Addr) (hA:Nat->Option Addr) (hC:Nat->Nat) (y:Hs) (a b:Nat) (w:World) (c0:w.cell? ⟨X,0,none⟩=some (.slice ha y.n hc)) (hE:HisE w ha hA hC y) (hl:∀ i,i<y.n->y.l i<=200) (han:a<y.n):
  Calls Tryz.prog 85 #[.pointer (some ⟨X,0,none⟩),.int .i64 a,.int .i64 b] w fun e w'=>∃ a1 c1,e=.returned (.slice a1 (valL (y.e a) 2 b (y.l a)).length c1)/\OwnI w' w.heap.size (.slice a1 (valL (y.e a) 2 b (y.l a)).length c1) (valL (y.e a) 2 b (y.l a))/\Below w.heap.size w w':=by
 have HE:Hid (EvL w (hA a) (y.l a) (y.e a)):=hE.ev a han;have HLb:Hid (y.l a<=1048576):=by have:=hl a han;show _<=_;omega
 have ha':(a:Int)<(y.n:Int):=by omega
 obtain ⟨bh,oh,eh,ch⟩:=hE.row.at han;rw [eh] at c0;clear hE hl eh
 go_enter Tryz.func85,Tryz.ntmps85
 go_wp2_with fail
 refine (qc9 (hA a) (y.l a) _ (y.e a) 2 b w HLb.out HE.out).mono ?_;rintro e w1 ⟨v,rfl,o1,b1⟩;obtain ⟨a1,c1,rfl,-⟩:=o1.form;have O1:Hid (OwnI w1 w.heap.size (.slice a1 (valL (y.e a) 2 b (y.l a)).length c1) (valL (y.e a) 2 b (y.l a))/\Below w.heap.size w w1):=⟨o1,b1⟩
 clear o1 b1 c0 ch;go_wp2;go_ret;exact ⟨_,_,rfl,O1.out⟩
theorem qik (X hc:Nat) (ha:Option Addr) (hA:Nat->Option Addr) (hC:Nat->Nat) (y:Hs) (a b:Nat) (w:World) (c0:w.cell? ⟨X,0,none⟩=some (.slice ha y.n hc)) (hE:HisE w ha hA hC y) (hl:∀ i,i<y.n->y.l i<=200) (han:a<y.n) (hbn:b<y.n):
  Calls Tryz.prog 63 #[.pointer (some ⟨X,0,none⟩),.int .i64 a,.int .i64 b] w fun e w'=>e=.returned (.int .i64 (nthV (y.e b) 3 a (y.l b) (cnt (y.e a) 2 b (y.l a):Nat)))/\Below w.heap.size w w':=by
 have HS:Hid (∀ wx,Below w.heap.size w wx->Calls Tryz.prog 85 #[.pointer (some ⟨X,0,none⟩),.int .i64 a,.int .i64 b] wx fun e w'=>∃ a1 c1,e=.returned (.slice a1 (cnt (y.e a) 2 b (y.l a)) c1)/\Below wx.heap.size wx w'):=fun wx hb=>by
  refine (qlv X hc ha hA hC y a b wx ((hb.cell (p:=⟨X,0,none⟩) (zJ w _ c0)).trans c0) (hE.below hb) hl han).mono ?_;rintro e w1 ⟨a1,c1,rfl,-,q⟩;exact ⟨a1,c1,by rw [qb6];rfl,q⟩
 have HN:Hid (∀ wx,Below w.heap.size w wx->Calls Tryz.prog 97 #[.slice (hA b) (y.l b) (hC b),.int .i64 3,.int .i64 a,.int .i64 (cnt (y.e a) 2 b (y.l a):Nat)] wx fun e w'=>e=.returned (.int .i64 (nthV (y.e b) 3 a (y.l b) (cnt (y.e a) 2 b (y.l a):Nat)))/\Below wx.heap.size wx w'):=fun wx hb=>qq1 (hA b) (y.l b) (hC b) (y.e b) 3 a _ wx (by have:=hl b hbn;omega) ((hE.below hb).ev b hbn);have hcn:cnt (y.e a) 2 b (y.l a)<=200:=zP (qk6 _ _ _ _) (hl a han);have hbn':(b:Int)<(y.n:Int):=by omega
 obtain ⟨bh,oh,eh,ch⟩:=hE.row.at hbn;rw [eh] at c0;clear hE hl eh;generalize nthV (y.e b) 3 a (y.l b) (cnt (y.e a) 2 b (y.l a):Nat)=V at *;generalize cnt (y.e a) 2 b (y.l a)=cn at *;have hcn':(cn:Int)<=200:=by omega
 have HC0:Hid (w.cell? ⟨X,0,none⟩=some (.slice (some ⟨bh,oh,none⟩) y.n hc)):=c0;have HC1:Hid (w.cell? ⟨bh,oh+b,none⟩=some (.slice (hA b) (y.l b) (hC b))):=ch
 go_enter Tryz.func63,Tryz.ntmps63
 go_wp2_with fail
 go_region_law (first
  | (refine qdq rfl 85 _ _ rfl #[.pointer (some ⟨X,0,none⟩),.int .i64 a,.int .i64 b] (by simp [Act.eval,Act.put]) (yB Tryz.func85 (by kernel_rfl) rfl) (HS.out w.drew (Below.refl _ _).drew) ?_;rintro e w1 ⟨a1,c1,rfl,b1⟩;refine ⟨_,rfl,?_⟩;have q1:Below w.heap.size w w1:=(Below.refl w.heap.size w).drew.trans b1;have c2:=(q1.cell (p:=⟨X,0,none⟩) (zJ w _ HC0.out)).trans HC0.out;have c3:=(q1.cell (p:=⟨bh,oh+b,none⟩) (zJ w _ HC1.out)).trans HC1.out;have Q1:Hid (Below w.heap.size w w1):=q1;clear b1 q1)
  | (refine qdq rfl 97 _ _ rfl #[.slice (hA b) (y.l b) (hC b),.int .i64 3,.int .i64 a,.int .i64 (cn:Nat)] (by simp [Act.eval,Act.put]) (yB Tryz.func97 (by kernel_rfl) rfl) (HN.out w1 Q1.out) ?_;rintro e w2 ⟨rfl,b2⟩;refine ⟨_,rfl,?_⟩;have Q2:Hid (Below w.heap.size w w2):=Q1.out.trans (b2.mono Q1.out.size);clear b2))
 all_goals
  clear Q1;go_wp2;go_ret;exact ⟨rfl,Q2.out⟩
theorem qlj (X hc:Nat) (ha:Option Addr) (hA:Nat->Option Addr) (hC:Nat->Nat) (y:Hs) (w:World) (c0:w.cell? ⟨X,0,none⟩=some (.slice ha y.n hc)) (hE:HisE w ha hA hC y) (hl:∀ i,i<y.n->y.l i<=200) (h4:y.n<=4):
  Calls Tryz.prog 94 #[.pointer (some ⟨X,0,none⟩)] w fun e w'=>e=.returned (.bool (qB (∀ a,a<y.n->∀ b,b<y.n->nthV (y.e b) 3 a (y.l b) (cnt (y.e a) 2 b (y.l a):Nat)<0)))/\Below w.heap.size w w':=by
 have HOv:Hid (∀ wx,Below w.heap.size w wx->∀ a b,a<y.n->b<y.n->Calls Tryz.prog 63 #[.pointer (some ⟨X,0,none⟩),.int .i64 (a:Nat),.int .i64 (b:Nat)] wx fun e w'=>e=.returned (.int .i64 (nthV (y.e b) 3 a (y.l b) (cnt (y.e a) 2 b (y.l a):Nat)))/\Below wx.heap.size wx w'):=fun wx hb a b ha' hb'=>qik X hc ha hA hC y a b wx ((hb.cell (p:=⟨X,0,none⟩) (zJ w _ c0)).trans c0) (hE.below hb) hl ha' hb';have HC0:Hid (∀ wx,Below w.heap.size w wx->wx.cell? ⟨X,0,none⟩=some (.slice ha y.n hc)):=fun wx hb=>(hb.cell (p:=⟨X,0,none⟩) (zJ w _ c0)).trans c0;have hl':(y.n:Int)<=4:=by omega
 clear hE hl;generalize hov:(fun a b:Nat=>nthV (y.e b) 3 a (y.l b) (cnt (y.e a) 2 b (y.l a):Nat))=ov;have e1:∀ a b:Nat,nthV (y.e b) 3 a (y.l b) (cnt (y.e a) 2 b (y.l a):Nat)=ov a b:=fun a b=>by rw [<- hov]
 simp only [e1] at HOv ⊢;clear e1 hov
 go_enter Tryz.func94,Tryz.ntmps94
 go_wp2_with fail
 clear c0
 go_loopw [10] (fun i wr=>∃ k:Nat,k<=y.n/\i=.int .i64 k/\Hid (Below w.heap.size w wr)/\Hid (∀ a,a<k->∀ b,b<y.n->ov a b<0)) (fun i _=>y.n - (intOf i).toNat)
 case atStart=>exact ⟨0,Nat.zero_le _,rfl,Below.refl _ _,fun j hj=>by omega⟩
 case round=>
  obtain ⟨k,hk,rfl,HB,HK⟩:=hrel;by_cases hlt:k<y.n
  ·have hlt':(k:Int)<(y.n:Int):=by omega
   have c1:=HC0.out wr HB.out;go_wp2_with fail
   clear c1
   go_loopw [18] (fun i wr=>∃ j:Nat,j<=y.n/\i=.int .i64 j/\Hid (Below w.heap.size w wr)/\Hid (∀ b,b<j->ov k b<0)) (fun i _=>y.n - (intOf i).toNat)
   case atStart=>exact ⟨0,Nat.zero_le _,rfl,HB.out,fun j hj=>by omega⟩
   case round=>
    clear HB;obtain ⟨j,hj,rfl,HB,HJ⟩:=hrel;by_cases hjt:j<y.n
    ·have hjt':(j:Int)<(y.n:Int):=by omega
     go_wp2_with fail
     refine (HOv.out _ HB.out k j hlt hjt).mono ?_;rintro e w3 ⟨rfl,q3⟩;have B3:Hid (Below w.heap.size w w3):=HB.out.trans (q3.mono HB.out.size);clear q3 HB;by_cases ho:0<=ov k j
     ·have HV:Hid (qB (∀ a,a<y.n->∀ b,b<y.n->ov a b<0)=false):=qaw fun h=>by
       have h1:=h k hlt j hjt;omega
      go_wp2;go_ret;rw [HV.out];exact ⟨rfl,B3.out⟩
     ·have HJ':Hid (∀ b,b<j+1->ov k b<0):=fun b hb=>by
       by_cases e:b=j
       ·subst e
        omega
       ·exact HJ.out b (by omega)
      clear HJ;go_wp2;go_roundw
      case rel=>exact ⟨j+1,by omega,by go_num,B3.out,HJ'.out⟩
      case measure=>simp [intOf];omega
    ·have HK':Hid (∀ a,a<k+1->∀ b,b<y.n->ov a b<0):=fun a ha b hb=>by
      by_cases e:a=k
      ·subst e
       exact HJ.out b (by omega)
      ·exact HK.out a (by omega) b hb
     clear HK HJ;go_wp2;go_roundw
     case rel=>exact ⟨k+1,by omega,by go_num,HB.out,HK'.out⟩
     case measure=>simp [intOf];omega
  ·have HV:Hid (qB (∀ a,a<y.n->∀ b,b<y.n->ov a b<0)=true):=qa4 fun a ha b hb=>HK.out a (by omega) b hb
   have B3:=HB.out;clear HK HB;go_wp2;go_ret;rw [HV.out];exact ⟨rfl,B3⟩
def Sy.at (y:Sy) (c:List Int):Hs:=⟨c.length,cN c,y.hH⟩
theorem qq0 {x:SysIn} {w w':World} {ha:Option Addr} {c:List Int} (hG:SysG w x) (hb:Below w.heap.size w w') (hC:x.y.Cut c) (hhn:x.hn=x.pn) (hr:RowS w' ha c.length (fun i=>.slice (x.hA i) (cN c i) (cN c i))):HisE w' ha x.hA (cN c) (x.y.at c):=
 ⟨hr, fun i hi => by
  have hi':i<x.pn:=by have h1:c.length=x.pn:=hC.len;have h2:i<c.length:=hi;omega
  exact ((hG.below hb).hi i (by omega)).take (hC.leN hi')⟩
theorem qn9 {w:World} {X hc n:Nat} {ha:Option Addr} {cs:List Value} (h:w.rangeAt X 0 cs) (e:hcL ha n hc=cs):w.cell? ⟨X,0,none⟩=some (.slice ha n hc):=by
 subst e;have:=h 0 (.slice ha n hc) rfl;simpa using this
theorem qrw {N n c k:Nat} (h:(Value.slice (some ⟨N,0,none⟩) n c).ownBlock=some k):N=k:=by
 cases h;rfl
def sm:List Int->Nat
 | []=>0
 | x :: xs=>x.toNat+sm xs
theorem qoy:∀ (e:List Int) (b:Nat) (k:Int),b<e.length->k<zi e b->0<=k->sm (e.set b k)<sm e
 | [],b,k,hb,_,_=>by simp at hb
 | x :: xs,0,k,_,hk,h0=>by
  have h1:zi (x :: xs) 0=x:=rfl;rw [h1] at hk;simp only [zE,sm];omega
 | x :: xs,b+1,k,hb,hk,h0=>by
  have h1:zi (x :: xs) (b+1)=zi xs b:=rfl;rw [h1] at hk;have:=qoy xs b k (by simpa using hb) hk h0;simp only [zF,sm];omega
structure CW (w wr:World) (x:SysIn) (g cap:Nat) (c e:List Int):Prop where
 ow:OwnI wr (w.heap.size+1) (.slice (some ⟨g,0,none⟩) c.length cap) e
 be:Below w.heap.size w wr
 bx:BoxC wr w.heap.size (.slice x.pa x.pn x.pc) (.slice x.sa x.sn x.sc) (.slice x.wa x.wn x.wc) (.slice x.ha x.hn x.hc)
 cl:x.y.Cl c e
 ln:e.length=c.length
theorem CW.g {w wr:World} {x:SysIn} {g cap:Nat} {c e:List Int} (h:CW w wr x g cap c e):w.heap.size+1<=g/\g<wr.heap.size:=h.ow.lt g rfl
theorem CW.below {w wr w':World} {x:SysIn} {g cap:Nat} {c e:List Int} (h:CW w wr x g cap c e) (hb:Below wr.heap.size wr w'):CW w w' x g cap c e:=⟨h.ow.below hb,h.be.trans (hb.mono h.be.size),h.bx.below hb,h.cl,h.ln⟩
theorem CW.slOf {w wr:World} {x:SysIn} {g cap:Nat} {c e:List Int} (h:CW w wr x g cap c e):Sl wr (some ⟨g,0,none⟩) e:=h.ow.slOf
theorem CW.cell {w wr:World} {x:SysIn} {g cap:Nat} {c e:List Int} (h:CW w wr x g cap c e) {b:Nat} (hb:b<c.length):wr.cell? ⟨g,b,none⟩=some (.int .i64 (zi e b))/\wr.frozen? ⟨g,b,none⟩=false:=by
 have ho:=h.ow;rw [<- h.ln] at ho hb;exact ⟨ho.cell hb,ho.frozen b⟩
theorem CW.put {w wr:World} {x:SysIn} {g cap:Nat} {c e:List Int} (h:CW w wr x g cap c e) {b:Nat} {k:Int} (hn:x.y.Cl c (e.set b k)):CW w (wr.setCell ⟨g,b,none⟩ (.int .i64 k)) x g cap c (e.set b k):=by
 have hg:=h.g;obtain ⟨h0,h1,h2,h3⟩:=h.bx;have hc:∀ i,(wr.setCell ⟨g,b,none⟩ (.int .i64 k)).cell? ⟨w.heap.size,i,none⟩=wr.cell? ⟨w.heap.size,i,none⟩:=fun i=>World.cell?_setCell_other _ _ _ _ (by intro e;injection e with e;omega);exact ⟨(h.ow.set h.ln.symm b k).1,h.be.setCell (by simp;omega) _,⟨(hc _).trans h0,(hc _).trans h1,(hc _).trans h2,(hc _).trans h3⟩,hn,by rw [List.length_set];exact h.ln⟩
theorem qm8 (x:SysIn) (ca:Option Addr) (cc:Nat) (c:List Int) (w:World) (hG:SysG w x) (hcap:∀ i,i<x.hn->x.hL i<=x.hC i) (ht:cutB x.y c=true) (hc:Sl w ca c):
  Calls Tryz.prog 41 #[x.v,.slice ca c.length cc] w fun e w'=>∃ u,e=.returned u/\OwnI w' w.heap.size u (clS x.y c)/\Below w.heap.size w w':=by
 obtain ⟨hO,hC⟩:=qci ht;have hln:c.length=x.pn:=hC.len;have h1:1<=x.pn:=hO.cn.1.1;have h4:x.pn<=4:=hO.cn.1.2;have hl':(c.length:Int)<=4:=by omega
 have HQ:Hid (c.length=x.pn/\0<c.length/\c.length<=4):=⟨hln,by omega,by omega⟩
 have HSl:Hid (Sl w ca c):=hc
 have HWh:Hid (∀ wr g cap e,CW w wr x g cap c e->Calls Tryz.prog 72 #[x.v,.slice (some ⟨g,0,none⟩) c.length cap] wr fun r w'=>r=.returned (.bool (qB (x.y.Wh (cN e))))/\Below wr.heap.size wr w'):=fun wr g cap e h=>by
  have:=qm9 x (some ⟨g,0,none⟩) cap e wr (hG.below h.be) hcap hO (h.cl.cut hC) h.slOf
  rwa [h.ln] at this
 have HOv:Hid (∀ wr g cap e a b,CW w wr x g cap c e->a<c.length->b<c.length->Calls Tryz.prog 73 #[x.v,.slice (some ⟨g,0,none⟩) c.length cap,.int .i64 (a:Nat),.int .i64 (b:Nat)] wr fun r w'=>r=.returned (.int .i64 (ovN x.y (cN e) a b))/\Below wr.heap.size wr w'):=fun wr g cap e a b h ha hb=>by
  have:=qi4 x (some ⟨g,0,none⟩) cap e a b wr (hG.below h.be) hcap hO (h.cl.cut hC) h.slOf (by omega) (by omega)
  rwa [h.ln] at this
 have HSt:Hid (x.y.Cl c c):=Sy.Cl.start hC;have HEnd:Hid (∀ e,x.y.Cl c e->x.y.Wh (cN e)->clS x.y c=e):=fun e h h'=>qjf ht h h';have BW:Hid (Below w.heap.size w (w.alloc (oQ4 x.pa x.pn x.pc x.sa x.sn x.sc x.wa x.wn x.wc x.ha x.hn x.hc))):=zT _ _;have NB:Hid (BoxC (w.alloc (oQ4 x.pa x.pn x.pc x.sa x.sn x.sc x.wa x.wn x.wc x.ha x.hn x.hc)) w.heap.size (.slice x.pa x.pn x.pc) (.slice x.sa x.sn x.sc) (.slice x.wa x.wn x.wc) (.slice x.ha x.hn x.hc)):=BoxC.new w _ _ _ _ _;have NS:Hid ((w.alloc (oQ4 x.pa x.pn x.pc x.sa x.sn x.sc x.wa x.wn x.wc x.ha x.hn x.hc)).heap.size=w.heap.size+1):=by show _=_;simp
 clear hG hcap hO hC hc hln h1 h4 ht
 go_enter Tryz.func41,Tryz.ntmps41
 go_upto_region 1 with fail
 generalize w.alloc (oQ4 x.pa x.pn x.pc x.sa x.sn x.sc x.wa x.wn x.wc x.ha x.hn x.hc)=W2 at *;have HL4:Hid (([]:List Int).length+c.length<=4000000/\W2.heap.size<=(W2.alloc (.cells #[] 3)).heap.size/\Sl (W2.alloc (.cells #[] 3)) ca c):=⟨by have:=HQ.out;simp;omega,by simp,(HSl.out.below BW.out).below (zT _ _)⟩
 go_wp2_with (at_builtin;refine qbb _ rfl _ _ rfl W2.heap.size cc (.slice (some ⟨W2.heap.size,0,none⟩) 0 0) ca [] c rfl rfl (qbt W2) HL4.2.2 HL4.1 HL4.2.1 ?_;intro v4 w4 o4 g4 _;obtain ⟨g,cap,rfl,-,-⟩:=(show OwnI w4 W2.heap.size v4 c from o4).block HQ.2.1;have H4:Hid (CW w w4 x g cap c c):=⟨OwnI.mono (show OwnI w4 W2.heap.size _ c from o4) (by rw [NS.out];omega),Below.grown (BW.out.trans ((zT _ _).mono BW.out.size)) g4 (by have:=BW.out.size;simp;omega) (fun k hk=>by have:=qrw hk;have:=NS.out;omega),NB.out.belowB (B:=w.heap.size+1) (Below.grown ((zT _ _).mono (by rw [NS.out];omega)) g4 (by have:=NS.out;simp;omega) (fun k hk=>by have:=qrw hk;have:=NS.out;omega)) (by omega),HSt.out,rfl⟩;clear o4 g4)
 clear BW NB NS HL4 HSt
 go_loopg [6] (sm c) (fun gn _ wr=>∃ e,gn=sm e/\Hid (CW w wr x g cap c e))
 case atStart=>exact ⟨c,rfl,H4.out⟩
 case round=>
  clear H4;obtain ⟨e,hgn,HB⟩:=hrel;have HGN:Hid (gk=sm e):=hgn;clear hgn;obtain ⟨b0,b1,b2,b3⟩:=HB.out.bx;go_wp2_with fail
  refine (HWh.out _ g cap e HB.out).mono ?_;rintro r w5 ⟨rfl,q5⟩;have B5:Hid (CW w w5 x g cap c e):=HB.out.below q5;clear q5 b0 b1 b2 b3 HB;by_cases hw:x.y.Wh (cN e)
  ·rw [qa4 hw]
   have HV:Hid (OwnI w5 w.heap.size (.slice (some ⟨g,0,none⟩) c.length cap) (clS x.y c)/\Below w.heap.size w w5):=by
    have h:=HEnd.out e B5.out.cl hw;refine ⟨?_,B5.out.be⟩;rw [h];exact B5.out.ow.mono (by omega)
   clear hw B5;go_wp2;go_ret;exact ⟨_,rfl,HV.out⟩
  rw [qaw hw];have HNW:Hid (¬ x.y.Wh (cN e)):=hw;clear hw;go_wp2_with fail
  go_loopw [6] (fun i wr=>∃ (k:Nat) (e':List Int),k<=c.length/\i=.int .i64 k/\Hid (CW w wr x g cap c e'/\(sm e'<sm e\/(e'=e/\∀ a,a<k->∀ b,b<c.length->tN x.y (cN e) a b<=sN x.y (cN e) a b)))) (fun i _=>c.length - (intOf i).toNat)
  case atStart=>exact ⟨0,e,Nat.zero_le _,rfl,B5.out,.inr ⟨rfl,fun a ha=>by omega⟩⟩
  case round=>
   clear B5;obtain ⟨k,e1,hk,rfl,HB⟩:=hrel;by_cases hlt:k<c.length
   ·have hlt':(k:Int)<(c.length:Int):=by omega
    go_wp2_with fail
    go_loopw [7] (fun i wr=>∃ (j:Nat) (e':List Int),j<=c.length/\i=.int .i64 j/\Hid (CW w wr x g cap c e'/\(sm e'<sm e\/(e'=e/\(∀ a,a<k->∀ b,b<c.length->tN x.y (cN e) a b<=sN x.y (cN e) a b)/\∀ b,b<j->tN x.y (cN e) k b<=sN x.y (cN e) k b)))) (fun i _=>c.length - (intOf i).toNat)
    case atStart=>exact ⟨0,e1,Nat.zero_le _,rfl,HB.1,HB.2.imp id fun h=>⟨h.1,h.2,fun b hb=>by omega⟩⟩
    case round=>
     clear HB;obtain ⟨j,e2,hj,rfl,HB⟩:=hrel;by_cases hjt:j<c.length
     ·have hjt':(j:Int)<(c.length:Int):=by omega
      obtain ⟨b0,b1,b2,b3⟩:=HB.1.bx;go_wp2_with fail
      refine (HOv.out _ g cap e2 k j HB.1 hlt hjt).mono ?_;rintro r w6 ⟨rfl,q6⟩;have B6:Hid (CW w w6 x g cap c e2/\(sm e2<sm e\/(e2=e/\(∀ a,a<k->∀ b,b<c.length->tN x.y (cN e) a b<=sN x.y (cN e) a b)/\∀ b,b<j->tN x.y (cN e) k b<=sN x.y (cN e) k b))):=⟨HB.1.below q6,HB.2⟩
      have HN:Hid (ovN x.y (cN e2) k j<0 ↔ tN x.y (cN e2) k j<=sN x.y (cN e2) k j):=qe9
      have HX:Hid (0<=ovN x.y (cN e2) k j->x.y.Cl c (e2.set j (ovN x.y (cN e2) k j))/\sm (e2.set j (ovN x.y (cN e2) k j))<sm e2):=fun h=>by
       have hq:=HQ.out;obtain ⟨h1,h2,h3⟩:=B6.1.cl.next (a:=k) (b:=j) (by show k<x.pn;omega) (by show j<x.pn;omega) h;exact ⟨h1,qoy e2 j _ (by rw [B6.1.ln];exact hjt) h3 h2⟩
      generalize ovN x.y (cN e2) k j=ov at *;clear q6 b0 b1 b2 b3 HB;by_cases ho:0<=ov
      ·obtain ⟨ce,cf⟩:=B6.1.cell hjt
       have B7 : Hid (CW w (w6.setCell ⟨g, j, none⟩ (.int .i64 ov)) x g cap c (e2.set j ov) ∧ sm (e2.set j ov) < sm e) := ⟨B6.1.put (HX.out ho).1, by
        have h1:=(HX.out ho).2
        rcases B6.2 with h | ⟨h,-⟩
        ·omega
        ·rw [<- h];exact h1⟩
       clear HN HX B6;go_wp2;go_roundw
       case rel=>exact ⟨j+1,_,by omega,by go_num,B7.1,.inl B7.2⟩
       case measure=>simp [intOf];omega
      ·have HJ : Hid (sm e2 < sm e ∨ (e2 = e ∧ (∀ a, a < k → ∀ b, b < c.length → tN x.y (cN e) a b ≤ sN x.y (cN e) a b) ∧ ∀ b, b < j + 1 → tN x.y (cN e) k b ≤ sN x.y (cN e) k b)) := B6.2.imp id fun ⟨h1, h2, h3⟩ => ⟨h1, h2, fun b hb => by
        by_cases eb:b=j
        ·subst eb
         rw [<- h1];exact HN.1 (by omega)
        ·exact h3 b (by omega)⟩
       have B7:Hid (CW w w6 x g cap c e2):=B6.1;clear HN HX B6;go_wp2;go_roundw
       case rel=>exact ⟨j+1,e2,by omega,by go_num,B7.out,HJ.out⟩
       case measure=>simp [intOf];omega
     ·have HK : Hid (CW w wr x g cap c e2 ∧ (sm e2 < sm e ∨ (e2 = e ∧ ∀ a, a < k + 1 → ∀ b, b < c.length → tN x.y (cN e) a b ≤ sN x.y (cN e) a b))) := ⟨HB.1, HB.2.imp id fun ⟨h1, h2, h3⟩ => ⟨h1, fun a ha b hb => by
       by_cases ea:a=k
       ·subst ea
        exact h3 b (by omega)
       ·exact h2 a (by omega) b hb⟩⟩
      clear HB;go_wp2;go_roundw
      case rel=>exact ⟨k+1,e2,by omega,by go_num,HK.out⟩
      case measure=>simp [intOf];omega
   ·have HK : Hid (CW w wr x g cap c e1 ∧ sm e1 < gk) := ⟨HB.1, by
     rw [HGN.out]
     rcases HB.2 with h | ⟨h1,h2⟩
     ·exact h
     ·exact absurd (fun a ha b hb=>h2 a (by have:=HQ.out;have h3:a<x.pn:=ha;omega) b (by have:=HQ.out;have h3:b<x.pn:=hb;omega)) HNW.out⟩
    clear HB HGN HNW;go_wp2
    go_roundg (sm e1)
    case measure=>exact HK.2
    case rel=>exact ⟨e1,rfl,HK.1⟩
theorem Sy.Cl.ex {y:Sy} {c:List Int}:∀ (n:Nat) (e:List Int),sm e<=n->y.Cl c e->∃ e',y.Cl c e'/\y.Wh (cN e')
 | n,e,hn,h=>by
  by_cases hw:y.Wh (cN e)
  ·exact ⟨e,h,hw⟩
  ·obtain ⟨a,ha,b,hb,hno⟩:∃ a,a<y.pn/\∃ b,b<y.pn/\¬ tN y (cN e) a b<=sN y (cN e) a b:=by
    apply Classical.byContradiction;intro hc;exact hw fun a ha b hb=>Classical.byContradiction fun h'=>hc ⟨a,ha,b,hb,h'⟩
   have ho:0<=ovN y (cN e) a b:=by
    apply Classical.byContradiction;intro h0;exact hno (qe9.1 (by omega))
   obtain ⟨h1,h2,h3⟩:=h.next ha hb ho;have hlt:=qoy e b _ (by rw [h.len];exact hb) h3 h2;cases n with
   | zero=>omega
   | succ n=>exact Sy.Cl.ex n _ (by omega) h1
theorem qc4 {y:Sy} {c:List Int} (h:cutB y c=true):y.Cl c (clS y c)/\y.Wh (cN (clS y c)):=by
 obtain ⟨e,h1,h2⟩:=Sy.Cl.ex (sm c) c (Nat.le_refl _) (Sy.Cl.start (qci h).2);rw [qjf h h1 h2];exact ⟨h1,h2⟩
theorem qh0 {y:Sy} {c:List Int} (hO:y.Ok) (hC:y.Cut c):cutB y c=true:=by
 unfold cutB;rw [Sy.okB_true hO,qa4 hC];rfl
theorem qge {y:Sy} {c:List Int} (h:cutB y c=true):y.Cut (clS y c):=(qc4 h).1.cut (qci h).2
theorem quo {y:Sy} {c:List Int} (h:cutB y c=true):whB y (clS y c)=true:=by
 unfold whB;rw [qh0 (qci h).1 (qge h),qa4 (qc4 h).2];rfl
def bkL (y:Sy) (p:Nat) (k:Int):List Int:=(flT y y.hn).set p k
theorem qmb {y:Sy} {n p:Nat} (h:p<n):zi (flT y n) p=(y.hL p:Int):=by
 unfold zi flT;simp [List.getD_eq_getElem?_getD,h]
theorem qqj {y:Sy} (hO:y.Ok) {p:Nat} {k:Int} (h0:0<=k) (h1:k<=(y.hL p:Int)):y.Cut (bkL y p k):=by
 have hh:=hO.cn.2.2.1;refine ⟨by unfold bkL;rw [List.length_set,qcq];exact hh,fun q hq=>?_⟩;unfold bkL;by_cases hp:p<y.hn
 ·rw [qmc (by rw [qcq];exact hp)]
  by_cases e:q=p
  ·subst e
   rw [if_pos rfl];exact ⟨h0,h1⟩
  ·rw [if_neg e,qmb (by omega)]
   omega
 ·rw [List.set_eq_of_length_le (by rw [qcq];omega),qmb (by omega)]
  omega
noncomputable def bkE (y:Sy) (p k:Int):List Int:=clS y (bkL y p.toNat k)
def bkIn (y:Sy) (p k:Int):Bool:=belB p y.pn && inB k 0 (y.hL p.toNat)
noncomputable def bkC (y:Sy) (p k:Int):Int:=if y.okB=true then (if bkIn y p k=true then (if wfB (y.ah (cN (bkE y p k)))=true then 0 else 3) else 2) else 1
noncomputable def bkY (y:Sy) (p k:Int):Sy:=if y.okB=true then (if bkIn y p k=true then (if wfB (y.ah (cN (bkE y p k)))=true then y.atY (cN (bkE y p k)) else y) else y) else y.nil
theorem qcv {y:Sy} {p k:Int} (h:bkIn y p k=true):∃ P:Nat,p=P/\P<y.pn/\0<=k/\k<=(y.hL P:Int):=by
 simp only [bkIn,belB,inB,Bool.and_eq_true,decide_eq_true_eq] at h;exact ⟨p.toNat,by omega,by omega,h.2.1,h.2.2⟩
theorem qcz {y:Sy} (hO:y.Ok) {p k:Int} (h:bkIn y p k=true):cutB y (bkL y p.toNat k)=true:=by
 obtain ⟨P,rfl,hP,h0,h1⟩:=qcv h;rw [Int.toNat_natCast];exact qh0 hO (qqj hO h0 h1)
theorem qvz (y:Sy) (p k:Int):(bkY y p k).Sm:=by
 unfold bkY
 split
 ·rename_i hk
  have hO:=Sy.ok_of hk
  split
  ·rename_i hb
   split
   ·rename_i hw
    have hc:=qge (qcz hO hb);have:=Sy.atW_sm hO (d:=cN (bkE y p k)) fun q hq=>hc.leN hq;rw [Sy.atW,if_pos hw] at this;exact this
   ·exact hO.sm
  ·exact hO.sm
 ·exact y.nil_sm
theorem qac.weak {z:Bool} {w:World} {B:Nat} {y:Sy} {v:Value} (o:qac z w B y v):qac false w B y v:=by
 obtain ⟨c,vp,vs,vw,vh,up,us,uw,uh,e,o⟩:=o;exact ⟨c,vp,vs,vw,vh,up,us,uw,uh,e,o.weak⟩
theorem qna {rs:List Int} (h:allN rs=true) (k:Nat):numB (zi rs k)=true:=by
 by_cases hk:k<rs.length
 ·exact (List.all_eq_true.1 h) _ (qsu hk)
 ·unfold zi
  rw [List.getD_eq_getElem?_getD,List.getElem?_eq_none (by omega)];decide
theorem qu9 {g:Nat->I5} {len:Nat} {p:Int} {rs os:List Int} {code k q v:Int} (h:doB g len p rs os code k q v=true):numB v=true:=by
 have hr:=qdi h
 have hs:qc3 len p rs os code=true:=by
  simp only [qbu,Bool.and_eq_true] at hr;exact hr.1.2
 obtain ⟨⟨r0,r1,r2,r3,rfl,n0,n1,n2,n3⟩,-⟩:=qb1 hs;have ha:allN [r0,r1,r2,r3]=true:=by simp [allN,n0,n1,n2,n3]
 unfold doB canB at h
 split at h
 ·simp only [Bool.and_eq_true] at h
  exact h.1.2
 ·simp only [Bool.and_eq_true,beq_iff_eq] at h
  rw [h.2.2.2,nxW,if_pos hr];unfold evW
  split
  ·exact qna ha _
  ·split
   ·exact qna ha _
   ·decide
theorem qwj {g:Nat->I5} {n:Nat} {eh:Nat->E3} {m k:Nat} {S:S4} (h:rp g n eh m=some S) (hk:k<m):numB (eh k).v=true:=by
 cases h0:rp g n eh k with
 | none=>
  have:=qfe h0 (Nat.le_of_lt hk);rw [this] at h;cases h
 | some T=>
  cases hd:doB g n T.p T.rs T.os T.c (eh k).k (eh k).q (eh k).v with
  | true=>exact qu9 hd
  | false=>
   have:=qfe (qtx h0 hd) hk;rw [this] at h;cases h
theorem qtu {g:Nat->I5} {n:Nat} {eh:Nat->E3} {m k:Nat} {S:S4} (h:repO g n eh m=some S) (hk:k<=m):∃ T,repO g n eh k=some T:=by
 obtain ⟨h1,h2,h3⟩:=qbj h;unfold repO;rw [if_pos ⟨h1,by omega⟩];cases h0:rp g n eh k with
 | none=>
  rw [qfe h0 hk] at h3;cases h3
 | some T=>exact ⟨T,rfl⟩
theorem qks (eh:Nat->E3) (kd pr:Int) (n:Nat):∀ k,∃ t,valL eh kd pr (n+k)=valL eh kd pr n ++ t
 | 0=>⟨[],by simp⟩
 | k+1=>by
  obtain ⟨t,h⟩:=qks eh kd pr n k
  rcases zK (hitB eh kd pr (n+k)) with e | e
  ·exact ⟨t ++ [(eh (n+k)).v],by rw [<- Nat.add_assoc,qkr e,h,List.append_assoc]⟩
  ·exact ⟨t,by rw [<- Nat.add_assoc,qhm e,h]⟩
theorem qey (eh:Nat->E3) (kd pr:Int) (n:Nat):(valL eh kd pr n).length=cnt eh kd pr n:=by simp [valL,cnt]
theorem quh {eh:Nat->E3} {kd pr:Int} {n:Nat} (h:∀ i,i<n->numB (eh i).v=true):allN (valL eh kd pr n)=true:=by
 rw [allN,List.all_eq_true];intro v hv;simp only [valL,List.mem_map] at hv;obtain ⟨i,hi,rfl⟩:=hv;obtain ⟨j,hj⟩:=List.mem_iff_getElem?.1 hi;exact h i (qj6 eh kd pr n j i hj).1
theorem qok (l:List Int):∀ n,n<=l.length->numL (itL l) n=l.take n
 | 0,_=>by simp [numL]
 | n+1,h=>by
  rw [qfy (by rfl),qok l n (by omega),List.take_add_one,List.getElem?_eq_getElem (by omega)];simp [itL,zi,List.getD_eq_getElem?_getD,List.getElem?_eq_getElem (show n<l.length by omega)]
theorem qu7 {y:Sy} {d:Nat->Nat} (hO:y.Ok) (_hd:∀ p,p<y.pn->d p<=y.hL p) (hw:y.Wh d) {d':Nat->Nat} (h:y.hs.Put d'):(y.ah d).Put (fun p=>min (d' p) (d p)):=by
 induction h with
 | start=>
  have e:(fun p=>min 0 (d p))=fun _=>0:=funext fun p=>by omega
  show (y.ah d).Put (fun p=>min 0 (d p));rw [e];exact .start
 | @next d' p hput hp hc ih=>
  have hp':p<y.pn:=hp;by_cases hlt:d' p<d p
  ·have e:(fun i=>min (up d' p i) (d i))=up (fun i=>min (d' i) (d i)) p:=funext fun i=>by
    by_cases ei:i=p
    ·subst ei
     rw [qcg,qcg];omega
    ·rw [up_other ei,up_other ei]
   rw [e];have em:min (d' p) (d p)=d' p:=by omega
   refine .next ih hp ⟨by show min (d' p) (d p)<d p;omega,fun hk=>?_⟩;have hk:(y.hH p (min (d' p) (d p))).k=3:=hk;show cnt (y.hH p) 3 (y.hH p (min (d' p) (d p))).q (min (d' p) (d p))<cnt (y.hH (y.hH p (min (d' p) (d p))).q.toNat) 2 p (min (d' (y.hH p (min (d' p) (d p))).q.toNat) (d (y.hH p (min (d' p) (d p))).q.toNat));rw [em] at hk ⊢;have h1:d' p<y.hL p:=hc.1;have hq:=hO.evq hp' h1;have h2:cnt (y.hH p) 3 (y.hH p (d' p)).q (d' p)<cnt (y.hH (y.hH p (d' p)).q.toNat) 2 p (d' (y.hH p (d' p)).q.toNat):=hc.2 hk;have h3:=hw (y.hH p (d' p)).q.toNat (by omega) p hp';unfold tN sN at h3;rw [show (((y.hH p (d' p)).q.toNat:Nat):Int)=(y.hH p (d' p)).q by omega] at h3;have hh:hitB (y.hH p) 3 (y.hH p (d' p)).q (d' p)=true:=qc8.2 ⟨hk,rfl⟩;have h4:=qfn (y.hH p) 3 (y.hH p (d' p)).q (show d' p+1<=d p from hlt);rw [qgf hh] at h4
   rcases Nat.le_total (d' (y.hH p (d' p)).q.toNat) (d (y.hH p (d' p)).q.toNat) with h5 | h5
   ·rw [Nat.min_eq_left h5]
    exact h2
   ·rw [Nat.min_eq_right h5]
    omega
  ·have e:(fun i=>min (up d' p i) (d i))=fun i=>min (d' i) (d i):=funext fun i=>by
    by_cases ei:i=p
    ·subst ei
     rw [qcg];omega
    ·rw [up_other ei]
   rw [e];exact ih
theorem Sy.Ok.wayOf {y:Sy} (h:y.Ok) {a b:Nat} (ha:a<y.pn) (hb:b<y.pn):cnt (y.hH b) 3 a (y.hL b)+(numL (y.wH (a*y.pn+b)) (y.wL (a*y.pn+b))).length=cnt (y.hH a) 2 b (y.hL a):=by
 have e:=congrArg List.length (h.wa a ha b hb).eq;rw [List.length_append,qey,qey] at e;exact e
theorem Sy.Ok.whole {y:Sy} (h:y.Ok):y.Wh y.hL:=fun a ha b hb=>by
 have:=h.wayOf ha hb;unfold tN sN;omega
theorem Sy.Ok.full_wf {y:Sy} (h:y.Ok) {d:Nat->Nat} (hd:∀ p,p<y.pn->d p=y.hL p):wfB (y.ah d)=true:=by
 refine qa4 fun a ha b hb=>?_;have ha:a<y.pn:=ha;have hb:b<y.pn:=hb;have e:=h.wayOf ha hb;have l:=qe7 (y.wH (a*y.pn+b)) (y.wL (a*y.pn+b));have l2:=(h.wa a ha b hb).le;show ((valL (y.hH a) 2 b (d a)).drop (cnt (y.hH b) 3 a (d b))).length<=12;rw [List.length_drop,qey,hd a ha,hd b hb];omega
theorem Sy.Ok.atOk {y:Sy} {d:Nat->Nat} (h:y.Ok) (hd:∀ p,p<y.pn->d p<=y.hL p) (hw:y.Wh d) (hf:wfB (y.ah d)=true):(y.atY d).Ok:=by
 have hrp:∀ p,p<y.pn->∃ T,repO (y.pH p) (y.pL p) (y.hH p) (d p)=some T:=fun p hp=>qtu (h.rp p hp) (hd p hp);refine ⟨⟨h.cn.1,rfl,rfl,rfl⟩,h.pr,fun p hp=>?_,fun p hp i hi=>h.pe p hp i (zL hi (hd p hp)),fun a ha b hb=>?_,?_⟩
 ·obtain ⟨T,hT⟩:=hrp p hp
  show repO (y.pH p) (y.pL p) (y.hH p) (d p)=some (resS (repO (y.pH p) (y.pL p) (y.hH p) (d p)));rw [hT];rfl
 ·have ha:a<y.pn:=ha
  have hb:b<y.pn:=hb;obtain ⟨e1,e2⟩:=qvs (a:=a) hb;have hl:(wyL (y.ah d) a b).length<=12:=qls.1 hf a ha b hb;have hnum:allN (valL (y.hH a) 2 b (d a))=true:=quh fun i hi=>qwj (qbj (h.rp a ha)).2.2 (zL hi (hd a ha));show WayP (itL (wyL (y.ah d) ((a*y.pn+b) / y.pn) ((a*y.pn+b) % y.pn))) (wyL (y.ah d) ((a*y.pn+b) / y.pn) ((a*y.pn+b) % y.pn)).length (valL (y.hH b) 3 a (d b)) (valL (y.hH a) 2 b (d a));rw [e1,e2];refine ⟨fun j _=>?_,hl,?_⟩
  ·have hv:numB (zi (wyL (y.ah d) a b) j)=true:=by
    show numB (zi ((valL (y.hH a) 2 b (d a)).drop (cnt (y.hH b) 3 a (d b))) j)=true;rw [qny];exact qna hnum _
   simp [qcc,itL,hv]
  ·rw [qok _ _ (Nat.le_refl _),List.take_length]
   show valL (y.hH b) 3 a (d b) ++ (valL (y.hH a) 2 b (d a)).drop (cnt (y.hH b) 3 a (d b))=valL (y.hH a) 2 b (d a);obtain ⟨t1,h1⟩:=qks (y.hH b) 3 a (d b) (y.hL b - d b);obtain ⟨t2,h2⟩:=qks (y.hH a) 2 b (d a) (y.hL a - d a);rw [show d b+(y.hL b - d b)=y.hL b by have:=hd b hb;omega] at h1;rw [show d a+(y.hL a - d a)=y.hL a by have:=hd a ha;omega] at h2;have e:=(h.wa a ha b hb).eq;rw [h1,h2] at e
   have hle:(valL (y.hH b) 3 a (d b)).length<=(valL (y.hH a) 2 b (d a)).length:=by
    rw [qey,qey];exact hw a ha b hb
   have e3:valL (y.hH b) 3 a (d b)=(valL (y.hH a) 2 b (d a)).take (valL (y.hH b) 3 a (d b)).length:=by
    have e4:=congrArg (List.take (valL (y.hH b) 3 a (d b)).length) e;rw [List.append_assoc,List.take_left,List.take_append_of_le_length hle] at e4;exact e4
   rw [<- qey (y.hH b) 3 a (d b)]
   conv=>lhs;lhs;rw [e3]
   exact List.take_append_drop _ _
 ·obtain ⟨dA,hA,hall⟩:=h.ro
  refine ⟨_,qu7 h hd hw hA,fun p hp=>?_⟩;have:=hall p hp;have h1:dA p=y.hL p:=this;have h2:=hd p hp;show min (dA p) (d p)=d p;omega
theorem qg5 {y:Sy} {p k:Int} (h:bkC y p k=0):y.Ok/\bkIn y p k=true/\(bkY y p k).Ok/\bkY y p k=y.atY (cN (bkE y p k))/\(∀ q,q<y.pn->cN (bkE y p k) q<=y.hL q)/\y.Wh (cN (bkE y p k)):=by
 unfold bkC at h;by_cases ho:y.okB=true
 ·rw [if_pos ho] at h
  by_cases hb:bkIn y p k=true
  ·rw [if_pos hb] at h
   by_cases hw:wfB (y.ah (cN (bkE y p k)))=true
   ·have hO:=Sy.ok_of ho
    have hc:=qcz hO hb;have hd:∀ q,q<y.pn->cN (bkE y p k) q<=y.hL q:=fun q hq=>(qge hc).leN hq
    have e:bkY y p k=y.atY (cN (bkE y p k)):=by
     unfold bkY;rw [if_pos ho,if_pos hb,if_pos hw]
    exact ⟨hO,hb,by rw [e];exact hO.atOk hd (qc4 hc).2 hw,e,hd,(qc4 hc).2⟩
   ·rw [if_neg hw] at h
    cases h
  ·rw [if_neg hb] at h
   cases h
 ·rw [if_neg ho] at h
  cases h
theorem Sy.Wh.congr {y:Sy} {c d:Nat->Nat} (h:y.Wh c) (e:∀ p,p<y.pn->d p=c p):y.Wh d:=fun a ha b hb=>by
 have:=h a ha b hb;unfold tN sN at *;rw [e a ha,e b hb];exact this
theorem qn0 {y:Sy} (hO:y.Ok) {P:Nat} (hP:P<y.pn):bkC y P (y.hL P)=0/\bkY y P (y.hL P)=y.atY (cN (flT y y.hn))/\∀ p,p<y.pn->cN (flT y y.hn) p=y.hL p/\(bkY y P (y.hL P)).sS p=y.sS p:=by
 have hh:=hO.cn.2.2.1
 have hz:∀ p,p<y.pn->cN (flT y y.hn) p=y.hL p:=fun p hp=>by
  unfold cN;rw [qmb (by omega)];omega
 have hl:bkL y P (y.hL P)=flT y y.hn:=by
  unfold bkL;refine qjn (by rw [List.length_set]) fun p hp=>?_;show zi ((flT y y.hn).set P (y.hL P)) p=zi (flT y y.hn) p;rw [qmc (by rw [qcq];omega)];by_cases e:p=P
  ·rw [if_pos e,e,qmb (by omega)]
  ·rw [if_neg e]
 have hc:y.Cut (flT y y.hn):=by
  rw [<- hl];exact qqj hO (by omega) (Int.le_refl _)
 have he:bkE y P (y.hL P)=flT y y.hn:=by
  unfold bkE;rw [Int.toNat_natCast,hl];exact qjf (qh0 hO hc) (Sy.Cl.start hc) (hO.whole.congr hz)
 have hin:bkIn y P (y.hL P)=true:=by
  simp only [bkIn,belB,inB,Bool.and_eq_true,decide_eq_true_eq,Int.toNat_natCast];omega
 have hwf:wfB (y.ah (cN (bkE y P (y.hL P))))=true:=by
  rw [he];exact hO.full_wf hz
 have e0:bkC y P (y.hL P)=0:=by
  unfold bkC;rw [if_pos (Sy.okB_true hO),if_pos hin,if_pos hwf]
 have e1:bkY y P (y.hL P)=y.atY (cN (flT y y.hn)):=by
  rw [(qg5 e0).2.2.2.1,he]
 refine ⟨e0,e1,fun p hp=>⟨hz p hp,?_⟩⟩;rw [e1];show resS (repO (y.pH p) (y.pL p) (y.hH p) (cN (flT y y.hn) p))=y.sS p;rw [hz p hp,hO.rp p hp];rfl
theorem qha {y:Sy} (hO:y.Ok) {P:Nat} (hP:P<y.pn) (k:Int) {q:Nat} (hq:q<y.pn):zi (bkL y P k) q=if q=P then k else (y.hL q:Int):=by
 have hh:=hO.cn.2.2.1;unfold bkL;rw [qmc (by rw [qcq];omega),qmb (by omega)]
theorem qpb {y:Sy} {p k j:Int} (h:bkC y p k=0) (hj:j<=k) (h1:bkC (bkY y p k) p j=0) (h2:bkC y p j=0):bkY (bkY y p k) p j=bkY y p j:=by
 obtain ⟨hO,hb,hO',ht,hd,hw⟩:=qg5 h;obtain ⟨-,hb1,-,ht1,hd1,hw1⟩:=qg5 h1;obtain ⟨-,hb2,-,ht2,hd2,hw2⟩:=qg5 h2;obtain ⟨P,rfl,hP,k0,k1⟩:=qcv hb;have hc:=qcz hO hb;have hc1:=qcz hO' hb1;have hc2:=qcz hO hb2;have e1:=(qc4 hc).1;have s1:=(qc4 hc1).1;have s2:=(qc4 hc2).1;have l2:0<=j:=(qcv hb2).choose_spec.2.2.1;have ep:(bkY y P k).pn=y.pn:=by rw [ht];rfl
 have eW:∀ c,(bkY y P k).Wh c ↔ y.Wh c:=fun c=>by rw [ht];exact Iff.rfl
 have eL:∀ q,(bkY y P k).hL q=cN (bkE y P k) q:=fun q=>by rw [ht];rfl
 rw [Int.toNat_natCast] at hc hc1 hc2 e1 s1 s2;have hP':P<(bkY y P k).pn:=by rw [ep];exact hP
 have za:∀ q,q<y.pn->0<=zi (bkE y P k) q:=fun q hq=>(e1.le q hq).1
 -- the greatest whole cut of each lies within the other
 have g1 : ∀ q, q < y.pn → (cN (bkE (bkY y P k) P j) q : Int) ≤ zi (bkE y P j) q := fun q hq => s2.gr _ (fun r hr => by
  have h3:=s1.le r (by rw [ep];exact hr);have h4:zi (bkL (bkY y P k) P j) r=_:=qha hO' hP' j (by rw [ep];exact hr);have h5:zi (bkL y P j) r=_:=qha hO hP j hr;have h6:=hd r hr;have h7:=za r hr;rw [h4] at h3;show ((zi (bkE (bkY y P k) P j) r).toNat:Int)<=zi (bkL y P j) r;rw [h5];rw [eL] at h3;have h8:zi (bkE (bkY y P k) P j) r=zi (clS (bkY y P k) (bkL (bkY y P k) P j)) r:=rfl;rw [<- h8] at h3;by_cases er:r=P
  ·rw [if_pos er] at h3 ⊢
   omega
  ·rw [if_neg er] at h3 ⊢
   omega) ((eW _).1 hw1) q hq
 have g2 : ∀ q, q < y.pn → (cN (bkE y P j) q : Int) ≤ zi (bkE (bkY y P k) P j) q := fun q hq => s1.gr _ (fun r hr => by
  have hr:r<y.pn:=by rw [<- ep];exact hr
  have h3:=s2.le r hr;have h4:zi (bkL (bkY y P k) P j) r=_:=qha hO' hP' j (by rw [ep];exact hr);have h5:zi (bkL y P j) r=_:=qha hO hP j hr;have h8:zi (bkE y P j) r=zi (clS y (bkL y P j)) r:=rfl;rw [<- h8,h5] at h3
  have h9 := e1.gr (cN (bkE y P j)) (fun s hs => by
   have t3:=s2.le s hs;have t5:zi (bkL y P j) s=_:=qha hO hP j hs;have t6:zi (bkL y P k) s=_:=qha hO hP k hs;have t8:zi (bkE y P j) s=zi (clS y (bkL y P j)) s:=rfl;rw [<- t8,t5] at t3;show ((zi (bkE y P j) s).toNat:Int)<=zi (bkL y P k) s;rw [t6];by_cases er:s=P
   ·rw [if_pos er] at t3 ⊢
    omega
   ·rw [if_neg er] at t3 ⊢
    omega) hw2 r hr
  have h10:zi (bkE y P k) r=zi (clS y (bkL y P k)) r:=rfl;rw [<- h10] at h9;have h7:=za r hr;show ((zi (bkE y P j) r).toNat:Int)<=zi (bkL (bkY y P k) P j) r;rw [h4,eL];have h11:((zi (bkE y P j) r).toNat:Int)<=zi (bkE y P k) r:=h9;show ((zi (bkE y P j) r).toNat:Int)<=if r=P then j else (((zi (bkE y P k) r).toNat:Nat):Int)
  by_cases er:r=P
  ·rw [if_pos er] at h3 ⊢
   omega
  ·rw [if_neg er] at h3 ⊢
   omega) ((eW _).2 hw2) q (by rw [ep];exact hq)
 have eE:bkE (bkY y P k) P j=bkE y P j:=by
  refine qjn (s1.len.trans (ep.trans s2.len.symm)) fun q hq=>?_
  have hq':q<y.pn:=by
   have h3:(bkE (bkY y P k) P j).length=(bkY y P k).pn:=s1.len;omega
  have h3:=g1 q hq';have h4:=g2 q hq';have h5:0<=zi (bkE (bkY y P k) P j) q:=(s1.le q (by rw [ep];exact hq')).1;have h6:0<=zi (bkE y P j) q:=(s2.le q hq').1;unfold cN at h3 h4;show zi (bkE (bkY y P k) P j) q=zi (bkE y P j) q;omega
 rw [ht1,ht2,eE,ht];rfl
theorem qlh (x:SysIn) (w:World) (hG:SysG w x) (hL:x.Len) (hV:w.cell? ⟨0,0,none⟩=some (.iface 181 (.agg #[.pointer (some ⟨1,126,none⟩)]))):
  Calls Tryz.prog 26 #[x.v] w fun e w'=>∃ u,e=.returned u/\OwnI w' w.heap.size u (flS x.y)/\Below w.heap.size w w':=by
 have HG:Hid (SysG w x):=hG;have hl':(x.hn:Int)<=1048576:=by have:=hL.h.1;omega
 have HLh:Hid (∀ i,i<x.hn->x.hL i<=1048576):=hL.h.2;have HS:Hid (∀ wx,Below w.heap.size w wx->Calls Tryz.prog 23 #[x.v] wx fun e w'=>e=.returned (.bool x.y.okB)/\Below wx.heap.size wx w'):=fun wx hb=>qdv x wx (hG.below hb) hL ((hb.cell (p:=⟨0,0,none⟩) (zJ w _ hV)).trans hV);have BW:Hid (Below w.heap.size w ((w.alloc (oQ4 x.pa x.pn x.pc x.sa x.sn x.sc x.wa x.wn x.wc x.ha x.hn x.hc)).alloc (.cells #[] 3))):=(zT _ _).trans ((zT _ _).mono (by simp));have NB:Hid (BoxC ((w.alloc (oQ4 x.pa x.pn x.pc x.sa x.sn x.sc x.wa x.wn x.wc x.ha x.hn x.hc)).alloc (.cells #[] 3)) w.heap.size (.slice x.pa x.pn x.pc) (.slice x.sa x.sn x.sc) (.slice x.wa x.wn x.wc) (.slice x.ha x.hn x.hc)):=(BoxC.new w _ _ _ _ _).below (zT _ _);have NO:Hid (OwnI ((w.alloc (oQ4 x.pa x.pn x.pc x.sa x.sn x.sc x.wa x.wn x.wc x.ha x.hn x.hc)).alloc (.cells #[] 3)) (w.heap.size+1) (.slice (some ⟨w.heap.size+1,0,none⟩) 0 0) []):=qcx (w.alloc (oQ4 x.pa x.pn x.pc x.sa x.sn x.sc x.wa x.wn x.wc x.ha x.hn x.hc)) (by simp)
 have LT:Hid (w.heap.size+1<=((w.alloc (oQ4 x.pa x.pn x.pc x.sa x.sn x.sc x.wa x.wn x.wc x.ha x.hn x.hc)).alloc (.cells #[] 3)).heap.size):=by
  show _<=_;simp
 clear hG hL hV
 go_enter Tryz.func26,Tryz.ntmps26
 go_wp2_with fail
 generalize (w.alloc (oQ4 x.pa x.pn x.pc x.sa x.sn x.sc x.wa x.wn x.wc x.ha x.hn x.hc)).alloc (.cells #[] 3)=W2 at *;refine (HS.out W2 BW.out).mono ?_;rintro e w1 ⟨rfl,q1⟩;have B1:Hid (OwnI w1 (w.heap.size+1) (.slice (some ⟨w.heap.size+1,0,none⟩) 0 0) []/\Below w.heap.size w w1/\BoxC w1 w.heap.size (.slice x.pa x.pn x.pc) (.slice x.sa x.sn x.sc) (.slice x.wa x.wn x.wc) (.slice x.ha x.hn x.hc)/\w.heap.size+1<=w1.heap.size):=⟨NO.out.below q1,BW.out.trans (q1.mono BW.out.size),NB.out.below q1,zP LT.out q1.size⟩
 clear q1 BW NB NO LT HS
 rcases zK x.y.okB with t | t
 case inr=>
  have HV:Hid (flS x.y=[]):=by
   show flS x.y=[];rw [flS,if_neg (by rw [t];simp)]
  rw [t];clear t;go_wp2;go_ret;rw [HV.out];exact ⟨_,rfl,B1.1.mono (by omega),B1.2.1⟩
 have HV:Hid (flS x.y=flT x.y x.hn):=if_pos t;rw [t];clear t;have b3:=B1.2.2.1.2.2.2;go_wp2_with fail
 clear b3
 go_loopw [3,14] (fun o i wr=>∃ k:Nat,k<=x.hn/\i=.int .i64 k/\Hid (OwnI wr (w.heap.size+1) o (flT x.y k)/\Below w.heap.size w wr/\BoxC wr w.heap.size (.slice x.pa x.pn x.pc) (.slice x.sa x.sn x.sc) (.slice x.wa x.wn x.wc) (.slice x.ha x.hn x.hc)/\w.heap.size+1<=wr.heap.size)) (fun _ i _=>x.hn - (intOf i).toNat)
 case atStart=>exact ⟨0,Nat.zero_le _,rfl,B1.out⟩
 case round=>
  clear B1;obtain ⟨k,hk,rfl,HB⟩:=hrel;by_cases hlt:k<x.hn
  ·have hlt':(k:Int)<(x.hn:Int):=by omega
   obtain ⟨bh,oh,eh,ch⟩:=(HG.out.below HB.2.1).h.at hlt;rw [eh];have EH:Hid (x.ha=some ⟨bh,oh,none⟩):=eh;clear eh;have hfl:=qcq x.y k;have hlk:(x.hL k:Int)<=1048576:=by have:=HLh.out k hlt;omega
   have HF:Hid (flT x.y (k+1)=flT x.y k ++ [(x.hL k:Int)]):=qn5 x.y k;have HFl:Hid ((flT x.y k).length<=1048576):=by show _<=_;omega
   clear hfl;go_wp2_with (at_builtin;refine qdh wr rfl _ _ rfl (w.heap.size+1) u3 (flT x.y k) rfl HB.1 (x.hL k:Int) rfl HFl.out HB.2.2.2 ?_;intro v' w4 o4 b4;have H4:Hid (OwnI w4 (w.heap.size+1) v' (flT x.y (k+1))/\Below w.heap.size w w4/\BoxC w4 w.heap.size (.slice x.pa x.pn x.pc) (.slice x.sa x.sn x.sc) (.slice x.wa x.wn x.wc) (.slice x.ha x.hn x.hc)/\w.heap.size+1<=w4.heap.size):=⟨o4.to HF.out,HB.2.1.trans (b4.mono (by omega)),HB.2.2.1.belowB b4 (by omega),zP HB.2.2.2 b4.size⟩;clear o4 b4)
   go_roundw
   case rel=>exact ⟨k+1,by omega,by go_num,by rw [<- EH.out];exact H4⟩
   case measure=>simp [intOf];omega
  ·have hkl:k=x.hn:=by omega
   have H4:Hid (OwnI wr w.heap.size u3 (flS x.y)/\Below w.heap.size w wr):=by
    have:=HB.out;rw [hkl] at this;rw [HV.out];exact ⟨this.1.mono (by omega),this.2.1⟩
   clear HB hkl;go_wp2;go_ret;exact ⟨_,rfl,H4.out⟩
theorem qp7 {w:World} {B:Nat} {a:Option Addr} {cap lo:Nat} {xs:List Int} (h:OwnI w B (.slice a xs.length cap) xs) (hl:lo<=xs.length):
  ∃ a',(∀ w',(Instr.slice 32 (.slice a xs.length cap) (some (.int .i64 (lo:Int))) none none).run Tryz.prog w'=.ok (.slice a' (xs.drop lo).length (cap - lo)) w')/\∀ k,k<(xs.drop lo).length->∃ g o,a'=some ⟨g,o,none⟩/\B<=g/\g<w.heap.size/\w.cell? ⟨g,o+k,none⟩=some (.int .i64 (zi (xs.drop lo) k)):=by
 have hl':(lo:Int)<=(xs.length:Int):=by omega
 rcases h.2 with ⟨e,h0⟩ | ⟨g,cp,cur,e,hb,hg,hnc,-⟩
 ·simp only [Value.slice.injEq] at e
  obtain ⟨rfl,-,rfl⟩:=e;have h00:lo=0:=by omega
  subst h00;refine ⟨none,fun w'=>?_,fun k hk=>?_⟩
  ·rw [h0]
   simp [go_sem,h0]
  ·simp at hk
   omega
 ·simp only [Value.slice.injEq] at e
  obtain ⟨rfl,-,rfl⟩:=e;by_cases hc:cap=lo
  ·refine ⟨some ⟨g,0,none⟩,fun w'=>?_,fun k hk=>?_⟩
   ·have e1:xs.length=lo:=by omega
    subst hc;simp [go_sem,e1]
   ·simp at hk
    omega
  ·refine ⟨some ⟨g,lo,none⟩,fun w'=>?_,fun k hk=>⟨g,lo,rfl,hb,(h.lt g rfl).2,?_⟩⟩
   ·simp [go_sem,hl',hc,Addr.add]
    exact fun h=>h.symm
   ·rw [qny]
    exact h.cell (by simp at hk;omega)
theorem qp9 (X hc:Nat) (ha:Option Addr) (hA:Nat->Option Addr) (hC:Nat->Nat) (y:Hs) (a b:Nat) (w:World) (c0:w.cell? ⟨X,0,none⟩=some (.slice ha y.n hc)) (hE:HisE w ha hA hC y) (hl:∀ i,i<y.n->y.l i<=200) (hbn:b<y.n):
  Calls Tryz.prog 83 #[.pointer (some ⟨X,0,none⟩),.int .i64 a,.int .i64 b] w fun e w'=>∃ a1 c1,e=.returned (.slice a1 (cnt (y.e b) 3 a (y.l b)) c1)/\Below w.heap.size w w':=by
 have HE:Hid (EvL w (hA b) (y.l b) (y.e b)):=hE.ev b hbn;have HLb:Hid (y.l b<=1048576):=by have:=hl b hbn;show _<=_;omega
 have hb':(b:Int)<(y.n:Int):=by omega
 obtain ⟨bh,oh,eh,ch⟩:=hE.row.at hbn;rw [eh] at c0;clear hE hl eh
 go_enter Tryz.func83,Tryz.ntmps83
 go_wp2_with fail
 refine (qc9 (hA b) (y.l b) _ (y.e b) 3 a w HLb.out HE.out).mono ?_;rintro e w1 ⟨v,rfl,o1,b1⟩;obtain ⟨a1,c1,rfl,-⟩:=o1.form;have O1:Hid (Below w.heap.size w w1):=b1;clear o1 b1 c0 ch;go_wp2;go_ret;exact ⟨_,_,by rw [qb6];rfl,O1.out⟩
theorem ql8 (X hc:Nat) (ha:Option Addr) (hA:Nat->Option Addr) (hC:Nat->Nat) (y:Hs) (a b:Nat) (w:World) (c0:w.cell? ⟨X,0,none⟩=some (.slice ha y.n hc)) (hE:HisE w ha hA hC y) (hl:∀ i,i<y.n->y.l i<=200) (han:a<y.n) (hbn:b<y.n) (hle:cnt (y.e b) 3 a (y.l b)<=cnt (y.e a) 2 b (y.l a)):
  Calls Tryz.prog 111 #[.pointer (some ⟨X,0,none⟩),.int .i64 a,.int .i64 b] w fun e w'=>∃ a1 c1,e=.returned (.slice a1 (wyL y a b).length c1)/\w'.ownsRow w.heap.size 88 2 (.slice a1 (wyL y a b).length c1) (wyL y a b).length (fT (itL (wyL y a b)) (wyL y a b).length)/\Value.slice a1 (wyL y a b).length c1≠.slice none 0 0/\Below w.heap.size w w':=by
 have HS:Hid (∀ wx,Below w.heap.size w wx->Calls Tryz.prog 85 #[.pointer (some ⟨X,0,none⟩),.int .i64 a,.int .i64 b] wx fun e w'=>∃ a1 c1,e=.returned (.slice a1 (valL (y.e a) 2 b (y.l a)).length c1)/\OwnI w' wx.heap.size (.slice a1 (valL (y.e a) 2 b (y.l a)).length c1) (valL (y.e a) 2 b (y.l a))/\Below wx.heap.size wx w'):=fun wx hb=>qlv X hc ha hA hC y a b wx ((hb.cell (p:=⟨X,0,none⟩) (zJ w _ c0)).trans c0) (hE.below hb) hl han;have HT:Hid (∀ wx,Below w.heap.size w wx->Calls Tryz.prog 83 #[.pointer (some ⟨X,0,none⟩),.int .i64 a,.int .i64 b] wx fun e w'=>∃ a1 c1,e=.returned (.slice a1 (cnt (y.e b) 3 a (y.l b)) c1)/\Below wx.heap.size wx w'):=fun wx hb=>qp9 X hc ha hA hC y a b wx ((hb.cell (p:=⟨X,0,none⟩) (zJ w _ c0)).trans c0) (hE.below hb) hl hbn
 have hlv:(valL (y.e a) 2 b (y.l a)).length<=200:=by
  rw [qb6];exact zP (qg7 _ _ _ _) (hl a han)
 have hle':cnt (y.e b) 3 a (y.l b)<=(valL (y.e a) 2 b (y.l a)).length:=by
  rw [qb6];exact hle
 have hzs:wyL y a b=(valL (y.e a) 2 b (y.l a)).drop (cnt (y.e b) 3 a (y.l b)):=rfl;rw [hzs];clear hzs c0 hE hl hle;generalize cnt (y.e b) 3 a (y.l b)=tn at *;generalize valL (y.e a) 2 b (y.l a)=xs at *;have HO0:Hid ((w.alloc (.cells #[] 88)).ownsRow w.heap.size 88 2 (.slice (some ⟨w.heap.size,0,none⟩) 0 0) 0 []):=World.ownsRow_made (base:=w.heap.size) (e:=88) (size:=2) w #[] 0 (Nat.le_refl _) (by unfold maxLen;omega) (by simp);have BW:Hid (Below w.heap.size w (w.alloc (.cells #[] 88))/\(w.alloc (.cells #[] 88)).heap.size=w.heap.size+1):=⟨zT _ _,by simp⟩
 have HLE:Hid (tn<=xs.length/\xs.length<=200):=⟨hle',hlv⟩
 clear hle'
 go_enter Tryz.func111,Tryz.ntmps111
 go_wp2_with fail
 generalize w.alloc (.cells #[] 88)=W1 at *;refine (HS.out W1 BW.1).mono ?_;rintro e w1 ⟨a1,c1,rfl,o1,q1⟩;have O1:Hid (OwnI w1 W1.heap.size (.slice a1 xs.length c1) xs/\Below W1.heap.size W1 w1):=⟨o1,q1⟩
 clear o1 q1 HS;go_wp2_with fail
 refine (HT.out w1 (BW.1.trans (O1.2.mono BW.1.size))).mono ?_;rintro e w2 ⟨a2,c2,rfl,q2⟩;obtain ⟨a3,ks,hcell⟩:=qp7 (O1.1.below q2) HLE.1;have HC:Hid (∀ k,k<(xs.drop tn).length->∃ g o,a3=some ⟨g,o,none⟩/\W1.heap.size<=g/\g<w2.heap.size/\w2.cell? ⟨g,o+k,none⟩=some (.int .i64 (zi (xs.drop tn) k))):=hcell;have hzl:(xs.drop tn).length<=200:=by rw [List.length_drop];omega
 have hzl':((xs.drop tn).length:Int)<=200:=by omega
 have O2:Hid (w2.ownsRow w.heap.size 88 2 (.slice (some ⟨w.heap.size,0,none⟩) 0 0) 0 []/\Below W1.heap.size W1 w2):=⟨qat HO0.out fun k hk=>(O1.2.trans (q2.mono O1.2.size)).block k (HO0.out.lt k hk).2,O1.2.trans (q2.mono O1.2.size)⟩
 generalize hzs:xs.drop tn=zs at *;have HZS:Hid (xs.drop tn=zs):=hzs;clear hcell q2 O1 HT HO0 hlv HLE hzs;go_wp2_with fail
 clear ks
 go_loopw [7,22] (fun o i wr=>∃ k:Nat,k<=zs.length/\i=.int .i64 k/\Hid (wr.ownsRow w.heap.size 88 2 o k (fT (itL zs) k)/\o≠.slice none 0 0/\(∀ j,o.ownBlock=some j->j=w.heap.size\/w2.heap.size<=j)/\Below w.heap.size w wr/\w2.heap.size<=wr.heap.size/\∀ g,W1.heap.size<=g->g<w2.heap.size->wr.heap[g]? = w2.heap[g]?)) (fun _ i _=>zs.length - (intOf i).toNat)
 case atStart=>exact ⟨0,Nat.zero_le _,rfl,O2.1,by simp,fun j hj=>by cases hj;exact .inl rfl,BW.1.trans (O2.2.mono BW.1.size),Nat.le_refl _,fun _ _ _=>rfl⟩
 case round=>
  clear O2;obtain ⟨k,hk,rfl,HB⟩:=hrel;by_cases hlt:k<zs.length
  ·have hlt':(k:Int)<(zs.length:Int):=by omega
   obtain ⟨g,o,rfl,hg1,hg2,ck⟩:=HC.out k hlt;have ck:wr.cell? ⟨g,o+k,none⟩=some (.int .i64 (zi zs k)):=(zH (HB.2.2.2.2.2 g hg1 hg2)).trans ck;have HK2:Hid (k<=2000000):=by show _<=_;omega
   have hgl:g<wr.heap.size:=by have:=HB.2.2.2.2.1;omega
   go_wp2_with (at_builtin; refine qan kndT wr rfl rfl _ _ rfl w.heap.size u7 k _ rfl HB.1 #[.bool false, .int .i64 (zi zs k)] rfl rfl (by intro u hu; simp at hu; rcases hu with rfl | rfl <;> rfl) HK2.out HB.2.2.2.1.size ?_; intro v5 w5 o5 g5 q5 n5; have F5 : Hid (w5.ownsRow w.heap.size 88 2 v5 (k + 1) (fT (itL zs) (k + 1)) ∧ v5 ≠ .slice none 0 0 ∧ (∀ j, v5.ownBlock = some j → j = w.heap.size ∨ w2.heap.size ≤ j) ∧ Below w.heap.size w w5 ∧ w2.heap.size ≤ w5.heap.size ∧ ∀ g, W1.heap.size ≤ g → g < w2.heap.size → w5.heap[g]? = w2.heap[g]?) := ⟨o5, n5, fun j hj => by
     rcases q5 j hj with h | h
     ·exact HB.2.2.1 j h
     ·exact .inr (Nat.le_trans HB.2.2.2.2.1 h), Below.grown HB.2.2.2.1 g5 HB.2.2.2.1.size (fun j hj => (HB.1.lt j hj).1), Nat.le_trans HB.2.2.2.2.1 g5.size, fun b h1 h2 => (g5.block b (Nat.lt_of_lt_of_le h2 HB.2.2.2.2.1) (fun hj => by
      have e1:=BW.2
      rcases HB.2.2.1 b hj.symm with h | h <;> omega)).trans (HB.2.2.2.2.2 b h1 h2)⟩;clear o5 g5 q5 n5)
   go_roundw
   case rel=>exact ⟨k+1,by omega,by go_num,F5.out⟩
   case measure=>simp [intOf];omega
  ·have hkn:k=zs.length:=by omega
   subst hkn;obtain ⟨a4,c4,rfl⟩:=zU HB.1;go_wp2;go_ret;rw [HZS.out];exact ⟨a4,c4,rfl,HB.1,HB.2.1,HB.2.2.2.1⟩
theorem qqd (X hc:Nat) (ha:Option Addr) (hA:Nat->Option Addr) (hC:Nat->Nat) (y:Hs) (w:World) (c0:w.cell? ⟨X,0,none⟩=some (.slice ha y.n hc)) (hE:HisE w ha hA hC y) (hl:∀ i,i<y.n->y.l i<=200) (h4:y.n<=4) (hle:∀ a,a<y.n->∀ b,b<y.n->cnt (y.e b) 3 a (y.l b)<=cnt (y.e a) 2 b (y.l a)):
  Calls Tryz.prog 95 #[.pointer (some ⟨X,0,none⟩)] w fun e w'=>∃ v u,e=.returned (.tuple #[v,.bool (wfB y)])/\(wfB y=true->LT true w' (fun k=>w.heap.size<=k/\k<w'.heap.size) v (y.n*y.n) u (fun i=>(wyL y (i / y.n) (i % y.n)).length) (fun i=>itL (wyL y (i / y.n) (i % y.n))))/\Below w.heap.size w w':=by
 have HU:Hid (∀ wx,Below w.heap.size w wx->∀ a b,a<y.n->b<y.n->Calls Tryz.prog 111 #[.pointer (some ⟨X,0,none⟩),.int .i64 (a:Nat),.int .i64 (b:Nat)] wx fun e w'=>∃ a1 c1,e=.returned (.slice a1 (wyL y a b).length c1)/\w'.ownsRow wx.heap.size 88 2 (.slice a1 (wyL y a b).length c1) (wyL y a b).length (fT (itL (wyL y a b)) (wyL y a b).length)/\Value.slice a1 (wyL y a b).length c1≠.slice none 0 0/\Below wx.heap.size wx w'):=fun wx hb a b ha' hb'=>ql8 X hc ha hA hC y a b wx ((hb.cell (p:=⟨X,0,none⟩) (zJ w _ c0)).trans c0) (hE.below hb) hl ha' hb' (hle a ha' b hb');have HC0:Hid (∀ wx,Below w.heap.size w wx->wx.cell? ⟨X,0,none⟩=some (.slice ha y.n hc)):=fun wx hb=>(hb.cell (p:=⟨X,0,none⟩) (zJ w _ c0)).trans c0;have hl':(y.n:Int)<=4:=by omega
 have HW:Hid (∀ a b,a<y.n->(wyL y a b).length<=200):=fun a b ha'=>by
  unfold wyL;rw [List.length_drop,qb6];have h1:=qg7 (y.e a) 2 b (y.l a);have h2:=hl a ha';omega
 have HF:Hid (wfB y=qB (∀ a,a<y.n->∀ b,b<y.n->(wyL y a b).length<=12)):=rfl;clear hE hl hle c0;generalize wfB y=R at *;obtain ⟨L,hLe⟩:∃ L:Nat->Nat,(fun i=>(wyL y (i / y.n) (i % y.n)).length)=L:=⟨_,rfl⟩
 obtain ⟨H,hHe⟩:∃ H:Nat->Nat->I2,(fun i=>itL (wyL y (i / y.n) (i % y.n)))=H:=⟨_,rfl⟩
 rw [hLe,hHe]
 have HLH:Hid (∀ k j,j<y.n->(wyL y k j).length=L (k*y.n+j)/\itL (wyL y k j)=H (k*y.n+j)):=fun k j hj=>by
  obtain ⟨e1,e2⟩:=qvs (a:=k) hj;rw [<- hLe,<- hHe];dsimp only;rw [e1,e2];exact ⟨rfl,rfl⟩
 clear hLe hHe
 go_enter Tryz.func95,Tryz.ntmps95
 have c1:=HC0.out (w.alloc (.cells #[] 64)) (zT _ _);go_wp2_with fail
 clear c1
 go_loopw [4,14] (fun v i wr=>∃ k:Nat,k<=y.n/\i=.int .i64 k/\Hid ((∃ u,LT true wr (fun b=>w.heap.size<=b/\b<wr.heap.size) v (k*y.n) u L H)/\Below w.heap.size w wr)/\Hid (∀ a,a<k->∀ b,b<y.n->(wyL y a b).length<=12)) (fun _ i _=>y.n - (intOf i).toNat)
 case atStart=>exact ⟨0,Nat.zero_le _,rfl,⟨⟨fun _=>.slice none 0 0,by rw [Nat.zero_mul];exact LL.new _ _ _ w _ (by simp) _ _ _⟩,zT _ _⟩,fun j hj=>by omega⟩
 case round=>
  obtain ⟨k,hk,rfl,HB,HK⟩:=hrel;by_cases hlt:k<y.n
  ·have hlt':(k:Int)<(y.n:Int):=by omega
   have c1:=HC0.out wr HB.2;go_wp2_with fail
   clear c1
   go_loopw [4,22] (fun v i wr=>∃ j:Nat,j<=y.n/\i=.int .i64 j/\Hid ((∃ u,LT true wr (fun b=>w.heap.size<=b/\b<wr.heap.size) v (k*y.n+j) u L H)/\Below w.heap.size w wr)/\Hid (∀ b,b<j->(wyL y k b).length<=12)) (fun _ i _=>y.n - (intOf i).toNat)
   case atStart=>exact ⟨0,Nat.zero_le _,rfl,HB.out,fun j hj=>by omega⟩
   case round=>
    clear HB;obtain ⟨j,hj,rfl,HB,HJ⟩:=hrel;by_cases hjt:j<y.n
    ·have hjt':(j:Int)<(y.n:Int):=by omega
     go_wp2_with fail
     refine (HU.out _ HB.2 k j hlt hjt).mono ?_;rintro e w3 ⟨a3,c3,rfl,o3,n3,q3⟩;have hm:=HW.out k j hlt;by_cases ho:12<(wyL y k j).length
     ·have HV:Hid (R=false):=by
       show R=false;rw [HF.out]
       exact qaw fun h=>by
        have h1:=h k hlt j hjt;omega
      have ho':(12:Int)<((wyL y k j).length:Int):=by omega
      have B3:Hid (Below w.heap.size w w3):=HB.2.trans (q3.mono HB.2.size);generalize (wyL y k j).length=m at *;clear o3 n3 q3 HB;go_wp2;exact bodyPost_ret (v:=.tuple #[.slice none 0 0,.bool false]) (by simp [results,Tryz.results95,go_sem]) rfl ⟨_,fun _=>.slice none 0 0,by rw [HV.out],fun h=>(by rw [HV.out] at h;cases h),B3.out⟩
     ·have ho':¬ (12:Int)<((wyL y k j).length:Int):=by omega
      have HJ':Hid (∀ b,b<j+1->(wyL y k b).length<=12):=fun b hb=>by
       by_cases e:b=j
       ·subst e
        omega
       ·exact HJ.out b (by omega)
      rw [(HLH.out k j hjt).1,(HLH.out k j hjt).2] at o3;rw [(HLH.out k j hjt).1] at n3 ho' hm ⊢;have h16:k*y.n<=4*4:=Nat.mul_le_mul (by omega) h4;have HK2:Hid (k*y.n+j<=2000000):=by show _<=_;omega
      have F4:Hid (w3.ownsRow wr.heap.size 88 2 (.slice a3 (L (k*y.n+j)) c3) (L (k*y.n+j)) (fT (H (k*y.n+j)) (L (k*y.n+j)))/\Below wr.heap.size wr w3/\Value.slice a3 (L (k*y.n+j)) c3≠.slice none 0 0):=⟨o3,q3,n3⟩
      obtain ⟨⟨u,oz⟩,bz⟩:=HB.out;have OZ:Hid (LT true wr (fun b=>w.heap.size<=b/\b<wr.heap.size) u4 (k*y.n+j) u L H):=oz;have BZ:Hid (Below w.heap.size w wr):=bz;clear HJ o3 n3 q3 ho oz bz HB h16;generalize hkk:k*y.n+j=kk at *;have HKK:Hid (k*y.n+j=kk):=hkk;clear hkk;go_wp2_with (at_builtin;refine qan qm0 w3 rfl rfl _ _ rfl 0 u4 kk _ rfl (OZ.out.below F4.2.1).row #[.slice a3 (L kk) c3] rfl rfl (by intro u hu;simp at hu;subst hu;rfl) HK2.out (Nat.zero_le _) ?_;intro v5 w5 o5 g5 q5 n5;have F5:Hid (LT true w5 (fun b=>w.heap.size<=b/\b<w5.heap.size) v5 (kk+1) (fun j=>if j=kk then .slice a3 (L kk) c3 else u j) L H/\Below w.heap.size w w5):=⟨OZ.out.push F4.2.1 F4.1 (fun _=>F4.2.2) o5 g5 q5 (fun j hj _=>⟨hj.1,zL hj.2 (zP F4.2.1.size g5.size)⟩) (fun j hj hj'=>⟨zP BZ.out.size hj,hj'⟩),Below.grown (BZ.out.trans (F4.2.1.mono BZ.out.size)) g5 (zP BZ.out.size F4.2.1.size) (fun j hj=>(OZ.out.rb j hj).1)⟩;clear o5 g5 q5 n5)
      go_roundw
      case rel=>exact ⟨j+1,by omega,by go_num,⟨⟨_,by rw [<- Nat.add_assoc,HKK.out];exact F5.1⟩,F5.2⟩,HJ'.out⟩
      case measure=>simp [intOf];omega
    ·have HK':Hid (∀ a,a<k+1->∀ b,b<y.n->(wyL y a b).length<=12):=fun a ha b hb=>by
      by_cases e:a=k
      ·subst e
       exact HJ.out b (by omega)
      ·exact HK.out a (by omega) b hb
     have hjn:j=y.n:=by omega
     have HB':Hid ((∃ u,LT true wr (fun b=>w.heap.size<=b/\b<wr.heap.size) u4 ((k+1)*y.n) u L H)/\Below w.heap.size w wr):=by
      have:=HB.out;rw [hjn] at this;rw [Nat.add_mul,Nat.one_mul];exact this
     clear HK HJ HB hjn;go_wp2;go_roundw
     case rel=>exact ⟨k+1,by omega,by go_num,HB'.out,HK'.out⟩
     case measure=>simp [intOf];omega
  ·have HV:Hid (R=true):=by
    show R=true;rw [HF.out];exact qa4 fun a ha b hb=>HK.out a (by omega) b hb
   have hkn:k=y.n:=by omega
   subst hkn;obtain ⟨⟨u,oz⟩,bz⟩:=HB.out;have OZ:Hid (LT true wr (fun b=>w.heap.size<=b/\b<wr.heap.size) u4 (y.n*y.n) u L H/\Below w.heap.size w wr):=⟨oz,bz⟩
   clear HK HB oz bz;go_wp2;exact bodyPost_ret (v:=.tuple #[u4,.bool true]) (by simp [results,Tryz.results95,go_sem]) rfl ⟨_,u,by rw [HV.out],fun _=>OZ.1,OZ.2⟩
theorem AtP.start {z:Bool} {B m3 m1:Nat} {w3 w1:World} {y:Sy} {vp vw:Value} {up uw:Nat->Value} (o3:LT z w3 (fun k=>m3<=k/\k<w3.heap.size) vw y.wn uw y.wL y.wH) (o1:LI z w1 (fun k=>m1<=k/\k<w1.heap.size) vp y.pn up y.pL y.pH) (hb:Below w3.heap.size w3 w1) (h1:w3.heap.size<=m1) (hB:B<=m3) (h3:m3<=w3.heap.size):
  ∃ c,AtP z B w1.heap.size c { y with sn:=0,hn:=0 } (w1.alloc (.cells #[vp,.slice none 0 0,vw,.slice none 0 0] 29)) vp (.slice none 0 0) vw (.slice none 0 0) up (fun _=>.slice none 0 0) uw (fun _=>.slice none 0 0):=by
 have hs:=hb.size;have ba:=zQ w1 (.cells #[vp,.slice none 0 0,vw,.slice none 0 0] 29);refine ⟨fun k=>if k=w1.heap.size then 0 else if k<w3.heap.size then 3 else 1,BoxC.new w1 _ _ _ _ _,fun j=>yD _ _ _ _ rfl,if_pos rfl,by omega,?_,LS.nil _ _ _ _,?_,LL.nil _ _ _ _ _ _ _ _⟩
 ·refine (o1.mono fun k hk _=>⟨by omega,?_⟩).below ba
  show (if k=w1.heap.size then 0 else if k<w3.heap.size then 3 else 1)=1;rw [if_neg (by omega),if_neg (by omega)]
 ·refine ((o3.mono fun k hk _=>⟨by omega,?_⟩).below hb).below ba
  show (if k=w1.heap.size then 0 else if k<w3.heap.size then 3 else 1)=3;rw [if_neg (by omega),if_pos (by omega)]
def Sy.Rpl (y:Sy) (d:Nat->Nat):Prop:=∀ p,p<y.pn->(repO (y.pH p) (y.pL p) (y.hH p) (d p)).isSome=true
noncomputable def ctB (y:Sy) (d:Nat->Nat):Bool:=qB (y.Wh d) && (wfB (y.ah d) && qB (y.Rpl d))
noncomputable def ctS (y:Sy) (d:Nat->Nat):Sy:=if ctB y d=true then y.atY d else y.nil
theorem qv2 {y:Sy} {d:Nat->Nat} (h:¬ y.Wh d):ctB y d=false:=by
 unfold ctB;rw [qaw h];rfl
theorem qv3 {y:Sy} {d:Nat->Nat} (h:wfB (y.ah d)=false):ctB y d=false:=by
 unfold ctB;rw [h];simp
theorem qv4 {y:Sy} {d:Nat->Nat} (h:¬ y.Rpl d):ctB y d=false:=by
 unfold ctB;rw [qaw h];simp
theorem qv5 {y:Sy} {d:Nat->Nat} (h1:y.Wh d) (h2:wfB (y.ah d)=true) (h3:y.Rpl d):ctB y d=true:=by
 unfold ctB;rw [qa4 h1,h2,qa4 h3];rfl
theorem qso (y:Sy) (d:Nat->Nat):(∀ a,a<(y.ah d).n->∀ b,b<(y.ah d).n->nthV ((y.ah d).e b) 3 a ((y.ah d).l b) (cnt ((y.ah d).e a) 2 b ((y.ah d).l a):Nat)<0) ↔ y.Wh d:=
 ⟨fun h a ha b hb=>(qe9 (y:=y) (c:=d)).1 (h a ha b hb),fun h a ha b hb=>(qe9 (y:=y) (c:=d)).2 (h a ha b hb)⟩
theorem qmn (X hc0:Nat) (ea:Option Addr) (eA:Nat->Option Addr) (eC:Nat->Nat) (y:Sy) (d:Nat->Nat) (pa:Option Addr) (pc:Nat) (pA:Nat->Option Addr) (pC:Nat->Nat) (w:World) (c0:w.cell? ⟨X,0,none⟩=some (.slice ea y.pn hc0)) (hE:HisE w ea eA eC (y.ah d)) (hl:∀ i,i<y.pn->d i<=200) (h4:y.pn<=4) (hP:RowS w pa y.pn fun i=>.slice (pA i) (y.pL i) (pC i)) (hI:∀ i,i<y.pn->∃ b,pA i=some ⟨b,0,none⟩/\b<w.heap.size/\qaq w b 0 (y.pL i) (y.pH i)) (hpl:∀ i,i<y.pn->y.pL i<=1048576) (hV:w.cell? ⟨0,0,none⟩=some (.iface 181 (.agg #[.pointer (some ⟨1,126,none⟩)]))):
  Calls Tryz.prog 61 #[.pointer (some ⟨X,0,none⟩),.slice pa y.pn pc] w fun e w'=>∃ v,e=.returned (.tuple #[v,.bool (ctB y d)])/\qac true w' w.heap.size (ctS y d) v/\Below w.heap.size w w':=by
 have HVx:Hid (∀ wx,Below w.heap.size w wx->wx.cell? ⟨0,0,none⟩=some (.iface 181 (.agg #[.pointer (some ⟨1,126,none⟩)]))):=fun wx hb=>(hb.cell (p:=⟨0,0,none⟩) (zJ w _ hV)).trans hV
 have HX3 : Hid (∀ wx, Below w.heap.size w wx → wx.cell? ⟨X, 0, none⟩ = some (.slice ea y.pn hc0) ∧ HisE wx ea eA eC (y.ah d) ∧ RowS wx pa y.pn (fun i => .slice (pA i) (y.pL i) (pC i)) ∧ ∀ i, i < y.pn → ∃ b, pA i = some ⟨b, 0, none⟩ ∧ b < wx.heap.size ∧ qaq wx b 0 (y.pL i) (y.pH i)) := fun wx hb => ⟨(hb.cell (p := ⟨X, 0, none⟩) (World.block_lt_of_cell? w _ c0)).trans c0, hE.below hb, hP.below hb, fun i hi => by
  obtain ⟨b,e,hlt,hI⟩:=hI i hi
  exact ⟨b,e,zL hlt hb.size,hI.below hb hlt⟩⟩
 have HWh:Hid (∀ wx,Below w.heap.size w wx->Calls Tryz.prog 94 #[.pointer (some ⟨X,0,none⟩)] wx fun e w'=>e=.returned (.bool (qB (y.Wh d)))/\Below wx.heap.size wx w'):=fun wx hb=>by
  have h:=qlj X hc0 ea eA eC (y.ah d) wx (HX3.out wx hb).1 (HX3.out wx hb).2.1 (fun i hi=>hl i hi) h4
  have e:qB (y.Wh d)=qB (∀ a,a<(y.ah d).n->∀ b,b<(y.ah d).n->nthV ((y.ah d).e b) 3 a ((y.ah d).l b) (cnt ((y.ah d).e a) 2 b ((y.ah d).l a):Nat)<0):=by
   by_cases hw:y.Wh d
   ·rw [qa4 hw,qa4 ((qso y d).2 hw)]
   ·rw [qaw hw,qaw fun h=>hw ((qso y d).1 h)]
  rw [e];exact h
 have HW:Hid (y.Wh d->∀ wx,Below w.heap.size w wx->Calls Tryz.prog 95 #[.pointer (some ⟨X,0,none⟩)] wx fun e w'=>∃ v u,e=.returned (.tuple #[v,.bool (wfB (y.ah d))])/\(wfB (y.ah d)=true->LT true w' (fun k=>wx.heap.size<=k/\k<w'.heap.size) v (y.atY d).wn u (y.atY d).wL (y.atY d).wH)/\Below wx.heap.size wx w'):=fun hw wx hb=>qqd X hc0 ea eA eC (y.ah d) wx (HX3.out wx hb).1 (HX3.out wx hb).2.1 (fun i hi=>hl i hi) h4 (fun a ha b hb=>hw a ha b hb)
 have HP : Hid (∀ wx, Below w.heap.size w wx → Calls Tryz.prog 56 #[.slice pa y.pn pc] wx fun e w' => ∃ v u, e = .returned v ∧ LI true w' (fun k => wx.heap.size ≤ k ∧ k < w'.heap.size) v y.pn u y.pL y.pH ∧ Below wx.heap.size wx w') := fun wx hb => qd3 pa y.pn pc pA y.pL pC y.pH wx (by omega) hpl (HX3.out wx hb).2.2.1 (fun i hi => by
  obtain ⟨b,e,hlt,hI⟩:=(HX3.out wx hb).2.2.2 i hi
  exact ⟨b,0,e,by rw [e];exact srcI hlt hI⟩)
 have HR:Hid (∀ wx,Below w.heap.size w wx->∀ p,p<y.pn->Calls Tryz.prog 79 #[.slice (pA p) (y.pL p) (pC p),.slice (eA p) (d p) (eC p)] wx (qc1 wx ((y.atY d).sS p) (repO (y.pH p) (y.pL p) (y.hH p) (d p)).isSome)):=fun wx hb p hp=>by
  obtain ⟨b,e,hlt,hI⟩:=(HX3.out wx hb).2.2.2 p hp;rw [e];exact qg6 b (y.pL p) (pC p) (eA p) (d p) (eC p) (y.pH p) (y.hH p) wx (by have:=hpl p hp;unfold maxLen;omega) hlt hI ((HX3.out wx hb).2.1.ev p hp) (by have:=hl p hp;omega) (HVx.out wx hb)
 have HK:Hid (∀ wx,Below w.heap.size w wx->∀ p,p<y.pn->Calls Tryz.prog 96 #[.slice (eA p) (d p) (eC p)] wx fun e w'=>∃ a1 c1,e=.returned (.slice a1 (d p) c1)/\w'.ownsRow wx.heap.size 61 3 (.slice a1 (d p) c1) (d p) (fE (y.hH p) (d p))/\Value.slice a1 (d p) c1≠.slice none 0 0/\Below wx.heap.size wx w'):=fun wx hb p hp=>qhz (eA p) (d p) (eC p) (y.hH p) wx (by have:=hl p hp;omega) (srcE ((HX3.out wx hb).2.1.ev p hp));have HN:Hid (y.pn<=4):=h4;have BW:Hid (Below w.heap.size w (w.alloc (zQ3))):=zQ _ _;have RB:Hid (BoxC (w.alloc (zQ3)) w.heap.size (.slice none 0 0) (.slice none 0 0) (.slice none 0 0) (.slice none 0 0)/\∀ j,(w.alloc (zQ3)).frozen? ⟨w.heap.size,j,none⟩=false):=⟨BoxC.new w _ _ _ _ _,fun j=>yD _ _ _ _ (by simp)⟩
 have hM:w.heap.size<=w.heap.size:=Nat.le_refl _;have HNO:Hid (ctB y d=false->ctS y d=y.nil):=fun h=>if_neg (by rw [h];simp);have HYES:Hid (ctB y d=true->ctS y d=y.atY d):=fun h=>if_pos h;have HC1:Hid (qB (y.Wh d)=false->ctB y d=false):=fun h=>qv2 fun hw=>by rw [qa4 hw] at h;cases h
 have HC2:Hid (wfB (y.ah d)=false->ctB y d=false):=qv3;have HC3:Hid (¬ y.Rpl d->ctB y d=false):=qv4;have HC4:Hid (qB (y.Wh d)=true->wfB (y.ah d)=true->y.Rpl d->ctB y d=true):=fun h1=>qv5 (qls.1 h1);have HW':Hid (qB (y.Wh d)=true->∀ wx,Below w.heap.size w wx->Calls Tryz.prog 95 #[.pointer (some ⟨X,0,none⟩)] wx fun e w'=>∃ v u,e=.returned (.tuple #[v,.bool (wfB (y.ah d))])/\(wfB (y.ah d)=true->LT true w' (fun k=>wx.heap.size<=k/\k<w'.heap.size) v (y.atY d).wn u (y.atY d).wL (y.atY d).wH)/\Below wx.heap.size wx w'):=fun h=>HW.out (qls.1 h);clear c0 hE hl h4 hP hI hpl hV HW;generalize qB (y.Wh d)=tw at *;generalize wfB (y.ah d)=wf at *;generalize ctB y d=R at *;generalize ctS y d=RS at *
 go_enter Tryz.func61,Tryz.ntmps61
 go_wp2_with fail
 generalize w.alloc (zQ3)=W2 at *;refine (HWh.out W2 BW.out).mono ?_;rintro e w1 ⟨rfl,q1⟩;have B1:Hid (Below w.heap.size w w1/\BoxC w1 w.heap.size (.slice none 0 0) (.slice none 0 0) (.slice none 0 0) (.slice none 0 0)/\∀ j,w1.frozen? ⟨w.heap.size,j,none⟩=false):=⟨BW.out.trans (q1.mono BW.out.size),RB.1.below q1,fun j=>((qag q1).2 _ j (zJ _ _ RB.1.1)).trans (RB.2 j)⟩
 clear q1 BW RB HWh;have l1:w.heap.size<w1.heap.size:=zJ _ _ B1.2.1.1;cases tw with
 | false=>
  have HV:Hid (R=false/\RS=y.nil):=⟨HC1.out rfl,HNO.out (HC1.out rfl)⟩
  obtain ⟨⟨r0,r1,r2,r3⟩,rf⟩:=B1.2;clear HC1 HC2 HC3 HC4 HNO HYES HX3 HW' HP HR HK HVx;go_wp2;exact bodyPost_ret (v:=.tuple #[sysV none 0 0 none 0 0 none 0 0 none 0 0,.bool false]) (by simp [results,Tryz.results61,go_sem,r0,r1,r2,r3]) rfl ⟨_,by rw [HV.1],by rw [HV.2];exact qac.zero _ _ _,(((B1.1.setCell hM _).setCell hM _).setCell hM _).setCell hM _⟩
 | true=>
  have HWa:Hid (∀ wx,Below w.heap.size w wx->Calls Tryz.prog 95 #[.pointer (some ⟨X,0,none⟩)] wx fun e w'=>∃ v u,e=.returned (.tuple #[v,.bool wf])/\(wf=true->LT true w' (fun k=>wx.heap.size<=k/\k<w'.heap.size) v (y.atY d).wn u (y.atY d).wL (y.atY d).wH)/\Below wx.heap.size wx w'):=HW'.out rfl;have HC5:Hid (wf=true->y.Rpl d->R=true):=HC4.out rfl;clear HC1 HC4 HW';go_wp2_with fail
  refine (HWa.out w1 B1.1).mono ?_;rintro e w4 ⟨v4,u4,rfl,o4,q4⟩;have F4:Hid ((wf=true->LT true w4 (fun k=>w1.heap.size<=k/\k<w4.heap.size) v4 (y.atY d).wn u4 (y.atY d).wL (y.atY d).wH)/\Below w1.heap.size w1 w4):=⟨o4,q4⟩
  clear o4 q4 HWa;cases wf with
  | false=>
   have HV:Hid (R=false/\RS=y.nil):=⟨HC2.out rfl,HNO.out (HC2.out rfl)⟩
   obtain ⟨r0,r1,r2,r3⟩:=B1.2.1.below F4.2;have rf:∀ j,w4.frozen? ⟨w.heap.size,j,none⟩=false:=fun j=>((qag F4.2).2 _ j l1).trans (B1.2.2 j);have Q4:Hid (Below w.heap.size w w4):=B1.1.trans (F4.2.mono B1.1.size);clear HC2 HC3 HC5 HNO HYES HX3 HP HR HK HVx F4;go_wp2;exact bodyPost_ret (v:=.tuple #[sysV none 0 0 none 0 0 none 0 0 none 0 0,.bool false]) (by simp [results,Tryz.results61,go_sem,r0,r1,r2,r3]) rfl ⟨_,by rw [HV.1],by rw [HV.2];exact qac.zero _ _ _,(((Q4.out.setCell hM _).setCell hM _).setCell hM _).setCell hM _⟩
  | true=>
   have HC6:Hid (y.Rpl d->R=true):=HC5.out rfl;have O4:Hid (LT true w4 (fun k=>w1.heap.size<=k/\k<w4.heap.size) v4 (y.atY d).wn u4 (y.atY d).wL (y.atY d).wH/\Below w1.heap.size w1 w4):=⟨F4.1 rfl,F4.2⟩
   clear HC2 HC5 F4;obtain ⟨a4,c4,rfl⟩:=zU O4.1.row;go_wp2_with fail
   refine (HP.out w4 (B1.1.trans (O4.2.mono B1.1.size))).mono ?_;rintro e w5 ⟨v5,uu5,rfl,o5,q5⟩;obtain ⟨a5,c5,rfl⟩:=zU o5.row;obtain ⟨cl5,st5⟩:=AtP.start (z:=true) (B:=w1.heap.size) (y:=y.atY d) O4.1 o5 q5 (Nat.le_refl _) (Nat.le_refl _) O4.2.size;have F5:Hid (AtP true w1.heap.size w5.heap.size cl5 { y.atY d with sn:=0,hn:=0 } (w5.alloc (oQ4 a5 y.pn c5 none 0 0 a4 (y.atY d).wn c4 none 0 0)) (.slice a5 y.pn c5) (.slice none 0 0) (.slice a4 (y.atY d).wn c4) (.slice none 0 0) uu5 (fun _=>.slice none 0 0) u4 (fun _=>.slice none 0 0)/\Below w1.heap.size w1 (w5.alloc (oQ4 a5 y.pn c5 none 0 0 a4 (y.atY d).wn c4 none 0 0))):=⟨st5,(O4.2.trans (q5.mono O4.2.size)).trans ((zQ _ _).mono (zP O4.2.size q5.size))⟩
   clear o5 q5 st5 HP;go_upto_region 7 with fail
   clear O4;generalize w5.alloc (oQ4 a5 y.pn c5 none 0 0 a4 (y.atY d).wn c4 none 0 0)=W5 at *;generalize hNN:w5.heap.size=N at *;clear hNN w5;have HX4:Hid (∀ wx,Below w1.heap.size w1 wx->Below w.heap.size w wx/\BoxC wx w.heap.size (.slice none 0 0) (.slice none 0 0) (.slice none 0 0) (.slice none 0 0)/\(∀ j,wx.frozen? ⟨w.heap.size,j,none⟩=false)/\w1.heap.size<=wx.heap.size):=fun wx hb=>⟨B1.1.trans (hb.mono B1.1.size),B1.2.1.below hb,fun j=>((qag hb).2 _ j l1).trans (B1.2.2 j),hb.size⟩
   have HL1:Hid (w.heap.size<w1.heap.size):=l1;clear B1 l1;have hn':(y.pn:Int)<=4:=by have:=HN.out;omega
   have hx0:=(HX3.out _ (HX4.out _ F5.2).1).1;go_wp2_with fail
   clear hx0
   go_loopw [34] (fun i wr=>∃ k:Nat,k<=y.pn/\i=.int .i64 k/\Hid ((∃ cl vs vh us uh,AtP true w1.heap.size N cl { y.atY d with sn:=k,hn:=k } wr (.slice a5 y.pn c5) vs (.slice a4 (y.atY d).wn c4) vh uu5 us u4 uh)/\Below w1.heap.size w1 wr)/\Hid (∀ p,p<k->(repO (y.pH p) (y.pL p) (y.hH p) (d p)).isSome=true)) (fun i _=>y.pn - (intOf i).toNat)
   case atStart=>exact ⟨0,Nat.zero_le _,rfl,⟨⟨_,_,_,_,_,F5.1⟩,F5.2⟩,fun p hp=>by omega⟩
   case round=>
    clear F5;obtain ⟨k,hk,rfl,HZ,HPs⟩:=hrel;by_cases hlt:k<y.pn
    ·have hlt':(k:Int)<(y.pn:Int):=by omega
     obtain ⟨hbw,-,-,hle3⟩:=HX4.out wr HZ.2;obtain ⟨-,hrw,hpw,-⟩:=HX3.out wr hbw;have RW:Hid (Below w.heap.size w wr):=hbw;obtain ⟨be,oe,rfl,ce⟩:=hrw.row.at hlt;obtain ⟨bp,op,rfl,cp⟩:=hpw.at hlt;obtain ⟨⟨cl,vs,vh,us,uh,hA⟩,hbz⟩:=HZ.out;have AP:Hid (AtP true w1.heap.size N cl { y.atY d with sn:=k,hn:=k } wr (.slice a5 y.pn c5) vs (.slice a4 (y.atY d).wn c4) vh uu5 us u4 uh):=hA;have BZ:Hid (Below w1.heap.size w1 wr):=hbz;clear hA hbz HZ hle3 hbw hrw hpw;replace ce:wr.cell? ⟨be,oe+k,none⟩=some (.slice (eA k) (d k) (eC k)):=ce;go_wp2_with fail
     refine (HR.out wr RW.out k hlt).mono ?_;rintro e w6 ⟨v6,rfl,o6,q6⟩;obtain ⟨ra1,rc1,oa1,oc1,rfl,-,-⟩:=o6.read;clear ce cp;have S6:Hid (qaf w6 wr.heap.size (stV ((y.atY d).sS k).p ra1 ((y.atY d).sS k).rs.length rc1 oa1 ((y.atY d).sS k).os.length oc1 ((y.atY d).sS k).c) ((y.atY d).sS k).p ((y.atY d).sS k).rs ((y.atY d).sS k).os ((y.atY d).sS k).c/\Below wr.heap.size wr w6):=⟨o6,q6⟩
     clear o6 q6;generalize hTT:(y.atY d).sS k=T at *;have HTT:Hid ((y.atY d).sS k=T):=hTT;clear hTT;generalize hrb:(repO (y.pH k) (y.pL k) (y.hH k) (d k)).isSome=rb at *;have HRB:Hid ((repO (y.pH k) (y.pL k) (y.hH k) (d k)).isSome=rb):=hrb;clear hrb;have N7:Hid (BoxC (w6.alloc (oQ1 T.p ra1 T.rs.length rc1 oa1 T.os.length oc1 T.c)) w6.heap.size (.int .i64 T.p) (.slice ra1 T.rs.length rc1) (.slice oa1 T.os.length oc1) (.int .i64 T.c)/\Below wr.heap.size wr (w6.alloc (oQ1 T.p ra1 T.rs.length rc1 oa1 T.os.length oc1 T.c))/\qaf (w6.alloc (oQ1 T.p ra1 T.rs.length rc1 oa1 T.os.length oc1 T.c)) wr.heap.size (stV T.p ra1 T.rs.length rc1 oa1 T.os.length oc1 T.c) T.p T.rs T.os T.c):=⟨BoxC.new w6 _ _ _ _ _,S6.2.trans ((zQ _ _).mono S6.2.size),S6.1.below (zQ _ _)⟩
     go_upto_region 11 with fail
     clear S6;generalize w6.alloc (oQ1 T.p ra1 T.rs.length rc1 oa1 T.os.length oc1 T.c)=w7 at *;generalize hN7:w6.heap.size=S7 at *;clear hN7 w6;cases rb with
     | false=>
      have hnr:¬ y.Rpl d:=fun h=>by
       have h1:=h k hlt;rw [HRB.out] at h1;cases h1
      have HV:Hid (R=false/\RS=y.nil):=⟨HC3.out hnr,HNO.out (HC3.out hnr)⟩
      have Q7:Hid (Below w1.heap.size w1 w7):=BZ.out.trans (N7.2.1.mono BZ.out.size);obtain ⟨hb7,⟨r0,r1,r2,r3⟩,rf,-⟩:=HX4.out w7 Q7.out;have B7:Hid (Below w.heap.size w w7):=hb7;clear hb7 hnr HC3 HC6 HNO HYES HX3 HX4 HR HK HVx AP BZ N7 RW HRB HTT HPs;go_wp2;exact bodyPost_ret (v:=.tuple #[sysV none 0 0 none 0 0 none 0 0 none 0 0,.bool false]) (by simp [results,Tryz.results61,go_sem,r0,r1,r2,r3]) rfl ⟨_,by rw [HV.1],by rw [HV.2];exact qac.zero _ _ _,(((B7.out.setCell hM _).setCell hM _).setCell hM _).setCell hM _⟩
     | true=>
      have HPs':Hid (∀ p,p<k+1->(repO (y.pH p) (y.pL p) (y.hH p) (d p)).isSome=true):=fun p hp=>by
       by_cases e:p=k
       ·subst e
        exact HRB.out
       ·exact HPs.out p (by omega)
      clear HPs HRB;go_upto_region 13 with fail
      obtain ⟨sa,sc,rfl⟩:=zU AP.out.o.s.row;obtain ⟨ha,hc,rfl⟩:=zU AP.out.o.h.row;obtain ⟨x0,x1,x2,x3⟩:=(AP.out.below N7.2.1).bx;obtain ⟨s0,s1,s2,s3⟩:=N7.1;have hk2:Hid (k<=2000000):=by show k<=2000000;omega
      have lN7:N<w7.heap.size:=zJ _ _ x0;have lS7:S7<w7.heap.size:=zJ _ _ s0;go_upto_region 14 with (at_builtin;refine qan kndS w7 rfl rfl _ _ rfl 0 (.slice sa k sc) k _ rfl (AP.out.o.s.below N7.2.1).row #[.int .i64 T.p,.slice ra1 T.rs.length rc1,.slice oa1 T.os.length oc1,.int .i64 T.c] rfl rfl (by intro u hu;simp at hu;rcases hu with rfl | rfl | rfl | rfl <;> rfl) hk2.out (Nat.zero_le _) ?_;intro v8 w8 o8 g8 q8 n8;obtain ⟨a8,c8,rfl⟩:=zU o8;obtain ⟨⟨z0,z1,z2,z3⟩,zf⟩:=AP.out.box N7.2.1 g8 (fun k hk=>(AP.out.gS k hk).2);have F8:Hid (AtP true w1.heap.size N (rcol cl wr.heap.size 2) { y.atY d with sn:=k+1,hn:=k } (w8.setCell ⟨N,1,none⟩ (.slice a8 (k+1) c8)) (.slice a5 y.pn c5) (.slice a8 (k+1) c8) (.slice a4 (y.atY d).wn c4) (.slice ha k hc) uu5 (fun j=>if j=k then stV T.p ra1 T.rs.length rc1 oa1 T.os.length oc1 T.c else us j) u4 uh/\Below w1.heap.size w1 (w8.setCell ⟨N,1,none⟩ (.slice a8 (k+1) c8))):=⟨AP.out.state N7.2.1 (by rw [HTT.out];exact N7.2.2) o8 g8 q8,(Below.grown (BZ.out.trans (N7.2.1.mono BZ.out.size)) g8 (zP BZ.out.size N7.2.1.size) (fun j hj=>(AP.out.gS j hj).1)).setCell AP.out.bN _⟩;clear o8 g8 q8 n8)
      clear x0 x1 x2 x3 s0 s1 s2 s3 z0 z1 z2 z3 zf lN7 lS7 N7 AP;generalize w8.setCell ⟨N,1,none⟩ (.slice a8 (k+1) c8)=w9 at *;clear w8;obtain ⟨x0,x1,x2,x3⟩:=F8.1.bx;have lN9:N<w9.heap.size:=F8.1.lt;have q0:Below w9.heap.size w9 w9.drew:=(Below.refl w9.heap.size w9).drew;obtain ⟨hbw,-⟩:=HX4.out w9.drew (F8.2.trans (q0.mono F8.2.size));refine qaj (fun w'=>w'.cell? ⟨N,3,none⟩=some (.slice ha k hc)) (fun i=>i == 7) (by kernel_rfl) ?_;have hHeld:(fun w':World=>w'.cell? ⟨N,3,none⟩=some (.slice ha k hc)) w9.drew:=(q0.cell (p:=⟨N,3,none⟩) lN9).trans x3;refine qax [0,1,2] ?_;iterate 3 (refine qa8 rfl hHeld ?_)
      refine qao ?_;refine qaa 3 rfl (by kernel_rfl) (fun K hK=>?_);refine qae rfl 96 _ _ rfl #[.slice (eA k) (d k) (eC k)] (by simp [Act.eval]) (yB Tryz.func96 (by kernel_rfl) rfl) (HK.out w9.drew hbw k hlt) ?_;rintro e w10 ⟨a10,c10,rfl,o10,n10,d10⟩;refine ⟨_,rfl,?_⟩;have Q10:Hid (Below w9.heap.size w9 w10/\w10.ownsRow w9.heap.size 61 3 (.slice a10 (d k) c10) (d k) (fE (y.hH k) (d k))/\Value.slice a10 (d k) c10≠.slice none 0 0):=⟨q0.trans (d10.mono q0.size),o10,n10⟩
      refine hK.out _ _ (fun _=>(Q10.1.cell (p:=⟨N,3,none⟩) lN9).trans x3) ?_;clear hHeld hK K o10 n10 d10 hbw q0
      (try simp only [Act.put,zD,zE,zF])
      refine qaa 4 rfl (by kernel_rfl) (fun K hK=>?_);go_simp;refine hK.out _ _ (fun _=>((Q10.1.trans ((zQ w10 _).mono Q10.1.size)).cell (p:=⟨N,3,none⟩) lN9).trans x3) ?_;clear hK K
      (try simp only [Act.put,zD,zE,zF])
      refine qaa 5 rfl (by kernel_rfl) (fun K hK=>?_);refine qaz qjv w10 rfl rfl _ _ rfl 0 (.slice ha k hc) k _ rfl (F8.1.o.h.below Q10.1).row #[.slice a10 (d k) c10] rfl rfl (by intro u hu;simp at hu;subst hu;rfl) hk2.out (Nat.zero_le _) ?_;intro v11 w11 o11 g11 q11 n11;obtain ⟨a11,c11,rfl⟩:=zU o11;obtain ⟨⟨z0,z1,z2,z3⟩,zf⟩:=F8.1.box Q10.1 g11 (fun k hk=>(F8.1.gH k hk).2);have F9:Hid (AtP true w1.heap.size N (rcol (rcol cl wr.heap.size 2) w9.heap.size 4) { y.atY d with sn:=k+1,hn:=k+1 } (w11.setCell ⟨N,3,none⟩ (.slice a11 (k+1) c11)) (.slice a5 y.pn c5) (.slice a8 (k+1) c8) (.slice a4 (y.atY d).wn c4) (.slice a11 (k+1) c11) uu5 (fun j=>if j=k then stV T.p ra1 T.rs.length rc1 oa1 T.os.length oc1 T.c else us j) u4 (fun j=>if j=k then .slice a10 (d k) c10 else uh j)/\Below w1.heap.size w1 (w11.setCell ⟨N,3,none⟩ (.slice a11 (k+1) c11))):=⟨F8.1.hist Q10.1 Q10.2.1 Q10.2.2 o11 g11 q11,(Below.grown (F8.2.trans (Q10.1.mono F8.2.size)) g11 (zP F8.2.size Q10.1.size) (fun j hj=>(F8.1.gH j hj).1)).setCell F8.1.bN _⟩
      refine hK.out _ _ (fun _=>z3) ?_;clear o11 g11 q11 n11 hK K
      (try simp only [Act.put,zD,zE,zF])
      have hHeld:(fun w':World=>w'.cell? ⟨N,3,none⟩=some (.slice ha k hc)) w11:=z3;refine qbl 6 rfl hHeld ?_;refine qaa 7 rfl (by kernel_rfl) (fun K hK=>?_);have hfN1:=zf 3;go_simp;refine hK.out _ _ (fun h=>?_) ?_
      ·exact absurd h (by decide)
      clear hK K z0 z1 z2 z3 zf hfN1 x0 x1 x2 x3 Q10 F8 lN9
      (try simp only [Act.put])
      refine qar (by kernel_rfl) ?_ _;go_wp2;go_roundw
      case rel=>exact ⟨k+1,by omega,by go_num,⟨⟨_,_,_,_,_,F9.1⟩,F9.2⟩,HPs'.out⟩
      case measure=>simp [intOf];omega
    ·have hkn:k=y.pn:=by omega
     subst hkn;have hlt':¬ (y.pn:Int)<(y.pn:Int):=by omega
     have hr1:R=true:=HC6.out fun p hp=>HPs.out p hp;have HV:Hid (R=true/\RS=y.atY d):=⟨hr1,HYES.out hr1⟩
     obtain ⟨⟨cl,vs,vh,us,uh,hA⟩,hbz⟩:=HZ.out;obtain ⟨sa,sc,rfl⟩:=zU hA.o.s.row;obtain ⟨ha,hc,rfl⟩:=zU hA.o.h.row;obtain ⟨x0,x1,x2,x3⟩:=hA.bx;obtain ⟨hbw,⟨r0,r1,r2,r3⟩,rf,hle3⟩:=HX4.out wr hbz;have OS:Hid (qac true wr w1.heap.size (y.atY d) (.agg #[.slice a5 y.pn c5,.slice sa y.pn sc,.slice a4 (y.atY d).wn c4,.slice ha y.pn hc])):=⟨_,_,_,_,_,_,_,_,_,rfl,hA.o⟩
     have BW:Hid (Below w.heap.size w wr/\w.heap.size<=w1.heap.size):=⟨hbw,by have:=HL1.out;omega⟩
     have lN:N<wr.heap.size:=hA.lt;have hNr:w1.heap.size<=N:=hA.bN;have l1:=HL1.out;have hl1:w.heap.size<wr.heap.size:=by omega
     clear hA HZ hbw hbz HX3 HX4 hr1 HC3 HC6 HNO HYES HPs;go_wp2
     exact bodyPost_ret (v := .tuple #[.agg #[.slice a5 y.pn c5, .slice sa y.pn sc, .slice a4 (y.atY d).wn c4, .slice ha y.pn hc], .bool true]) (by simp [results, Tryz.results61, go_sem, r0, r1, r2, r3]) rfl ⟨_, by rw [HV.1], by
      rw [HV.2]
      exact ((((OS.out.setBelow l1 0 _).setBelow l1 1 _).setBelow l1 2 _).setBelow l1 3 _).base BW.2,(((BW.1.setCell hM _).setCell hM _).setCell hM _).setCell hM _⟩
theorem qpv (x:SysIn) (w:World) (hG:SysG w x) (hL:x.Len):
  Calls Tryz.prog 39 #[x.v] w fun e w'=>∃ u,e=.returned u/\OwnI w' w.heap.size u (flT x.y x.hn)/\Below w.heap.size w w':=by
 have HG:Hid (SysG w x):=hG;have hl':(x.hn:Int)<=1048576:=by have:=hL.h.1;omega
 have HLh:Hid (∀ i,i<x.hn->x.hL i<=1048576):=hL.h.2;have BW:Hid (Below w.heap.size w ((w.alloc (oQ4 x.pa x.pn x.pc x.sa x.sn x.sc x.wa x.wn x.wc x.ha x.hn x.hc)).alloc (.cells #[] 3))):=(zT _ _).trans ((zT _ _).mono (by simp));have NB:Hid (BoxC ((w.alloc (oQ4 x.pa x.pn x.pc x.sa x.sn x.sc x.wa x.wn x.wc x.ha x.hn x.hc)).alloc (.cells #[] 3)) w.heap.size (.slice x.pa x.pn x.pc) (.slice x.sa x.sn x.sc) (.slice x.wa x.wn x.wc) (.slice x.ha x.hn x.hc)):=(BoxC.new w _ _ _ _ _).below (zT _ _);have NO:Hid (OwnI ((w.alloc (oQ4 x.pa x.pn x.pc x.sa x.sn x.sc x.wa x.wn x.wc x.ha x.hn x.hc)).alloc (.cells #[] 3)) (w.heap.size+1) (.slice (some ⟨w.heap.size+1,0,none⟩) 0 0) (flT x.y 0)):=qcx (w.alloc (oQ4 x.pa x.pn x.pc x.sa x.sn x.sc x.wa x.wn x.wc x.ha x.hn x.hc)) (by simp)
 have LT:Hid (w.heap.size+1<=((w.alloc (oQ4 x.pa x.pn x.pc x.sa x.sn x.sc x.wa x.wn x.wc x.ha x.hn x.hc)).alloc (.cells #[] 3)).heap.size):=by
  show _<=_;simp
 clear hG hL
 go_enter Tryz.func39,Tryz.ntmps39
 go_wp2_with fail
 generalize (w.alloc (oQ4 x.pa x.pn x.pc x.sa x.sn x.sc x.wa x.wn x.wc x.ha x.hn x.hc)).alloc (.cells #[] 3)=W2 at *
 go_loopw [3,4] (fun o i wr=>∃ k:Nat,k<=x.hn/\i=.int .i64 k/\Hid (OwnI wr (w.heap.size+1) o (flT x.y k)/\Below w.heap.size w wr/\BoxC wr w.heap.size (.slice x.pa x.pn x.pc) (.slice x.sa x.sn x.sc) (.slice x.wa x.wn x.wc) (.slice x.ha x.hn x.hc)/\w.heap.size+1<=wr.heap.size)) (fun _ i _=>x.hn - (intOf i).toNat)
 case atStart=>exact ⟨0,Nat.zero_le _,rfl,NO.out,BW.out,NB.out,LT.out⟩
 case round=>
  clear BW NB NO LT;obtain ⟨k,hk,rfl,HB⟩:=hrel;by_cases hlt:k<x.hn
  ·have hlt':(k:Int)<(x.hn:Int):=by omega
   obtain ⟨bh,oh,eh,ch⟩:=(HG.out.below HB.2.1).h.at hlt;have b3:=HB.2.2.1.2.2.2;rw [eh] at b3;clear eh;have hfl:=qcq x.y k;have hlk:(x.hL k:Int)<=1048576:=by have:=HLh.out k hlt;omega
   have HF:Hid (flT x.y (k+1)=flT x.y k ++ [(x.hL k:Int)]):=qn5 x.y k;have HFl:Hid ((flT x.y k).length<=1048576):=by show _<=_;omega
   clear hfl;go_wp2_with (at_builtin;refine qdh wr rfl _ _ rfl (w.heap.size+1) u3 (flT x.y k) rfl HB.1 (x.hL k:Int) rfl HFl.out HB.2.2.2 ?_;intro v' w4 o4 b4;have H4:Hid (OwnI w4 (w.heap.size+1) v' (flT x.y (k+1))/\Below w.heap.size w w4/\BoxC w4 w.heap.size (.slice x.pa x.pn x.pc) (.slice x.sa x.sn x.sc) (.slice x.wa x.wn x.wc) (.slice x.ha x.hn x.hc)/\w.heap.size+1<=w4.heap.size):=⟨o4.to HF.out,HB.2.1.trans (b4.mono (by omega)),HB.2.2.1.belowB b4 (by omega),zP HB.2.2.2 b4.size⟩;clear o4 b4)
   go_roundw
   case rel=>exact ⟨k+1,by omega,by go_num,H4.out⟩
   case measure=>simp [intOf];omega
  ·have hkl:k=x.hn:=by omega
   have H4:Hid (OwnI wr w.heap.size u3 (flT x.y x.hn)/\Below w.heap.size w wr):=by
    have:=HB.out;rw [hkl] at this;exact ⟨this.1.mono (by omega),this.2.1⟩
   have b3:=HB.2.2.1.2.2.2;clear HB hkl;go_wp2;go_ret;exact ⟨_,rfl,H4.out⟩
