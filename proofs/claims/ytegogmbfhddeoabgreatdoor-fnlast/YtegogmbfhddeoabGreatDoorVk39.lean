import Derived.Test.YtegogmbfhddeoabGreatDoorVk28
import Derived.Test.YtegogmbfhddeoabGreatDoorVk33
import Derived.ScopeJumps
import Derived.WalkMore
namespace Go.Proofs.YtegogmbfhddeoabGreatDoor
set_option maxRecDepth 100000
set_option maxHeartbeats 4000000
open Go.ChangeShapes Go.WideShapes Go.ChangeAt Go.RowKit Go.Deep Go.Sort
theorem qfb (x:SysIn) (ca:Option Addr) (cc:Nat) (c:List Int) (w:World) (hG:SysG w x) (hL:x.Len) (hc:Sl w ca c) (hcl:c.length<=1048576) (hV:w.cell? ⟨0,0,none⟩=some (.iface 211 (.agg #[.pointer (some ⟨1,73,none⟩)]))):
  Calls Tryz.prog 49 #[x.v,.slice ca c.length cc] w fun e w'=>e=.returned (.bool (cutB x.y c))/\Below w.heap.size w w':=by
 have HG:Hid (SysG w x):=hG;have HC:Hid (Sl w ca c):=hc;have hl':(c.length:Int)<=1048576:=by omega
 have hh':(x.hn:Int)<=1048576:=by have:=hL.h.1;omega
 have HLh:Hid (∀ i,i<x.hn->x.hL i<=1048576):=hL.h.2;have HS:Hid (∀ wx,Below w.heap.size w wx->Calls Tryz.prog 21 #[x.v] wx fun e w'=>e=.returned (.bool x.y.okB)/\Below wx.heap.size wx w'):=fun wx hb=>qco x wx (hG.below hb) hL ((hb.cell (p:=⟨0,0,none⟩) (zJ w _ hV)).trans hV);have BW:Hid (Below w.heap.size w (w.alloc (oQ4 x.pa x.pn x.pc x.sa x.sn x.sc x.wa x.wn x.wc x.ha x.hn x.hc))):=zT _ _;have NB:Hid (BoxC (w.alloc (oQ4 x.pa x.pn x.pc x.sa x.sn x.sc x.wa x.wn x.wc x.ha x.hn x.hc)) w.heap.size (.slice x.pa x.pn x.pc) (.slice x.sa x.sn x.sc) (.slice x.wa x.wn x.wc) (.slice x.ha x.hn x.hc)):=BoxC.new w _ _ _ _ _;have HX:Hid (cutB x.y c=(x.y.okB && qB (x.y.Cut c))):=rfl;generalize cutB x.y c=R at *;clear hG hL hV hc
 go_enter Tryz.func49,Tryz.ntmps49
 go_wp2_with fail
 generalize w.alloc (oQ4 x.pa x.pn x.pc x.sa x.sn x.sc x.wa x.wn x.wc x.ha x.hn x.hc)=W2 at *;refine (HS.out W2 BW.out).mono ?_;rintro e w1 ⟨rfl,q1⟩;have B1:Hid (Below w.heap.size w w1/\BoxC w1 w.heap.size (.slice x.pa x.pn x.pc) (.slice x.sa x.sn x.sc) (.slice x.wa x.wn x.wc) (.slice x.ha x.hn x.hc)):=⟨BW.out.trans (q1.mono BW.out.size),NB.out.below q1⟩
 clear q1 BW NB HS
 rcases zK x.y.okB with t | t
 case inr=>
  have HV:Hid (R=false):=by
   show R=false;rw [HX.out,t];rfl
  rw [t];clear t HX;go_wp2;go_ret;rw [HV.out];exact ⟨rfl,B1.1⟩
 have HN:Hid (x.hn=x.pn):=(Sy.ok_of t).cn.2.2.1
 have HV:Hid (R=qB (x.y.Cut c)):=by
  show R=_;rw [HX.out,t];rfl
 rw [t];clear t HX;have b3:=B1.2.2.2.2
 rcases zK ((c.length:Int) != (x.hn:Int)) with t | t
 case inl=>
  have HZ:Hid (R=false):=by
   show R=false;rw [HV.out];refine qaw fun h=>?_;have h1:c.length=x.pn:=h.len;rw [h1,HN.out] at t;simp at t
  clear HV;go_wp2;go_ret;rw [HZ.out];exact ⟨rfl,B1.1⟩
 have HQ:Hid (c.length=x.hn):=by
  have h:(c.length:Int)=(x.hn:Int):=by simpa using t
  show c.length=x.hn;omega
 go_wp2_with fail
 clear b3 t
 go_loopw [20] (fun i wr=>∃ k:Nat,k<=c.length/\i=.int .i64 k/\Hid (Below w.heap.size w wr/\BoxC wr w.heap.size (.slice x.pa x.pn x.pc) (.slice x.sa x.sn x.sc) (.slice x.wa x.wn x.wc) (.slice x.ha x.hn x.hc))/\Hid (∀ j,j<k->0<=zi c j/\zi c j<=(x.hL j:Int))) (fun i _=>c.length - (intOf i).toNat)
 case atStart=>exact ⟨0,Nat.zero_le _,rfl,B1.out,fun j hj=>by omega⟩
 case round=>
  clear B1;obtain ⟨k,hk,rfl,HB,HK⟩:=hrel;by_cases hlt:k<c.length
  ·have hlt':(k:Int)<(c.length:Int):=by omega
   have hkn:k<x.hn:=by have:=HQ.out;omega
   have hkn':(k:Int)<(x.hn:Int):=by omega
   obtain ⟨cb,co,rfl,-,c0⟩:=(HC.out.below HB.1).at hlt;obtain ⟨bh,oh,eh,ch⟩:=(HG.out.below HB.1).h.at hkn;have b3:=HB.2.2.2.2;rw [eh] at b3;clear eh;generalize hZ:zi c k=Z at *;have HX:Hid (zi c k=Z):=hZ;clear hZ;by_cases hz0:Z<0
   ·have HZ:Hid (R=false):=by
     show R=false;rw [HV.out];refine qaw fun h=>?_;have h1:=(h.le k (by have:=HQ.out;have:=HN.out;show k<x.pn;omega)).1;rw [HX.out] at h1;omega
    have B3:=HB.1;clear HV HK HB;go_wp2;go_ret;rw [HZ.out];exact ⟨rfl,B3⟩
   ·by_cases hz1:(x.hL k:Int)<Z
    ·have HZ:Hid (R=false):=by
      show R=false;rw [HV.out];refine qaw fun h=>?_;have h1:=(h.le k (by have:=HQ.out;have:=HN.out;show k<x.pn;omega)).2;rw [HX.out] at h1;have h2:Z<=(x.hL k:Int):=h1;omega
     have B3:=HB.1;clear HV HK HB;go_wp2;go_ret;rw [HZ.out];exact ⟨rfl,B3⟩
    ·have HK':Hid (∀ j,j<k+1->0<=zi c j/\zi c j<=(x.hL j:Int)):=fun j hj=>by
      by_cases e:j=k
      ·subst e
       rw [HX.out];omega
      ·exact HK.out j (by omega)
     clear HK HX;go_wp2;go_roundw
     case rel=>exact ⟨k+1,by omega,by go_num,HB.out,HK'.out⟩
     case measure=>simp [intOf];omega
  ·have HZ:Hid (R=true):=by
    show R=true;rw [HV.out];exact qa6 ⟨HQ.out.trans HN.out,fun p hp=>HK.out p (by have:=HQ.out;have:=HN.out;have h1:p<x.pn:=hp;omega)⟩
   have B3:=HB.1;clear HK HB;go_wp2;go_ret;rw [HZ.out];exact ⟨rfl,B3⟩
theorem qnv {w w':World} {b o n B:Nat} (h:w.there b o n) (hb:Below B w w') (hB:b<B):w'.there b o n:=fun j hj=>by
 obtain ⟨h1,h2⟩:=h j hj;have e:=hb.block b hB;exact ⟨(congrArg (Option.isSome) (zH (a:=⟨b,o+j,none⟩) e)).trans h1,(zI (a:=⟨b,o+j,none⟩) e).trans h2⟩
theorem qrt {w:World} {B b n cap:Nat} {E:TypeId} {a:Option Addr} {f:Nat->Value} {xs cl:List Value} (h:RowS w a n f) (ho:w.ownsRow B E 1 (.slice a n cap) n xs) (hb:b<B):RowS (w.setCells b 0 cl) a n f:=by
 rcases h with h | ⟨g,off,rfl,hlt,hc⟩
 ·exact .inl h
 ·have hg:g≠b:=by
   rcases ho.2 with ⟨e,h0⟩ | ⟨g',cap',cur,e,hB,_⟩
   ·cases e
   ·simp only [Value.slice.injEq,Option.some.injEq,Addr.mk.injEq] at e
    omega
  have ht:qat (fun k=>k=b) w (w.setCells b 0 cl):=qat.sets (P:=fun k=>k=b) rfl _ _ (qat.refl _ _);exact .inr ⟨g,off,rfl,zL hlt ht.size,fun i hi=>(ht.cell hlt hg _).trans (hc i hi)⟩
theorem qr0 (a:Option Addr) (len cap h:Nat) (hh:h<=cap) (w:World):(Instr.slice 38 (.slice a len cap) none (some (.int .i64 (h:Int))) (some (.int .i64 (h:Int)))).run Tryz.prog w=.ok (.slice a h h) w:=by
 have hh':(h:Int)<=(cap:Int):=by omega
 cases a with
 | none=>simp [go_sem,sliced,hh']
 | some a=>simp [go_sem,sliced,hh']
theorem qtj {w:World} {B:Nat} {E:TypeId} {v:Value} {n:Nat} {u:Nat->Value} (h:w.ownsRow B E 1 v n ((List.range n).map u)):∃ a cap,v=.slice a n cap/\RowS w a n u:=by
 rcases h.2 with ⟨rfl,h0⟩ | ⟨g,cap,cur,rfl,hb,_⟩
 ·exact ⟨none,0,by rw [h0],.inl h0⟩
 ·refine ⟨_,cap,rfl,.inr ⟨g,0,rfl,(h.lt g rfl).2,fun i hi=>?_⟩⟩
  rw [Nat.zero_add,World.ownsRow.cellAt h i (by omega)];simp [hi]
def hcL (ha:Option Addr) (hn hc:Nat):List Value:=[.slice ha hn hc,.int .i64 0,.int .i64 0,.int .i64 0,.int .i64 0,.int .i64 0,.int .i64 0,.int .i64 0,.int .i64 0,.int .i64 0,.int .i64 0,.int .i64 0,.int .i64 0,.int .i64 0,.int .i64 0,.int .i64 0,.int .i64 0,.int .i64 0,.int .i64 0,.int .i64 0,.int .i64 0]
theorem qmv (ha:Option Addr) (hn hc:Nat):(hcL ha hn hc).length=21:=rfl
theorem qmw (ha:Option Addr) (hn hc:Nat):∀ v ∈ hcL ha hn hc,v.oneCell'=true:=by
 intro v hv;simp only [hcL,List.mem_cons,List.not_mem_nil,or_false] at hv
 rcases hv with rfl | rfl | rfl | rfl | rfl | rfl | rfl | rfl | rfl | rfl | rfl | rfl | rfl | rfl | rfl | rfl | rfl | rfl | rfl | rfl | rfl <;> rfl
theorem qer:(Tryz.prog.info? 88).map (·.size)=some 21:=by kernel_rfl
theorem qjp {fn:Func} {ra:Nat} {ty:TypeId} (h:fn.results=#[.cell ra ty]) (tmps:Array Value) (w:World) (N:Nat) (cs:List Value) (d:TypeDesc) (ha:tmps.getD ra undef=.pointer (some ⟨N,0,none⟩)) (hc:w.rangeAt N 0 cs) (hu:Tryz.prog.underlying ty=some d) (hd:d.isRow=true) (hi:(Tryz.prog.info? ty).map (·.size)=some cs.length):
  (results fn tmps).run Tryz.prog w=.ok (.agg cs.toArray) w:=by
 have hl:=run_loadVar_mid (P:=Tryz.prog) w N 0 ty cs d hc hu hd hi;rw [Array.getD_eq_getD_getElem?] at ha;simp [results,h,ha,asAddr,hl]
theorem qfa (x:SysIn) (ca:Option Addr) (cc:Nat) (c:List Int) (w:World) (hG:SysG w x) (hcap:∀ i,i<x.hn->x.hL i<=x.hC i) (hhn:x.hn=x.pn) (h4:x.pn<=4) (hC:x.y.Cut c) (hc:Sl w ca c):
  Calls Tryz.prog 50 #[x.v,.slice ca c.length cc] w fun e w'=>∃ ha hc,e=.returned (.agg (hcL ha c.length hc).toArray)/\RowS w' ha c.length (fun i=>.slice (x.hA i) (cN c i) (cN c i))/\Below w.heap.size w w':=by
 have HG:Hid (SysG w x):=hG;have HSl:Hid (Sl w ca c):=hc;have hcl:c.length=x.pn:=hC.len;have hl':(c.length:Int)<=4:=by omega
 have HQ:Hid (c.length=x.hn/\c.length<=4):=⟨by omega,by omega⟩
 have HZ:Hid (∀ p,p<c.length->zi c p=(cN c p:Nat)/\cN c p<=x.hC p):=fun p hp=>⟨hC.nat (by show p<x.pn;omega),zP (hC.leN (by show p<x.pn;omega)) (hcap p (by omega))⟩
 obtain ⟨cs,hcs,hmk⟩:=qcp qla c.length (by omega);have HCS:Hid (cs.size=c.length):=hcs;have BW:Hid (Below w.heap.size w ((w.alloc (oQ4 x.pa x.pn x.pc x.sa x.sn x.sc x.wa x.wn x.wc x.ha x.hn x.hc)).alloc (zQ2))):=(zT _ _).trans ((zT _ _).mono (by simp));have NB:Hid (BoxC ((w.alloc (oQ4 x.pa x.pn x.pc x.sa x.sn x.sc x.wa x.wn x.wc x.ha x.hn x.hc)).alloc (zQ2)) w.heap.size (.slice x.pa x.pn x.pc) (.slice x.sa x.sn x.sc) (.slice x.wa x.wn x.wc) (.slice x.ha x.hn x.hc)):=(BoxC.new w _ _ _ _ _).below (zT _ _);have NT:Hid (((w.alloc (oQ4 x.pa x.pn x.pc x.sa x.sn x.sc x.wa x.wn x.wc x.ha x.hn x.hc)).alloc (zQ2)).there (w.heap.size+1) 0 21):=qbt _ _ _ _ _ rfl (by simp);have NS:Hid (((w.alloc (oQ4 x.pa x.pn x.pc x.sa x.sn x.sc x.wa x.wn x.wc x.ha x.hn x.hc)).alloc (zQ2)).heap.size=w.heap.size+2):=by show _=_;simp
 clear hG hcap hhn h4 hC hc hcl hcs
 go_enter Tryz.func50,Tryz.ntmps50
 go_upto_region 1 with fail
 generalize (w.alloc (oQ4 x.pa x.pn x.pc x.sa x.sn x.sc x.wa x.wn x.wc x.ha x.hn x.hc)).alloc (zQ2)=W2 at *;go_upto_region 2 with fail
 clear hmk
 have O0:Hid ((W2.alloc (.cells cs 38)).ownsRow (w.heap.size+2) 38 1 (.slice (some ⟨W2.heap.size,0,none⟩) 0 c.length) 0 ((List.range 0).map fun i=>.slice (x.hA i) (cN c i) (cN c i))):=by
  have:=World.ownsRow_made (base:=w.heap.size+2) (e:=38) (size:=1) W2 cs c.length (by rw [NS.out];omega) (by unfold maxLen;have:=HQ.out;omega) (by rw [HCS.out,Nat.mul_one]);exact this
 have B0:Hid (Below (w.heap.size+2) W2 (W2.alloc (.cells cs 38))):=(zT _ _).mono (by rw [NS.out];omega);generalize W2.alloc (.cells cs 38)=W3 at *;go_wp2_with fail
 go_loopw [5,13] (fun o i wr=>∃ k:Nat,k<=c.length/\i=.int .i64 k/\Hid (wr.ownsRow (w.heap.size+2) 38 1 o k ((List.range k).map fun i=>.slice (x.hA i) (cN c i) (cN c i))/\Below (w.heap.size+2) W2 wr)) (fun _ i _=>c.length - (intOf i).toNat)
 case atStart=>exact ⟨0,Nat.zero_le _,rfl,O0.out,B0.out⟩
 case round=>
  clear O0 B0;obtain ⟨k,hk,rfl,HB⟩:=hrel;have BE:Hid (Below w.heap.size w wr/\BoxC wr w.heap.size (.slice x.pa x.pn x.pc) (.slice x.sa x.sn x.sc) (.slice x.wa x.wn x.wc) (.slice x.ha x.hn x.hc)/\w.heap.size+2<=wr.heap.size):=⟨BW.out.trans (HB.2.mono (by omega)),NB.out.belowB HB.2 (by omega),by have:=HB.2.size;have:=NS.out;omega⟩
  by_cases hlt:k<c.length
  ·have hlt':(k:Int)<(c.length:Int):=by omega
   have hkn:k<x.hn:=by have:=HQ.out;omega
   have hkn':(k:Int)<(x.hn:Int):=by omega
   obtain ⟨cb,co,rfl,-,c0⟩:=(HSl.out.below BE.1).at hlt;obtain ⟨bh,oh,eh,ch⟩:=(HG.out.below BE.1).h.at hkn;have b3:=BE.2.1.2.2.2;rw [eh] at b3;clear eh;rw [(HZ.out k hlt).1] at c0;have ks:=qr0 (x.hA k) (x.hL k) (x.hC k) (cN c k) (HZ.out k hlt).2;have HK2:Hid (k<=2000000):=by show _<=_;have:=HQ.out;omega
   go_wp2_with (at_builtin;refine qas qla wr rfl rfl _ _ rfl (w.heap.size+2) u5 k _ rfl HB.1 #[.slice (x.hA k) (cN c k) (cN c k)] rfl rfl (by intro u hu;simp at hu;subst hu;rfl) HK2.out BE.2.2 ?_;intro v5 w5 o5 g5 q5 n5;have F5:Hid (w5.ownsRow (w.heap.size+2) 38 1 v5 (k+1) ((List.range (k+1)).map fun i=>.slice (x.hA i) (cN c i) (cN c i))/\Below (w.heap.size+2) W2 w5):=⟨by rw [List.range_succ,List.map_append];exact o5,Below.grown HB.2 g5 BE.2.2 (fun j hj=>(HB.1.lt j hj).1)⟩;clear o5 g5 q5 n5)
   go_roundw
   case rel=>exact ⟨k+1,by omega,by go_num,F5.out⟩
   case measure=>simp [intOf];omega
  ·have hkl:k=c.length:=by omega
   have F5:Hid (wr.ownsRow (w.heap.size+2) 38 1 u5 c.length ((List.range c.length).map fun i=>.slice (x.hA i) (cN c i) (cN c i))):=by
    have:=HB.1;rw [hkl] at this;exact this
   obtain ⟨ea,ec,rfl,rs⟩:=qtj F5.out;have RS:Hid (RowS wr ea c.length fun i=>.slice (x.hA i) (cN c i) (cN c i)):=rs;have hl:=qmv ea c.length ec;have ho:=qmw ea c.length ec;generalize hcs:hcL ea c.length ec=cl at *;have HCL:Hid (hcL ea c.length ec=cl):=hcs;have hs:cl.toArray.size=21:=by simpa using hl
   have HT:Hid (wr.there (w.heap.size+1) 0 cl.toArray.size):=by
    show wr.there _ _ _;rw [hs];exact qnv NT.out HB.2 (by omega)
   have HI:Hid ((Tryz.prog.info? 88).map (·.size)=some cl.length):=by show _=_;rw [hl];exact qer
   have HO:Hid (cl.toArray.all (·.oneCell')=true):=all_oneCell_toArray ho;have OW:Hid (∀ j,(Value.slice ea c.length ec).ownBlock=some j->w.heap.size+2<=j):=fun j hj=>(F5.out.lt j hj).1;have RK:Hid (RowS (wr.setCells (w.heap.size+1) 0 cl) ea c.length fun i=>.slice (x.hA i) (cN c i) (cN c i)):=qrt RS.out (F5.out) (by omega);have BK:Hid (Below w.heap.size w (wr.setCells (w.heap.size+1) 0 cl)):=BE.1.trans ((qat.sets (P:=fun b=>b=w.heap.size+1) rfl _ _ (qat.refl _ _)).below BE.1.size fun b e=>by omega);clear hcs hl ho hs HB hkl rs RS F5 BE;go_wp2_with (refine wpList_store_mid rfl 88 (.tmp 4) (.tmp 31) rfl (w.heap.size+1) 0 cl.toArray rfl (by rw [<- HCL.out];rfl) HT.out (by simpa using HI.out) HO.out ?_)
   have HR:Hid ((wr.setCells (w.heap.size+1) 0 cl).rangeAt (w.heap.size+1) 0 cl):=World.rangeAt_setCells_same _ _ _ _ (by simpa using HT.out);clear HT;generalize wr.setCells (w.heap.size+1) 0 cl=W5 at *;exact bodyPost_ret (qjp Tryz.results50 _ _ (w.heap.size+1) cl _ rfl HR.out Tryz.underlying88 rfl HI.out) rfl ⟨ea,ec,by rw [HCL.out],RK.out,BK.out⟩
theorem qln (X hc:Nat) (ha:Option Addr) (hA:Nat->Option Addr) (hC:Nat->Nat) (y:Hs) (a b:Nat) (w:World) (c0:w.cell? ⟨X,0,none⟩=some (.slice ha y.n hc)) (hE:HisE w ha hA hC y) (hl:∀ i,i<y.n->y.l i<=200) (han:a<y.n):
  Calls Tryz.prog 78 #[.pointer (some ⟨X,0,none⟩),.int .i64 a,.int .i64 b] w fun e w'=>∃ a1 c1,e=.returned (.slice a1 (valL (y.e a) 2 b (y.l a)).length c1)/\OwnI w' w.heap.size (.slice a1 (valL (y.e a) 2 b (y.l a)).length c1) (valL (y.e a) 2 b (y.l a))/\Below w.heap.size w w':=by
 have HE:Hid (EvL w (hA a) (y.l a) (y.e a)):=hE.ev a han;have HLb:Hid (y.l a<=1048576):=by have:=hl a han;show _<=_;omega
 have ha':(a:Int)<(y.n:Int):=by omega
 obtain ⟨bh,oh,eh,ch⟩:=hE.row.at han;rw [eh] at c0;clear hE hl eh
 go_enter Tryz.func78,Tryz.ntmps78
 go_wp2_with fail
 refine (qc0 (hA a) (y.l a) _ (y.e a) 2 b w HLb.out HE.out).mono ?_;rintro e w1 ⟨v,rfl,o1,b1⟩;obtain ⟨a1,c1,rfl,-⟩:=o1.form;have O1:Hid (OwnI w1 w.heap.size (.slice a1 (valL (y.e a) 2 b (y.l a)).length c1) (valL (y.e a) 2 b (y.l a))/\Below w.heap.size w w1):=⟨o1,b1⟩
 clear o1 b1 c0 ch;go_wp2;go_ret;exact ⟨_,_,rfl,O1.out⟩
theorem qhx (X hc:Nat) (ha:Option Addr) (hA:Nat->Option Addr) (hC:Nat->Nat) (y:Hs) (a b:Nat) (w:World) (c0:w.cell? ⟨X,0,none⟩=some (.slice ha y.n hc)) (hE:HisE w ha hA hC y) (hl:∀ i,i<y.n->y.l i<=200) (han:a<y.n) (hbn:b<y.n):
  Calls Tryz.prog 53 #[.pointer (some ⟨X,0,none⟩),.int .i64 a,.int .i64 b] w fun e w'=>e=.returned (.int .i64 (nthV (y.e b) 3 a (y.l b) (cnt (y.e a) 2 b (y.l a):Nat)))/\Below w.heap.size w w':=by
 have HS:Hid (∀ wx,Below w.heap.size w wx->Calls Tryz.prog 78 #[.pointer (some ⟨X,0,none⟩),.int .i64 a,.int .i64 b] wx fun e w'=>∃ a1 c1,e=.returned (.slice a1 (cnt (y.e a) 2 b (y.l a)) c1)/\Below wx.heap.size wx w'):=fun wx hb=>by
  refine (qln X hc ha hA hC y a b wx ((hb.cell (p:=⟨X,0,none⟩) (zJ w _ c0)).trans c0) (hE.below hb) hl han).mono ?_;rintro e w1 ⟨a1,c1,rfl,-,q⟩;exact ⟨a1,c1,by rw [qcj];rfl,q⟩
 have HN:Hid (∀ wx,Below w.heap.size w wx->Calls Tryz.prog 90 #[.slice (hA b) (y.l b) (hC b),.int .i64 3,.int .i64 a,.int .i64 (cnt (y.e a) 2 b (y.l a):Nat)] wx fun e w'=>e=.returned (.int .i64 (nthV (y.e b) 3 a (y.l b) (cnt (y.e a) 2 b (y.l a):Nat)))/\Below wx.heap.size wx w'):=fun wx hb=>qqt (hA b) (y.l b) (hC b) (y.e b) 3 a _ wx (by have:=hl b hbn;omega) ((hE.below hb).ev b hbn);have hcn:cnt (y.e a) 2 b (y.l a)<=200:=zP (qqf _ _ _ _) (hl a han);have hbn':(b:Int)<(y.n:Int):=by omega
 obtain ⟨bh,oh,eh,ch⟩:=hE.row.at hbn;rw [eh] at c0;clear hE hl eh;generalize nthV (y.e b) 3 a (y.l b) (cnt (y.e a) 2 b (y.l a):Nat)=V at *;generalize cnt (y.e a) 2 b (y.l a)=cn at *;have hcn':(cn:Int)<=200:=by omega
 have HC0:Hid (w.cell? ⟨X,0,none⟩=some (.slice (some ⟨bh,oh,none⟩) y.n hc)):=c0;have HC1:Hid (w.cell? ⟨bh,oh+b,none⟩=some (.slice (hA b) (y.l b) (hC b))):=ch
 go_enter Tryz.func53,Tryz.ntmps53
 go_wp2_with fail
 go_region_law (first
  | (refine qde rfl 78 _ _ rfl #[.pointer (some ⟨X,0,none⟩),.int .i64 a,.int .i64 b] (by simp [Act.eval,Act.put]) (yA Tryz.func78 (by kernel_rfl) rfl) (HS.out w.drew (Below.refl _ _).drew) ?_;rintro e w1 ⟨a1,c1,rfl,b1⟩;refine ⟨_,rfl,?_⟩;have q1:Below w.heap.size w w1:=(Below.refl w.heap.size w).drew.trans b1;have c2:=(q1.cell (p:=⟨X,0,none⟩) (zJ w _ HC0.out)).trans HC0.out;have c3:=(q1.cell (p:=⟨bh,oh+b,none⟩) (zJ w _ HC1.out)).trans HC1.out;have Q1:Hid (Below w.heap.size w w1):=q1;clear b1 q1)
  | (refine qde rfl 90 _ _ rfl #[.slice (hA b) (y.l b) (hC b),.int .i64 3,.int .i64 a,.int .i64 (cn:Nat)] (by simp [Act.eval,Act.put]) (yA Tryz.func90 (by kernel_rfl) rfl) (HN.out w1 Q1.out) ?_;rintro e w2 ⟨rfl,b2⟩;refine ⟨_,rfl,?_⟩;have Q2:Hid (Below w.heap.size w w2):=Q1.out.trans (b2.mono Q1.out.size);clear b2))
 all_goals
  clear Q1;go_wp2;go_ret;exact ⟨rfl,Q2.out⟩
theorem qk9 (X hc:Nat) (ha:Option Addr) (hA:Nat->Option Addr) (hC:Nat->Nat) (y:Hs) (w:World) (c0:w.cell? ⟨X,0,none⟩=some (.slice ha y.n hc)) (hE:HisE w ha hA hC y) (hl:∀ i,i<y.n->y.l i<=200) (h4:y.n<=4):
  Calls Tryz.prog 87 #[.pointer (some ⟨X,0,none⟩)] w fun e w'=>e=.returned (.bool (qB (∀ a,a<y.n->∀ b,b<y.n->nthV (y.e b) 3 a (y.l b) (cnt (y.e a) 2 b (y.l a):Nat)<0)))/\Below w.heap.size w w':=by
 have HOv:Hid (∀ wx,Below w.heap.size w wx->∀ a b,a<y.n->b<y.n->Calls Tryz.prog 53 #[.pointer (some ⟨X,0,none⟩),.int .i64 (a:Nat),.int .i64 (b:Nat)] wx fun e w'=>e=.returned (.int .i64 (nthV (y.e b) 3 a (y.l b) (cnt (y.e a) 2 b (y.l a):Nat)))/\Below wx.heap.size wx w'):=fun wx hb a b ha' hb'=>qhx X hc ha hA hC y a b wx ((hb.cell (p:=⟨X,0,none⟩) (zJ w _ c0)).trans c0) (hE.below hb) hl ha' hb';have HC0:Hid (∀ wx,Below w.heap.size w wx->wx.cell? ⟨X,0,none⟩=some (.slice ha y.n hc)):=fun wx hb=>(hb.cell (p:=⟨X,0,none⟩) (zJ w _ c0)).trans c0;have hl':(y.n:Int)<=4:=by omega
 clear hE hl;generalize hov:(fun a b:Nat=>nthV (y.e b) 3 a (y.l b) (cnt (y.e a) 2 b (y.l a):Nat))=ov;have e1:∀ a b:Nat,nthV (y.e b) 3 a (y.l b) (cnt (y.e a) 2 b (y.l a):Nat)=ov a b:=fun a b=>by rw [<- hov]
 simp only [e1] at HOv ⊢;clear e1 hov
 go_enter Tryz.func87,Tryz.ntmps87
 go_wp2_with fail
 clear c0
 go_loopw [10] (fun i wr=>∃ k:Nat,k<=y.n/\i=.int .i64 k/\Hid (Below w.heap.size w wr)/\Hid (∀ a,a<k->∀ b,b<y.n->ov a b<0)) (fun i _=>y.n - (intOf i).toNat)
 case atStart=>exact ⟨0,Nat.zero_le _,rfl,Below.refl _ _,fun j hj=>by omega⟩
 case round=>
  obtain ⟨k,hk,rfl,HB,HK⟩:=hrel;by_cases hlt:k<y.n
  ·have hlt':(k:Int)<(y.n:Int):=by omega
   have c1:=HC0.out wr HB.out;go_wp2_with fail
   clear c1
   go_loopw [18] (fun i wr=>∃ j:Nat,j<=y.n/\i=.int .i64 j/\Hid (Below w.heap.size w wr)/\Hid (∀ b,b<j->ov k b<0)) (fun i _=>y.n - (intOf i).toNat)
   case atStart=>exact ⟨0,Nat.zero_le _,rfl,HB.out,fun j hj=>by omega⟩
   case round=>
    clear HB;obtain ⟨j,hj,rfl,HB,HJ⟩:=hrel;by_cases hjt:j<y.n
    ·have hjt':(j:Int)<(y.n:Int):=by omega
     go_wp2_with fail
     refine (HOv.out _ HB.out k j hlt hjt).mono ?_;rintro e w3 ⟨rfl,q3⟩;have B3:Hid (Below w.heap.size w w3):=HB.out.trans (q3.mono HB.out.size);clear q3 HB;by_cases ho:0<=ov k j
     ·have HV:Hid (qB (∀ a,a<y.n->∀ b,b<y.n->ov a b<0)=false):=qaw fun h=>by
       have h1:=h k hlt j hjt;omega
      go_wp2;go_ret;rw [HV.out];exact ⟨rfl,B3.out⟩
     ·have HJ':Hid (∀ b,b<j+1->ov k b<0):=fun b hb=>by
       by_cases e:b=j
       ·subst e
        omega
       ·exact HJ.out b (by omega)
      clear HJ;go_wp2;go_roundw
      case rel=>exact ⟨j+1,by omega,by go_num,B3.out,HJ'.out⟩
      case measure=>simp [intOf];omega
    ·have HK':Hid (∀ a,a<k+1->∀ b,b<y.n->ov a b<0):=fun a ha b hb=>by
      by_cases e:a=k
      ·subst e
       exact HJ.out b (by omega)
      ·exact HK.out a (by omega) b hb
     clear HK HJ;go_wp2;go_roundw
     case rel=>exact ⟨k+1,by omega,by go_num,HB.out,HK'.out⟩
     case measure=>simp [intOf];omega
  ·have HV:Hid (qB (∀ a,a<y.n->∀ b,b<y.n->ov a b<0)=true):=qa6 fun a ha b hb=>HK.out a (by omega) b hb
   have B3:=HB.out;clear HK HB;go_wp2;go_ret;rw [HV.out];exact ⟨rfl,B3⟩
def Sy.at (y:Sy) (c:List Int):Hs:=⟨c.length,cN c,y.hH⟩
theorem qqs {x:SysIn} {w w':World} {ha:Option Addr} {c:List Int} (hG:SysG w x) (hb:Below w.heap.size w w') (hC:x.y.Cut c) (hhn:x.hn=x.pn) (hr:RowS w' ha c.length (fun i=>.slice (x.hA i) (cN c i) (cN c i))):HisE w' ha x.hA (cN c) (x.y.at c):=
 ⟨hr, fun i hi => by
  have hi':i<x.pn:=by have h1:c.length=x.pn:=hC.len;have h2:i<c.length:=hi;omega
  exact ((hG.below hb).hi i (by omega)).take (hC.leN hi')⟩
theorem qn2 {w:World} {X hc n:Nat} {ha:Option Addr} {cs:List Value} (h:w.rangeAt X 0 cs) (e:hcL ha n hc=cs):w.cell? ⟨X,0,none⟩=some (.slice ha n hc):=by
 subst e;have:=h 0 (.slice ha n hc) rfl;simpa using this
def sm:List Int->Nat
 | []=>0
 | x :: xs=>x.toNat+sm xs
theorem qr1:∀ (e:List Int) (b:Nat) (k:Int),b<e.length->k<zi e b->0<=k->sm (e.set b k)<sm e
 | [],b,k,hb,_,_=>by simp at hb
 | x :: xs,0,k,_,hk,h0=>by
  have h1:zi (x :: xs) 0=x:=rfl;rw [h1] at hk;simp only [zE,sm];omega
 | x :: xs,b+1,k,hb,hk,h0=>by
  have h1:zi (x :: xs) (b+1)=zi xs b:=rfl;rw [h1] at hk;have:=qr1 xs b k (by simpa using hb) hk h0;simp only [zF,sm];omega
structure CW (w wr:World) (x:SysIn) (g cap:Nat) (c e:List Int):Prop where
 ow:OwnI wr (w.heap.size+1) (.slice (some ⟨g,0,none⟩) c.length cap) e
 be:Below w.heap.size w wr
 bx:BoxC wr w.heap.size (.slice x.pa x.pn x.pc) (.slice x.sa x.sn x.sc) (.slice x.wa x.wn x.wc) (.slice x.ha x.hn x.hc)
 cl:x.y.Cl c e
 ln:e.length=c.length
theorem CW.g {w wr:World} {x:SysIn} {g cap:Nat} {c e:List Int} (h:CW w wr x g cap c e):w.heap.size+1<=g/\g<wr.heap.size:=h.ow.lt g rfl
theorem CW.below {w wr w':World} {x:SysIn} {g cap:Nat} {c e:List Int} (h:CW w wr x g cap c e) (hb:Below wr.heap.size wr w'):CW w w' x g cap c e:=⟨h.ow.below hb,h.be.trans (hb.mono h.be.size),h.bx.below hb,h.cl,h.ln⟩
theorem CW.slOf {w wr:World} {x:SysIn} {g cap:Nat} {c e:List Int} (h:CW w wr x g cap c e):Sl wr (some ⟨g,0,none⟩) e:=h.ow.slOf
theorem CW.cell {w wr:World} {x:SysIn} {g cap:Nat} {c e:List Int} (h:CW w wr x g cap c e) {b:Nat} (hb:b<c.length):wr.cell? ⟨g,b,none⟩=some (.int .i64 (zi e b))/\wr.frozen? ⟨g,b,none⟩=false:=by
 have ho:=h.ow;rw [<- h.ln] at ho hb;exact ⟨ho.cell hb,ho.frozen b⟩
theorem CW.put {w wr:World} {x:SysIn} {g cap:Nat} {c e:List Int} (h:CW w wr x g cap c e) {b:Nat} {k:Int} (hn:x.y.Cl c (e.set b k)):CW w (wr.setCell ⟨g,b,none⟩ (.int .i64 k)) x g cap c (e.set b k):=by
 have hg:=h.g;obtain ⟨h0,h1,h2,h3⟩:=h.bx;have hc:∀ i,(wr.setCell ⟨g,b,none⟩ (.int .i64 k)).cell? ⟨w.heap.size,i,none⟩=wr.cell? ⟨w.heap.size,i,none⟩:=fun i=>World.cell?_setCell_other _ _ _ _ (by intro e;injection e with e;omega);exact ⟨(h.ow.set h.ln.symm b k).1,h.be.setCell (by simp;omega) _,⟨(hc _).trans h0,(hc _).trans h1,(hc _).trans h2,(hc _).trans h3⟩,hn,by rw [List.length_set];exact h.ln⟩
section
variable {P:Program} {a:Act} {w:World} {Q:Exit->Act->World->Prop}
def two (J0 J1:Act->World->Prop) (Q:Exit->Act->World->Prop):Exit->Act->World->Prop
 | .goto 0,a,w=>J0 a w
 | .goto 1,a,w=>J1 a w
 | .goto (_+2),_,_=>False
 | e,a,w=>Q e a w
theorem qu9 {J0 J1:Act->World->Prop}:two J0 J1 Q .ret a w=Q .ret a w:=rfl
theorem qos {J0 J1 K0 K1:Act->World->Prop} (h0:∀ a w,J0 a w->K0 a w) (h1:∀ a w,J1 a w->K1 a w) {e:Exit} {a:Act} {w:World} (h:two J0 J1 Q e a w):two K0 K1 Q e a w:=by
 match e,h with
 | .goto 0,h=>exact h0 _ _ h
 | .goto 1,h=>exact h1 _ _ h
 | .goto (_+2),h=>exact h.elim
 | .normal,h=>exact h
 | .exit _,h=>exact h
 | .ret,h=>exact h
 | .panic _,h=>exact h
 | .outgrown,h=>exact h
theorem qsh {c:Code} {Q':Exit->Act->World->Prop} (h:c.wp P Q a w) (hq:∀ e a w,Q e a w->Q' e a w):c.wp P Q' a w:=fun b k cs=>by
 obtain ⟨e,a',w',h1,h2⟩:=h b k cs;exact ⟨e,a',w',hq _ _ _ h1,h2⟩
theorem ql3 {c r0 r1:Code} (J0 J1:Nat->Act->World->Prop) (f0:findLabel c 0=some (.seq .skip r0)) (f1:findLabel c 1=some (.seq .skip r1))
  (first:(∀ k a w,J0 k a w->r0.wp P (two (fun a w=>∃ k,J0 k a w) (fun a w=>∃ k,J1 k a w) Q) a w)->c.wp P (two (fun a w=>∃ k,J0 k a w) (fun a w=>∃ k,J1 k a w) Q) a w)
  (pass0:∀ k,(∀ i a w,i<=k->J1 i a w->r1.wp P (two (fun a w=>∃ j,j<k/\J0 j a w) (fun a w=>∃ j,j<k/\J1 j a w) Q) a w)->∀ a w,J0 k a w->r0.wp P (two (fun a w=>∃ j,j<k/\J0 j a w) (fun a w=>∃ j,j<k/\J1 j a w) Q) a w)
  (pass1:∀ k a w,J1 k a w->r1.wp P (two (fun a w=>∃ j,j<k/\J0 j a w) (fun a w=>∃ j,j<k/\J1 j a w) Q) a w):(Code.scope c).wp P Q a w:=by
 have p0:∀ k a w,J0 k a w->r0.wp P (two (fun a w=>∃ j,j<k/\J0 j a w) (fun a w=>∃ j,j<k/\J1 j a w) Q) a w:=fun k a w hJ=>
  pass0 k (fun i a w hi h=>qsh (pass1 i a w h) fun _ _ _ h=>qos (fun _ _ ⟨j,hj,h⟩=>⟨j,by omega,h⟩) (fun _ _ ⟨j,hj,h⟩=>⟨j,by omega,h⟩) h) a w hJ
 have fst:=first fun k a w hJ=>qsh (p0 k a w hJ) fun _ _ _ h=>qos (fun _ _ ⟨j,_,h⟩=>⟨j,h⟩) (fun _ _ ⟨j,_,h⟩=>⟨j,h⟩) h
 intro b k cs;have g0:gotoIn 0 (.inScope c :: k)=some (.code (.seq .skip r0) :: .inScope c :: k):=by simp [gotoIn,f0]
 have g1:gotoIn 1 (.inScope c :: k)=some (.code (.seq .skip r1) :: .inScope c :: k):=by simp [gotoIn,f1]
 have key:∀ n,(∀ a w,J0 n a w->∃ e a' w',Q e a' w'/\Arrives P (lone (b.at a (.code (.seq .skip r0) :: .inScope c :: k)) cs w) b k cs e a' w')/\(∀ a w,J1 n a w->∃ e a' w',Q e a' w'/\Arrives P (lone (b.at a (.code (.seq .skip r1) :: .inScope c :: k)) cs w) b k cs e a' w'):=by
  intro n
  induction n using Nat.strongRecOn with
  | _ n ih=>
   have both:∀ r:Code,(∀ a w,r.wp P (two (fun a w=>∃ j,j<n/\J0 j a w) (fun a w=>∃ j,j<n/\J1 j a w) Q) a w->∃ e a' w',Q e a' w'/\Arrives P (lone (b.at a (.code r :: .inScope c :: k)) cs w) b k cs e a' w'):=by
    intro r a w hr;obtain ⟨e,a₁,w₁,hq,harr⟩:=hr b (.inScope c :: k) cs
    match e,hq,harr with
    | .normal,hq,harr=>exact ⟨.normal,a₁,w₁,hq,Steps.trans harr (.one step_inScope)⟩
    | .exit id,hq,harr=>exact ⟨.exit id,a₁,w₁,hq,fun k' hk=>harr k' (by simp [exitTo,hk])⟩
    | .goto 0,⟨j,hj,hJ⟩,harr=>
     obtain ⟨e₂,a₂,w₂,hq₂,harr₂⟩:=(ih j hj).1 a₁ w₁ hJ;exact ⟨e₂,a₂,w₂,hq₂,.of_steps (harr _ g0) harr₂⟩
    | .goto 1,⟨j,hj,hJ⟩,harr=>
     obtain ⟨e₂,a₂,w₂,hq₂,harr₂⟩:=(ih j hj).2 a₁ w₁ hJ;exact ⟨e₂,a₂,w₂,hq₂,.of_steps (harr _ g1) harr₂⟩
    | .goto (_+2),hq,_=>exact hq.elim
    | .ret,hq,harr=>exact ⟨_,a₁,w₁,hq,harr⟩
    | .panic ch,hq,harr=>exact ⟨_,a₁,w₁,hq,harr⟩
    | .outgrown,hq,harr=>exact ⟨_,a₁,w₁,hq,harr⟩
   exact ⟨fun a w h=>both _ a w (wp_seq (wp_skip (p0 n a w h))),fun a w h=>both _ a w (wp_seq (wp_skip (pass1 n a w h)))⟩
 obtain ⟨e,a₁,w₁,hq,harr⟩:=fst b (.inScope c :: k) cs
 match e,hq,harr with
 | .normal,hq,harr=>exact ⟨.normal,a₁,w₁,hq,.head step_scope (Steps.trans harr (.one step_inScope))⟩
 | .exit id,hq,harr=>exact ⟨.exit id,a₁,w₁,hq,fun k' hk=>.head step_scope (harr k' (by simp [exitTo,hk]))⟩
 | .goto 0,⟨j,hJ⟩,harr=>
  obtain ⟨e₂,a₂,w₂,hq₂,harr₂⟩:=(key j).1 a₁ w₁ hJ;exact ⟨e₂,a₂,w₂,hq₂,.of_steps (.head step_scope (harr _ g0)) harr₂⟩
 | .goto 1,⟨j,hJ⟩,harr=>
  obtain ⟨e₂,a₂,w₂,hq₂,harr₂⟩:=(key j).2 a₁ w₁ hJ;exact ⟨e₂,a₂,w₂,hq₂,.of_steps (.head step_scope (harr _ g1)) harr₂⟩
 | .goto (_+2),hq,_=>exact hq.elim
 | .ret,hq,harr=>exact ⟨_,a₁,w₁,hq,.of_steps (.one step_scope) harr⟩
 | .panic ch,hq,harr=>exact ⟨_,a₁,w₁,hq,.of_steps (.one step_scope) harr⟩
 | .outgrown,hq,harr=>exact ⟨_,a₁,w₁,hq,.of_steps (.one step_scope) harr⟩
end
theorem qjr (w:World) (b off cc:Nat) (c:List Int) (h:Sl w (some ⟨b,off,none⟩) c) (z:Array Value) (hz:z.size=c.length):
  (Builtin.copy_ #[49,49] 3 #[.slice (some ⟨w.heap.size,0,none⟩) c.length c.length,.slice (some ⟨b,off,none⟩) c.length cc]).run Tryz.prog (w.alloc (.cells z 3))=.ok (goInt c.length) (w.alloc (.cells (c.map (Value.int .i64)).toArray 3)):=by
 have hl:(c.map (Value.int .i64)).length=c.length:=by simp
 have h2:=run_copy_row (P:=Tryz.prog) (w.alloc (.cells z 3)) 49 49 3 3 w.heap.size 0 c.length c.length ⟨b,off,none⟩ c.length cc z 3 (c.map (Value.int .i64)) Tryz.underlying49 qni (heap_alloc_new w _) (by rw [hl];exact (Nat.min_self _).symm) (qhu h (zT _ _)) (by rw [hl,hz];omega) (qfi c);rw [h2,qd2,hl];simp only [List.take_zero,List.nil_append,Nat.zero_add];rw [List.drop_of_length_le (by simp [hz]),List.append_nil]
theorem qi0 (ca:Option Addr) (cc:Nat) (c:List Int) (w:World) (hn:0<c.length) (hl:c.length<=1048576) (hc:Sl w ca c):
  Calls Tryz.prog 52 #[.slice ca c.length cc] w fun e w'=>e=.returned (.slice (some ⟨w.heap.size,0,none⟩) c.length c.length)/\OwnI w' w.heap.size (.slice (some ⟨w.heap.size,0,none⟩) c.length c.length) c/\Below w.heap.size w w':=by
 obtain ⟨b,off,rfl,-,-⟩:=hc.all hn;have hl':(c.length:Int)<=1048576:=by omega
 have hmk:=qc2 c.length hl;have hcp:=qjr w b off cc c hc (madeCells #[.int .i64 0] c.length) (by simp [size_madeCells])
 have HO:Hid (OwnI (w.alloc (.cells (c.map (Value.int .i64)).toArray 3)) w.heap.size (.slice (some ⟨w.heap.size,0,none⟩) c.length c.length) c/\Below w.heap.size w (w.alloc (.cells (c.map (Value.int .i64)).toArray 3))):=by
  refine ⟨?_,zT _ _⟩;have:=World.ownsRow_lit (base:=w.heap.size) (e:=3) (size:=1) w (c.map (Value.int .i64)).toArray c.length (Nat.le_refl _) (by unfold maxLen;omega) (by simp);exact this
 clear hc
 go_enter Tryz.func52,Tryz.ntmps52
 go_wp2;go_ret;exact ⟨rfl,HO.out⟩
def CJ0 (w:World) (x:SysIn) (ca:Option Addr) (cc:Nat) (c:List Int) (k:Nat) (a:Act) (wr:World):Prop:=∃ (g:Nat) (e:List Int) (u3 u7 u8 u9 u10 u11 u12 u13 u14 u15 u16 u17 u18 u19 u20 u21 u22 u23 u24 u25 u26 u27 u28 u29 u30 u31 u32 u33 u34 u35 u36 u37 u38 u39 u40 u41 u42 u43 u44:Value),a={ tmps:=#[x.v,.slice ca c.length cc,.pointer (some ⟨w.heap.size,0,none⟩),u3,.slice none 0 0,.slice (some ⟨g,0,none⟩) c.length c.length,.int .i64 (c.length:Nat),u7,u8,u9,u10,u11,u12,u13,u14,u15,u16,u17,u18,u19,u20,u21,u22,u23,u24,u25,u26,u27,u28,u29,u30,u31,u32,u33,u34,u35,u36,u37,u38,u39,u40,u41,u42,u43,u44],defers:=[] }/\Hid (CW w wr x g c.length c e/\k=sm e*40+20)
structure CH (wr:World) (x:SysIn) (X m:Nat) (c e:List Int):Prop where
 c0:∃ ea ec,wr.cell? ⟨X,0,none⟩=some (.slice ea c.length ec)/\RowS wr ea c.length fun i=>.slice (x.hA i) (cN e i) (cN e i)
 lt:m<=c.length*c.length
 ok:∀ i,i<m->tN x.y (cN e) (i / c.length) (i % c.length)<=sN x.y (cN e) (i / c.length) (i % c.length)
theorem CH.below {wr w':World} {x:SysIn} {X m:Nat} {c e:List Int} (h:CH wr x X m c e) (hb:Below wr.heap.size wr w'):CH w' x X m c e:=by
 obtain ⟨ea,ec,h0,h1⟩:=h.c0;exact ⟨⟨ea,ec,(hb.cell (p:=⟨X,0,none⟩) (zJ wr _ h0)).trans h0,h1.below hb⟩,h.lt,h.ok⟩
def CJ1 (w:World) (x:SysIn) (ca:Option Addr) (cc:Nat) (c:List Int) (k:Nat) (a:Act) (wr:World):Prop:=∃ (g X m:Nat) (e:List Int) (u3 u9 u10 u11 u12 u13 u14 u15 u16 u17 u18 u19 u20 u21 u22 u23 u24 u25 u26 u27 u28 u29 u30 u31 u32 u33 u34 u35 u36 u37 u38 u39 u40 u41 u42 u43 u44:Value),a={ tmps:=#[x.v,.slice ca c.length cc,.pointer (some ⟨w.heap.size,0,none⟩),u3,.slice none 0 0,.slice (some ⟨g,0,none⟩) c.length c.length,.int .i64 (c.length:Nat),.pointer (some ⟨X,0,none⟩),.int .i64 (m:Nat),u9,u10,u11,u12,u13,u14,u15,u16,u17,u18,u19,u20,u21,u22,u23,u24,u25,u26,u27,u28,u29,u30,u31,u32,u33,u34,u35,u36,u37,u38,u39,u40,u41,u42,u43,u44],defers:=[] }/\Hid (CW w wr x g c.length c e/\CH wr x X m c e/\k=sm e*40+(16 - m))
theorem CJ0.mk {w:World} {x:SysIn} {ca:Option Addr} {cc:Nat} {c:List Int} {k g:Nat} {e:List Int} {wr:World} {u3 u7 u8 u9 u10 u11 u12 u13 u14 u15 u16 u17 u18 u19 u20 u21 u22 u23 u24 u25 u26 u27 u28 u29 u30 u31 u32 u33 u34 u35 u36 u37 u38 u39 u40 u41 u42 u43 u44:Value} (h:CW w wr x g c.length c e) (hk:k=sm e*40+20):CJ0 w x ca cc c k { tmps:=#[x.v,.slice ca c.length cc,.pointer (some ⟨w.heap.size,0,none⟩),u3,.slice none 0 0,.slice (some ⟨g,0,none⟩) c.length c.length,.int .i64 (c.length:Nat),u7,u8,u9,u10,u11,u12,u13,u14,u15,u16,u17,u18,u19,u20,u21,u22,u23,u24,u25,u26,u27,u28,u29,u30,u31,u32,u33,u34,u35,u36,u37,u38,u39,u40,u41,u42,u43,u44],defers:=[] } wr:=⟨g,e,u3,u7,u8,u9,u10,u11,u12,u13,u14,u15,u16,u17,u18,u19,u20,u21,u22,u23,u24,u25,u26,u27,u28,u29,u30,u31,u32,u33,u34,u35,u36,u37,u38,u39,u40,u41,u42,u43,u44,rfl,h,hk⟩
theorem CJ1.mk {w:World} {x:SysIn} {ca:Option Addr} {cc:Nat} {c:List Int} {k g X m:Nat} {e:List Int} {wr:World} {u3 u9 u10 u11 u12 u13 u14 u15 u16 u17 u18 u19 u20 u21 u22 u23 u24 u25 u26 u27 u28 u29 u30 u31 u32 u33 u34 u35 u36 u37 u38 u39 u40 u41 u42 u43 u44:Value} (h:CW w wr x g c.length c e) (hh:CH wr x X m c e) (hk:k=sm e*40+(16 - m)):CJ1 w x ca cc c k { tmps:=#[x.v,.slice ca c.length cc,.pointer (some ⟨w.heap.size,0,none⟩),u3,.slice none 0 0,.slice (some ⟨g,0,none⟩) c.length c.length,.int .i64 (c.length:Nat),.pointer (some ⟨X,0,none⟩),.int .i64 (m:Nat),u9,u10,u11,u12,u13,u14,u15,u16,u17,u18,u19,u20,u21,u22,u23,u24,u25,u26,u27,u28,u29,u30,u31,u32,u33,u34,u35,u36,u37,u38,u39,u40,u41,u42,u43,u44],defers:=[] } wr:=⟨g,X,m,e,u3,u9,u10,u11,u12,u13,u14,u15,u16,u17,u18,u19,u20,u21,u22,u23,u24,u25,u26,u27,u28,u29,u30,u31,u32,u33,u34,u35,u36,u37,u38,u39,u40,u41,u42,u43,u44,rfl,h,hh,hk⟩
theorem qi6 (x:SysIn) (ca:Option Addr) (cc:Nat) (c:List Int) (w:World) (hG:SysG w x) (hL:x.Len) (hcap:∀ i,i<x.hn->x.hL i<=x.hC i) (hc:Sl w ca c) (hcl:c.length<=1048576) (hV:w.cell? ⟨0,0,none⟩=some (.iface 211 (.agg #[.pointer (some ⟨1,73,none⟩)]))):
  Calls Tryz.prog 26 #[x.v,.slice ca c.length cc] w fun e w'=>∃ u,e=.returned u/\OwnI w' w.heap.size u (clS x.y c)/\Below w.heap.size w w':=by
 have HS:Hid (∀ wx,Below w.heap.size w wx->Calls Tryz.prog 49 #[x.v,.slice ca c.length cc] wx fun e w'=>e=.returned (.bool (cutB x.y c))/\Below wx.heap.size wx w'):=fun wx hb=>qfb x ca cc c wx (hG.below hb) hL (hc.below hb) hcl ((hb.cell (p:=⟨0,0,none⟩) (zJ w _ hV)).trans hV);have BW:Hid (Below w.heap.size w (w.alloc (oQ4 x.pa x.pn x.pc x.sa x.sn x.sc x.wa x.wn x.wc x.ha x.hn x.hc))):=zT _ _;have NB:Hid (BoxC (w.alloc (oQ4 x.pa x.pn x.pc x.sa x.sn x.sc x.wa x.wn x.wc x.ha x.hn x.hc)) w.heap.size (.slice x.pa x.pn x.pc) (.slice x.sa x.sn x.sc) (.slice x.wa x.wn x.wc) (.slice x.ha x.hn x.hc)/\w.heap.size<(w.alloc (oQ4 x.pa x.pn x.pc x.sa x.sn x.sc x.wa x.wn x.wc x.ha x.hn x.hc)).heap.size):=⟨BoxC.new w _ _ _ _ _,by simp⟩
 rcases zK (cutB x.y c) with ht | ht
 case inr=>
  have HV:Hid (clS x.y c=[]):=qvi ht;rw [ht] at HS;clear hG hL hcap hc hV ht
  go_enter Tryz.func26,Tryz.ntmps26
  go_wp2_with fail
  go_step3
  go_wp2_with fail
  generalize w.alloc (oQ4 x.pa x.pn x.pc x.sa x.sn x.sc x.wa x.wn x.wc x.ha x.hn x.hc)=W2 at *;refine (HS.out W2 BW.out).mono ?_;rintro e w1 ⟨rfl,q1⟩
  have OE:Hid (OwnI (w1.alloc (.cells #[] 3)) w.heap.size (.slice (some ⟨w1.heap.size,0,none⟩) 0 0) []/\Below w.heap.size w (w1.alloc (.cells #[] 3))):=by
   have h:=BW.out.trans (q1.mono BW.out.size);exact ⟨(qb0 w1).mono h.size,h.trans ((zT _ _).mono h.size)⟩
  clear q1 BW NB HS;go_wp2;rw [Exit.noGoto_ret];go_ret;rw [HV.out];exact ⟨_,rfl,OE.out⟩
 obtain ⟨hO,hC⟩:=qcr ht;have hln:c.length=x.pn:=hC.len;have h1:1<=x.pn:=hO.cn.1.1;have h4:x.pn<=4:=hO.cn.1.2;have hl':(c.length:Int)<=4:=by omega
 have hl1:(1:Int)<=(c.length:Int):=by omega
 have hl0:¬ (c.length:Int)=0:=by omega
 have hm0:0<=(c.length:Int)*(c.length:Int):=Int.mul_nonneg (by omega) (by omega)
 have hm16:(c.length:Int)*(c.length:Int)<=16:=by
  have:=Int.mul_le_mul (show (c.length:Int)<=4 by omega) (show (c.length:Int)<=4 by omega) (by omega) (by omega);omega
 have HQ:Hid (c.length=x.pn/\0<c.length/\c.length<=4):=⟨hln,by omega,by omega⟩
 have HSl:Hid (Sl w ca c):=hc;have HSt:Hid (x.y.Cl c c):=Sy.Cl.start hC;have HEnd:Hid (∀ e,x.y.Cl c e->x.y.Wh (cN e)->clS x.y c=e):=fun e h h'=>qqe ht h h'
 have HH:Hid (∀ wr g e,CW w wr x g c.length c e->Calls Tryz.prog 50 #[x.v,.slice (some ⟨g,0,none⟩) c.length c.length] wr fun r w'=>∃ ha hc,r=.returned (.agg (hcL ha c.length hc).toArray)/\RowS w' ha c.length (fun i=>.slice (x.hA i) (cN e i) (cN e i))/\Below wr.heap.size wr w'):=fun wr g e h=>by
  have:=qfa x (some ⟨g,0,none⟩) c.length e wr (hG.below h.be) hcap hO.cn.2.2.1 h4 (h.cl.cut hC) h.slOf
  rwa [h.ln] at this
 have HU:Hid (∀ wr g X m e a b,CW w wr x g c.length c e->CH wr x X m c e->a<c.length->b<c.length->Calls Tryz.prog 53 #[.pointer (some ⟨X,0,none⟩),.int .i64 (a:Nat),.int .i64 (b:Nat)] wr fun r w'=>r=.returned (.int .i64 (ovN x.y (cN e) a b))/\Below wr.heap.size wr w'):=fun wr g X m e a b h hh ha hb=>by
  obtain ⟨ea,ec,c0,hr⟩:=hh.c0;have hCe:=h.cl.cut hC;rw [<- h.ln] at c0 hr ha hb;have hn:e.length=x.pn:=hCe.len;exact qhx X ec ea x.hA (cN e) (x.y.at e) a b wr c0 (qqs hG h.be hCe hO.cn.2.2.1 hr) (fun i hi=>zP (hCe.leN (by have h2:i<e.length:=hi;show i<x.pn;omega)) (hO.hl200 (by have h2:i<e.length:=hi;show i<x.pn;omega))) ha hb
 have HNx:Hid (∀ wr g e a b,CW w wr x g c.length c e->a<c.length->b<c.length->0<=ovN x.y (cN e) a b->x.y.Cl c (e.set b (ovN x.y (cN e) a b))/\sm (e.set b (ovN x.y (cN e) a b))<sm e):=fun wr g e a b h ha hb h0=>by
  obtain ⟨q1,q2,q3⟩:=h.cl.next (a:=a) (b:=b) (by show a<x.pn;omega) (by show b<x.pn;omega) h0;exact ⟨q1,qr1 e b _ (by rw [h.ln];exact hb) q3 q2⟩
 rw [ht] at HS;clear hG hL hcap hc hV ht hO hC hln h1 h4
 go_enter Tryz.func26,Tryz.ntmps26
 go_wp2_with fail
 refine ql3 (CJ0 w x ca cc c) (CJ1 w x ca cc c) rfl rfl ?first ?pass0 ?pass1
 case first=>
  intro hyp;go_wp2_with fail
  generalize w.alloc (oQ4 x.pa x.pn x.pc x.sa x.sn x.sc x.wa x.wn x.wc x.ha x.hn x.hc)=W2 at *;refine (HS.out W2 BW.out).mono ?_;rintro e w1 ⟨rfl,q1⟩;have B1:Hid (Below w.heap.size w w1/\BoxC w1 w.heap.size (.slice x.pa x.pn x.pc) (.slice x.sa x.sn x.sc) (.slice x.wa x.wn x.wc) (.slice x.ha x.hn x.hc)/\w.heap.size<w1.heap.size):=⟨BW.out.trans (q1.mono BW.out.size),NB.1.below q1,zL NB.2 q1.size⟩
  clear q1 BW NB HS;go_wp2_with fail
  refine (qi0 ca cc c w1 HQ.2.1 (by have:=HQ.out;omega) (HSl.out.below B1.1)).mono ?_;rintro e w2 ⟨rfl,o2,q2⟩;have B2:Hid (CW w w2 x w1.heap.size c.length c c):=⟨o2.mono B1.2.2,B1.1.trans (q2.mono B1.1.size),B1.2.1.below q2,HSt.out,rfl⟩
  clear q2 o2 B1;generalize w1.heap.size=g at *;go_wp2_with fail
  go_step3
  rename_i K hK;exact hK _ _ (hyp _ _ _ (CJ0.mk B2.out rfl))
 case pass0=>
  intro k hyp a' wr hJ;obtain ⟨g,e,u3,u7,u8,u9,u10,u11,u12,u13,u14,u15,u16,u17,u18,u19,u20,u21,u22,u23,u24,u25,u26,u27,u28,u29,u30,u31,u32,u33,u34,u35,u36,u37,u38,u39,u40,u41,u42,u43,u44,rfl,HB⟩:=hJ;obtain ⟨b0,b1,b2,b3⟩:=HB.1.bx;clear HS BW NB HSl HSt;go_wp2_with fail
  refine (HH.out wr g e HB.1).mono ?_;rintro r w2 ⟨ea,ec,rfl,r2,q2⟩;have B2:Hid (CW w w2 x g c.length c e/\RowS w2 ea c.length (fun i=>.slice (x.hA i) (cN e i) (cN e i))/\k=sm e*40+20):=⟨HB.1.below q2,r2,HB.2⟩
  clear q2 r2 b0 b1 b2 b3 HB HH;have hl:=qmv ea c.length ec;have ho:=qmw ea c.length ec;generalize hcs:hcL ea c.length ec=cl at *;have hs:cl.toArray.size=21:=by simpa using hl
  have HI:Hid ((Tryz.prog.info? 88).map (·.size)=some cl.toArray.size):=by show _=_;rw [hs];exact qer
  have HO:Hid (cl.toArray.all (·.oneCell')=true):=all_oneCell_toArray ho;have HT:Hid ((w2.alloc (zQ2)).there w2.heap.size 0 cl.toArray.size):=qbt _ _ _ _ _ (by rw [hs];rfl) rfl;have BE:Hid (Below w2.heap.size w2 ((w2.alloc (zQ2)).setCells w2.heap.size 0 cl)):=(qat.sets (P:=fun b=>b=w2.heap.size) rfl _ _ (qat.of_below (zT _ _))).below (Nat.le_refl _) fun b e=>by omega
  have HR:((w2.alloc (zQ2)).setCells w2.heap.size 0 cl).rangeAt w2.heap.size 0 cl:=World.rangeAt_setCells_same _ _ _ _ (by simpa using HT.out);have HCe:Hid (((w2.alloc (zQ2)).setCells w2.heap.size 0 cl).cell? ⟨w2.heap.size,0,none⟩=some (.slice ea c.length ec)):=qn2 HR hcs;clear hl ho hs HR hcs;go_wp2_with (refine wpList_store_mid rfl 88 (.tmp 7) (.tmp 22) rfl w2.heap.size 0 cl.toArray rfl rfl HT.out HI.out HO.out ?_)
  clear HT HI HO;generalize (w2.alloc (zQ2)).setCells w2.heap.size 0 cl=w3 at *;have B3:Hid (CW w w3 x g c.length c e/\CH w3 x w2.heap.size 0 c e/\k=sm e*40+20):=⟨B2.1.below BE.out,⟨⟨ea,ec,HCe.out,B2.2.1.below BE.out⟩,Nat.zero_le _,fun i hi=>by omega⟩,B2.2.2⟩
  clear BE B2 HCe;generalize w2.heap.size=X at *
  go_step3
  rename_i K hK;exact hK _ _ (hyp (sm e*40+16) _ _ (by have:=B3.2.2;omega) (CJ1.mk (m:=0) B3.1 B3.2.1 rfl))
 case pass1=>
  intro k a' wr hJ;obtain ⟨g,X,m,e,u3,u9,u10,u11,u12,u13,u14,u15,u16,u17,u18,u19,u20,u21,u22,u23,u24,u25,u26,u27,u28,u29,u30,u31,u32,u33,u34,u35,u36,u37,u38,u39,u40,u41,u42,u43,u44,rfl,HB⟩:=hJ;clear HS BW NB HSl HSt HH
  rcases zK ((m:Int) == (c.length:Int)*(c.length:Int)) with t | t
  ·have HM:Hid (m=c.length*c.length):=by
    have h:(m:Int)=(c.length:Int)*(c.length:Int):=by simpa using t
    rw [<- Int.natCast_mul] at h;show m=_;omega
   have HV:Hid (OwnI wr w.heap.size (.slice (some ⟨g,0,none⟩) c.length c.length) (clS x.y c)/\Below w.heap.size w wr):=by
    have hw:x.y.Wh (cN e):=fun a ha b hb=>by
     have hq:=HQ.out;have ha':a<c.length:=by have h3:a<x.pn:=ha;omega
     have hb':b<c.length:=by have h3:b<x.pn:=hb;omega
     have h := HB.2.1.ok (a * c.length + b) (by
      rw [HM.out];have h5:(a+1)*c.length<=c.length*c.length:=Nat.mul_le_mul_right _ ha';rw [Nat.add_mul,Nat.one_mul] at h5
      omega)
     rw [Nat.mul_add_mod' a c.length b,Nat.mod_eq_of_lt hb',Nat.mul_comm a,Nat.mul_add_div (by omega),Nat.div_eq_of_lt hb',Nat.add_zero] at h;exact h
    rw [HEnd.out e HB.1.cl hw];exact ⟨HB.1.ow.mono (by omega),HB.1.be⟩
   clear HB HM;go_wp2;rw [qu9];go_ret;exact ⟨_,rfl,HV.out⟩
  have hmlt:m<c.length*c.length:=by
   have h:=HB.2.1.lt
   have h2:m≠c.length*c.length:=fun h=>by
    rw [h,Int.natCast_mul] at t;simp at t
   omega
  have hm16':c.length*c.length<=16:=by
   have hq:=HQ.out;exact Nat.mul_le_mul hq.2.2 hq.2.2
  have hmi:(m:Int)<=16:=by omega
  have eq1:Int.tdiv (m:Int) (c.length:Int)=((m / c.length:Nat):Int):=(Int.ofNat_tdiv m c.length).symm;have eq2:Int.tmod (m:Int) (c.length:Int)=((m % c.length:Nat):Int):=(Int.ofNat_tmod m c.length).symm;have HM:Hid (m<c.length*c.length/\m<16/\m / c.length<c.length/\m % c.length<c.length):=⟨hmlt,by omega,Nat.div_lt_of_lt_mul hmlt,Nat.mod_lt _ HQ.2.1⟩
  have ha4:((m / c.length:Nat):Int)<=4:=by have:=HM.out;have:=HQ.out;omega
  have hb4:((m % c.length:Nat):Int)<(c.length:Int):=by have:=HM.out;omega
  clear hmlt hm16';generalize hA':m / c.length=A at *;generalize hB':m % c.length=B at *;have HAB:Hid (m / c.length=A/\m % c.length=B):=⟨hA',hB'⟩
  clear hA' hB';go_wp2_with fail
  refine (HU.out wr g X m e (A) (B) HB.1 HB.2.1 HM.2.2.1 HM.2.2.2).mono ?_;rintro r w3 ⟨rfl,q3⟩;have B3:Hid (CW w w3 x g c.length c e/\CH w3 x X m c e/\k=sm e*40+(16 - m)):=⟨HB.1.below q3,HB.2.1.below q3,HB.2.2⟩
  have HN:Hid (ovN x.y (cN e) (A) (B)<0 ↔ tN x.y (cN e) (A) (B)<=sN x.y (cN e) (A) (B)):=qhm;have HX:Hid (0<=ovN x.y (cN e) (A) (B)->x.y.Cl c (e.set (B) (ovN x.y (cN e) (A) (B)))/\sm (e.set (B) (ovN x.y (cN e) (A) (B)))<sm e):=fun h=>HNx.out w3 g e _ _ B3.1 HM.2.2.1 HM.2.2.2 h;generalize ovN x.y (cN e) (A) (B)=ov at *;clear q3 HB HU HNx;by_cases ho:ov<0
  ·have B4 : Hid (CW w w3 x g c.length c e ∧ CH w3 x X (m + 1) c e ∧ sm e * 40 + (16 - (m + 1)) < k) := ⟨B3.1, ⟨B3.2.1.c0, HM.1, fun i hi => by
    by_cases ei:i=m
    ·subst ei
     rw [HAB.1,HAB.2];exact HN.1 ho
    ·exact B3.2.1.ok i (by omega)⟩,by
    rw [B3.2.2];have:=HM.2.1
    omega⟩
   clear B3 HN HX;go_wp2_with fail
   go_step3
   have e8:(m:Int)+1=((m+1:Nat):Int):=by omega
   rw [e8];exact ⟨_,B4.2.2,CJ1.mk (m:=m+1) B4.1 B4.2.1 rfl⟩
  ·obtain ⟨ce,cf⟩:=B3.1.cell HM.2.2.2
   have B4 : Hid (CW w (w3.setCell ⟨g, B, none⟩ (.int .i64 ov)) x g c.length c (e.set (B) ov) ∧ sm (e.set (B) ov) * 40 + 20 < k) := ⟨B3.1.put (HX.out (by omega)).1, by
    rw [B3.2.2];have:=(HX.out (by omega)).2
    omega⟩
   clear B3 HN HX;go_wp2_with fail
   go_step3
   exact ⟨_,B4.2,CJ0.mk B4.1 rfl⟩
