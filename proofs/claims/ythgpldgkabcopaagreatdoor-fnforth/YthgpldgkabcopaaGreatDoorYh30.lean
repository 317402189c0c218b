import Derived.Test.YthgpldgkabcopaaGreatDoorYh29
import Derived.Test.YthgpldgkabcopaaGreatDoorTie
import Derived.ChangeSame
import Derived.ChangeVars
import Derived.JoinedOf
import Derived.RowKit
import Derived.LaidLaws
import Derived.LaidHandle
import Derived.Stop.Joined
namespace Go.Proofs.YthgpldgkabcopaaGreatDoor
set_option maxRecDepth 100000
set_option maxHeartbeats 1000000
open Go.ChangeShapes Go.WideShapes Go.ChangeAt Go.RowKit Go.Deep Go.Sort
theorem qfq (x:SysIn) (ca:Option Addr) (cc:Nat) (c:List Int) (w:World) (hG:SysG w x) (hL:x.Len) (hc:Sl w ca c) (hcl:c.length<=1048576) (hV:w.cell? (aQ 0 0)=some (.iface 167 (.agg #[.pointer (some (aQ 1 120))]))):
  Calls Tryz.prog 69 #[x.v,.slice ca c.length cc] w fun e w'=>e=.returned (.bool (cutB x.y c))/\Bw w w':=by
 have HG:Hid (SysG w x):=hG
 have HC:Hid (Sl w ca c):=hc
 have hl':(c.length:Int)<=1048576:=by omega
 have hh':(x.hn:Int)<=1048576:=by have:=hL.h.1;omega
 have HLh:Hid (∀ i,i<x.hn->x.hL i<=1048576):=hL.h.2
 have HS:Hid (∀ wx,Bw w wx->Calls Tryz.prog 26 #[x.v] wx fun e w'=>e=.returned (.bool x.y.okB)/\Bw wx w'):=fun wx hb=>qce x wx (hG.below hb) hL ((hb.cell (p:=⟨0,0,none⟩) (zJ w _ hV)).trans hV)
 have BW:Hid (Bw w (w.alloc (x.oX))):=zT _ _
 have NB:Hid (x.bX (w.alloc (x.oX)) w.heap.size):=BoxC.new w _ _ _ _ _
 have HX:Hid (cutB x.y c=(x.y.okB && qB (x.y.Cut c))):=rfl
 generalize cutB x.y c=R at *
 clear hG hL hV hc
 go_enter Tryz.func69,Tryz.ntmps69
 go_wp2_with fail
 generalize w.alloc (x.oX)=W2 at *
 refine (HS.out W2 BW.out).mono ?_
 rintro e w1 ⟨rfl,q1⟩
 have B1:Hid (Bw w w1/\x.bX w1 w.heap.size):=⟨BW.out.trans (q1.mono BW.out.size),NB.out.below q1⟩
 clear q1 BW NB HS
 rcases zK x.y.okB with t | t
 case inr=>
  have HV:Hid (R=false):=by
   show R=false
   rw [HX.out,t]
   rfl
  rw [t]
  clear t HX
  go_wp2
  go_ret
  rw [HV.out]
  exact ⟨rfl,B1.out.1⟩
 have HN:Hid (x.hn=x.pn):=(Sy.ok_of t).cn.2.2.1
 have HV:Hid (R=qB (x.y.Cut c)):=by
  show R=_
  rw [HX.out,t]
  rfl
 rw [t]
 clear t HX
 have b3:=B1.out.2.2.2.2
 rcases zK ((c.length:Int) != (x.hn:Int)) with t | t
 case inl=>
  have HZ:Hid (R=false):=by
   show R=false
   rw [HV.out]
   refine qaz fun h=>?_
   have h1:c.length=x.pn:=h.len
   rw [h1,HN.out] at t
   simp at t
  clear HV
  go_wp2
  go_ret
  rw [HZ.out]
  exact ⟨rfl,B1.out.1⟩
 have HQ:Hid (c.length=x.hn):=by
  have h:(c.length:Int)=(x.hn:Int):=by simpa using t
  show c.length=x.hn
  omega
 go_wp2_with fail
 clear b3 t
 go_loopw [20] (fun i wr=>∃ k:Nat,k<=c.length/\i=.int .i64 k/\Hid (Bw w wr/\x.bX wr w.heap.size)/\Hid (∀ j,j<k->0<=zi c j/\zi c j<=(x.hL j:Int))) (fun i _=>c.length - (intOf i).toNat)
 case atStart=>exact ⟨0,Nat.zero_le _,rfl,B1.out,fun j hj=>by omega⟩
 case round=>
  clear B1
  obtain ⟨k,hk,rfl,HB,HK⟩:=hrel
  by_cases hlt:k<c.length
  ·have hlt':(k:Int)<(c.length:Int):=by omega
   have hkn:k<x.hn:=by have:=HQ.out;omega
   have hkn':(k:Int)<(x.hn:Int):=by omega
   obtain ⟨cb,co,rfl,-,c0⟩:=(HC.out.below HB.out.1).at hlt
   obtain ⟨bh,oh,eh,ch⟩:=(HG.out.below HB.out.1).h.at hkn
   have b3:=HB.out.2.2.2.2
   rw [eh] at b3
   clear eh
   generalize hZ:zi c k=Z at *
   have HX:Hid (zi c k=Z):=hZ
   clear hZ
   by_cases hz0:Z<0
   ·have HZ:Hid (R=false):=by
     show R=false
     rw [HV.out]
     refine qaz fun h=>?_
     have h1:=(h.le k (by have:=HQ.out;have:=HN.out;show k<x.pn;omega)).1
     rw [HX.out] at h1
     omega
    have B3:=HB.out.1
    clear HV HK HB
    go_wp2
    go_ret
    rw [HZ.out]
    exact ⟨rfl,B3⟩
   ·by_cases hz1:(x.hL k:Int)<Z
    ·have HZ:Hid (R=false):=by
      show R=false
      rw [HV.out]
      refine qaz fun h=>?_
      have h1:=(h.le k (by have:=HQ.out;have:=HN.out;show k<x.pn;omega)).2
      rw [HX.out] at h1
      have h2:Z<=(x.hL k:Int):=h1
      omega
     have B3:=HB.out.1
     clear HV HK HB
     go_wp2
     go_ret
     rw [HZ.out]
     exact ⟨rfl,B3⟩
    ·have HK':Hid (∀ j,j<k+1->0<=zi c j/\zi c j<=(x.hL j:Int)):=fun j hj=>by
      by_cases e:j=k
      ·subst e
       rw [HX.out]
       omega
      ·exact HK.out j (by omega)
     clear HK HX
     go_wp2
     go_roundw
     case rel=>exact ⟨k+1,by omega,by go_num,HB.out,HK'.out⟩
     case measure=>simp [intOf];omega
  ·have HZ:Hid (R=true):=by
    show R=true
    rw [HV.out]
    exact qba ⟨HQ.out.trans HN.out,fun p hp=>HK.out p (by have:=HQ.out;have:=HN.out;have h1:p<x.pn:=hp;omega)⟩
   have B3:=HB.out.1
   clear HK HB
   go_wp2
   go_ret
   rw [HZ.out]
   exact ⟨rfl,B3⟩
theorem qop {w w':World} {b o n B:Nat} (h:w.there b o n) (hb:Below B w w') (hB:b<B):w'.there b o n:=fun j hj=>by
 obtain ⟨h1,h2⟩:=h j hj
 have e:=hb.block b hB
 exact ⟨(congrArg (Option.isSome) (zH (a:=⟨b,o+j,none⟩) e)).trans h1,(zI (a:=⟨b,o+j,none⟩) e).trans h2⟩
theorem qso {w:World} {B b n cap:Nat} {E:TypeId} {a:Option Addr} {f:Nat->Value} {xs cl:List Value} (h:RowS w a n f) (ho:w.ownsRow B E 1 (.slice a n cap) n xs) (hb:b<B):RowS (w.setCells b 0 cl) a n f:=by
 rcases h with h | ⟨g,off,rfl,hlt,hc⟩
 ·exact .inl h
 ·have hg:g≠b:=by
   rcases ho.2 with ⟨e,h0⟩ | ⟨g',cap',cur,e,hB,_⟩
   ·cases e
   ·simp only [Value.slice.injEq,Option.some.injEq,Addr.mk.injEq] at e
    omega
  have ht:qax (fun k=>k=b) w (w.setCells b 0 cl):=qax.sets (P:=fun k=>k=b) rfl _ _ (qax.refl _ _)
  exact .inr ⟨g,off,rfl,zL hlt ht.size,fun i hi=>(ht.cell hlt hg _).trans (hc i hi)⟩
theorem qsw (a:Option Addr) (len cap h:Nat) (hh:h<=cap) (w:World):(Instr.slice 35 (.slice a len cap) none (some (.int .i64 (h:Int))) (some (.int .i64 (h:Int)))).run Tryz.prog w=.ok (.slice a h h) w:=by
 have hh':(h:Int)<=(cap:Int):=by omega
 cases a with
 | none=>simp [go_sem,sliced,hh']
 | some a=>simp [go_sem,sliced,hh']
theorem qul {w:World} {B:Nat} {E:TypeId} {v:Value} {n:Nat} {u:Nat->Value} (h:w.ownsRow B E 1 v n ((List.range n).map u)):∃ a cap,v=.slice a n cap/\RowS w a n u:=by
 rcases h.2 with ⟨rfl,h0⟩ | ⟨g,cap,cur,rfl,hb,_⟩
 ·exact ⟨none,0,by rw [h0],.inl h0⟩
 ·refine ⟨_,cap,rfl,.inr ⟨g,0,rfl,(h.lt g rfl).2,fun i hi=>?_⟩⟩
  rw [Nat.zero_add,World.ownsRow.cellAt h i (by omega)]
  simp [hi]
def hcL (ha:Option Addr) (hn hc:Nat):List Value:=[.slice ha hn hc,.int .i64 0,.int .i64 0,.int .i64 0,.int .i64 0,.int .i64 0,.int .i64 0,.int .i64 0,.int .i64 0,.int .i64 0,.int .i64 0,.int .i64 0,.int .i64 0,.int .i64 0,.int .i64 0,.int .i64 0,.int .i64 0,.int .i64 0,.int .i64 0,.int .i64 0,.int .i64 0]
theorem qjr (ha:Option Addr) (hn hc:Nat):(hcL ha hn hc).length=21:=rfl
theorem qjs (ha:Option Addr) (hn hc:Nat):∀ v ∈ hcL ha hn hc,v.oneCell'=true:=by
 intro v hv
 simp only [hcL,List.mem_cons,List.not_mem_nil,or_false] at hv
 rcases hv with rfl | rfl | rfl | rfl | rfl | rfl | rfl | rfl | rfl | rfl | rfl | rfl | rfl | rfl | rfl | rfl | rfl | rfl | rfl | rfl | rfl <;> rfl
theorem qdz:(Tryz.prog.info? 78).map (·.size)=some 21:=by kernel_rfl
theorem qkg {fn:Func} {ra:Nat} {ty:TypeId} (h:fn.results=#[.cell ra ty]) (tmps:Array Value) (w:World) (N:Nat) (cs:List Value) (d:TypeDesc) (ha:tmps.getD ra undef=.pointer (some (aQ N 0))) (hc:w.rangeAt N 0 cs) (hu:Tryz.prog.underlying ty=some d) (hd:d.isRow=true) (hi:(Tryz.prog.info? ty).map (·.size)=some cs.length):
  (results fn tmps).run Tryz.prog w=.ok (.agg cs.toArray) w:=by
 have hl:=run_loadVar_mid (P:=Tryz.prog) w N 0 ty cs d hc hu hd hi
 rw [Array.getD_eq_getD_getElem?] at ha
 simp [results,h,ha,asAddr,hl]
theorem qdw (x:SysIn) (ca:Option Addr) (cc:Nat) (c:List Int) (w:World) (hG:SysG w x) (hcap:∀ i,i<x.hn->x.hL i<=x.hC i) (hhn:x.hn=x.pn) (h4:x.pn<=4) (hC:x.y.Cut c) (hc:Sl w ca c):
  Calls Tryz.prog 65 #[x.v,.slice ca c.length cc] w fun e w'=>∃ ha hc,e=.returned (.agg (hcL ha c.length hc).toArray)/\RowS w' ha c.length (fun i=>.slice (x.hA i) (cN c i) (cN c i))/\Bw w w':=by
 have HG:Hid (SysG w x):=hG
 have HSl:Hid (Sl w ca c):=hc
 have hcl:c.length=x.pn:=hC.len
 have hl':(c.length:Int)<=4:=by omega
 have HQ:Hid (c.length=x.hn/\c.length<=4):=⟨by omega,by omega⟩
 have HZ:Hid (∀ p,p<c.length->zi c p=(cN c p:Nat)/\cN c p<=x.hC p):=fun p hp=>⟨hC.nat (by show p<x.pn;omega),zP (hC.leN (by show p<x.pn;omega)) (hcap p (by omega))⟩
 obtain ⟨cs,hcs,hmk⟩:=qct qj1 c.length (by omega)
 have HCS:Hid (cs.size=c.length):=hcs
 have BW:Hid (Bw w ((w.alloc (x.oX)).alloc (zQ4))):=(zT _ _).trans ((zT _ _).mono (by simp))
 have NB:Hid (x.bX ((w.alloc (x.oX)).alloc (zQ4)) w.heap.size):=(BoxC.new w _ _ _ _ _).below (zT _ _)
 have NT:Hid (((w.alloc (x.oX)).alloc (zQ4)).there (w.heap.size+1) 0 21):=qbt _ _ _ _ _ rfl (by simp)
 have NS:Hid (((w.alloc (x.oX)).alloc (zQ4)).heap.size=w.heap.size+2):=by show _=_;simp
 clear hG hcap hhn h4 hC hc hcl hcs
 go_enter Tryz.func65,Tryz.ntmps65
 go_upto_region 1 with fail
 generalize (w.alloc (x.oX)).alloc (zQ4)=W2 at *
 go_upto_region 2 with fail
 clear hmk
 have O0:Hid ((W2.alloc (.cells cs 35)).ownsRow (w.heap.size+2) 35 1 (.slice (some (aQ W2.heap.size 0)) 0 c.length) 0 ((List.range 0).map fun i=>.slice (x.hA i) (cN c i) (cN c i))):=by
  have:=World.ownsRow_made (base:=w.heap.size+2) (e:=35) (size:=1) W2 cs c.length (by rw [NS.out];omega) (by unfold maxLen;have:=HQ.out;omega) (by rw [HCS.out,Nat.mul_one])
  exact this
 have B0:Hid (Below (w.heap.size+2) W2 (W2.alloc (.cells cs 35))):=(zT _ _).mono (by rw [NS.out];omega)
 generalize W2.alloc (.cells cs 35)=W3 at *
 go_wp2_with fail
 go_loopw [5,13] (fun o i wr=>∃ k:Nat,k<=c.length/\i=.int .i64 k/\Hid (wr.ownsRow (w.heap.size+2) 35 1 o k ((List.range k).map fun i=>.slice (x.hA i) (cN c i) (cN c i))/\Below (w.heap.size+2) W2 wr)) (fun _ i _=>c.length - (intOf i).toNat)
 case atStart=>exact ⟨0,Nat.zero_le _,rfl,O0.out,B0.out⟩
 case round=>
  clear O0 B0
  obtain ⟨k,hk,rfl,HB⟩:=hrel
  have BE:Hid (Bw w wr/\x.bX wr w.heap.size/\w.heap.size+2<=wr.heap.size):=⟨BW.out.trans (HB.out.2.mono (by omega)),NB.out.belowB HB.out.2 (by omega),by have:=HB.out.2.size;have:=NS.out;omega⟩
  by_cases hlt:k<c.length
  ·have hlt':(k:Int)<(c.length:Int):=by omega
   have hkn:k<x.hn:=by have:=HQ.out;omega
   have hkn':(k:Int)<(x.hn:Int):=by omega
   obtain ⟨cb,co,rfl,-,c0⟩:=(HSl.out.below BE.out.1).at hlt
   obtain ⟨bh,oh,eh,ch⟩:=(HG.out.below BE.out.1).h.at hkn
   have b3:=BE.out.2.1.2.2.2
   rw [eh] at b3
   clear eh
   rw [(HZ.out k hlt).1] at c0
   have ks:=qsw (x.hA k) (x.hL k) (x.hC k) (cN c k) (HZ.out k hlt).2
   have HK2:Hid (k<=2000000):=by show _<=_;have:=HQ.out;omega
   go_wp2_with (at_builtin;refine qas qj1 wr rfl rfl _ _ rfl (w.heap.size+2) u5 k _ rfl HB.out.1 #[.slice (x.hA k) (cN c k) (cN c k)] rfl rfl (by intro u hu;simp at hu;subst hu;rfl) HK2.out BE.out.2.2 ?_;intro v5 w5 o5 g5 q5 n5;have F5:Hid (w5.ownsRow (w.heap.size+2) 35 1 v5 (k+1) ((List.range (k+1)).map fun i=>.slice (x.hA i) (cN c i) (cN c i))/\Below (w.heap.size+2) W2 w5):=⟨by rw [List.range_succ,List.map_append];exact o5,Below.grown HB.out.2 g5 BE.out.2.2 (fun j hj=>(HB.out.1.lt j hj).1)⟩;clear o5 g5 q5 n5)
   go_roundw
   case rel=>exact ⟨k+1,by omega,by go_num,F5.out⟩
   case measure=>simp [intOf];omega
  ·have hkl:k=c.length:=by omega
   have F5:Hid (wr.ownsRow (w.heap.size+2) 35 1 u5 c.length ((List.range c.length).map fun i=>.slice (x.hA i) (cN c i) (cN c i))):=by
    have:=HB.out.1
    rw [hkl] at this
    exact this
   obtain ⟨ea,ec,rfl,rs⟩:=qul F5.out
   have RS:Hid (RowS wr ea c.length fun i=>.slice (x.hA i) (cN c i) (cN c i)):=rs
   have hl:=qjr ea c.length ec
   have ho:=qjs ea c.length ec
   generalize hcs:hcL ea c.length ec=cl at *
   have HCL:Hid (hcL ea c.length ec=cl):=hcs
   have hs:cl.toArray.size=21:=by simpa using hl
   have HT:Hid (wr.there (w.heap.size+1) 0 cl.toArray.size):=by
    show wr.there _ _ _
    rw [hs]
    exact qop NT.out HB.out.2 (by omega)
   have HI:Hid ((Tryz.prog.info? 78).map (·.size)=some cl.length):=by show _=_;rw [hl];exact qdz
   have HO:Hid (cl.toArray.all (·.oneCell')=true):=all_oneCell_toArray ho
   have OW:Hid (∀ j,(Value.slice ea c.length ec).ownBlock=some j->w.heap.size+2<=j):=fun j hj=>(F5.out.lt j hj).1
   have RK:Hid (RowS (wr.setCells (w.heap.size+1) 0 cl) ea c.length fun i=>.slice (x.hA i) (cN c i) (cN c i)):=qso RS.out (F5.out) (by omega)
   have BK:Hid (Bw w (wr.setCells (w.heap.size+1) 0 cl)):=BE.out.1.trans ((qax.sets (P:=fun b=>b=w.heap.size+1) rfl _ _ (qax.refl _ _)).below BE.out.1.size fun b e=>by omega)
   clear hcs hl ho hs HB hkl rs RS F5 BE
   go_wp2_with (refine wpList_store_mid rfl 78 (.tmp 4) (.tmp 31) rfl (w.heap.size+1) 0 cl.toArray rfl (by rw [<- HCL.out];rfl) HT.out (by simpa using HI.out) HO.out ?_)
   have HR:Hid ((wr.setCells (w.heap.size+1) 0 cl).rangeAt (w.heap.size+1) 0 cl):=World.rangeAt_setCells_same _ _ _ _ (by simpa using HT.out)
   clear HT
   generalize wr.setCells (w.heap.size+1) 0 cl=W5 at *
   exact bodyPost_ret (qkg Tryz.results65 _ _ (w.heap.size+1) cl _ rfl HR.out Tryz.underlying78 rfl HI.out) rfl ⟨ea,ec,by rw [HCL.out],RK.out,BK.out⟩
theorem qmi (X hc:Nat) (ha:Option Addr) (hA:Nat->Option Addr) (hC:Nat->Nat) (y:Hs) (a b:Nat) (w:World) (c0:w.cell? ⟨X,0,none⟩=some (.slice ha y.n hc)) (hE:HisE w ha hA hC y) (hl:∀ i,i<y.n->y.l i<=200) (han:a<y.n):
  Calls Tryz.prog 96 #[.pointer (some (aQ X 0)),.int .i64 a,.int .i64 b] w fun e w'=>∃ a1 c1,e=.returned (.slice a1 (valL (y.e a) 2 b (y.l a)).length c1)/\OwnI w' w.heap.size (.slice a1 (valL (y.e a) 2 b (y.l a)).length c1) (valL (y.e a) 2 b (y.l a))/\Bw w w':=by
 have HE:Hid (EvL w (hA a) (y.l a) (y.e a)):=hE.ev a han
 have HLb:Hid (y.l a<=1048576):=by have:=hl a han;show _<=_;omega
 have ha':(a:Int)<(y.n:Int):=by omega
 obtain ⟨bh,oh,eh,ch⟩:=hE.row.at han
 rw [eh] at c0
 clear hE hl eh
 go_enter Tryz.func96,Tryz.ntmps96
 go_wp2_with fail
 refine (qc8 (hA a) (y.l a) _ (y.e a) 2 b w HLb.out HE.out).mono ?_
 rintro e w1 ⟨v,rfl,o1,b1⟩
 obtain ⟨a1,c1,rfl,-⟩:=o1.form
 have O1:Hid (OwnI w1 w.heap.size (.slice a1 (valL (y.e a) 2 b (y.l a)).length c1) (valL (y.e a) 2 b (y.l a))/\Bw w w1):=⟨o1,b1⟩
 clear o1 b1 c0 ch
 go_wp2
 go_ret
 exact ⟨_,_,rfl,O1.out⟩
theorem qif (X hc:Nat) (ha:Option Addr) (hA:Nat->Option Addr) (hC:Nat->Nat) (y:Hs) (a b:Nat) (w:World) (c0:w.cell? ⟨X,0,none⟩=some (.slice ha y.n hc)) (hE:HisE w ha hA hC y) (hl:∀ i,i<y.n->y.l i<=200) (han:a<y.n) (hbn:b<y.n):
  Calls Tryz.prog 71 #[.pointer (some (aQ X 0)),.int .i64 a,.int .i64 b] w fun e w'=>e=.returned (.int .i64 (nthV (y.e b) 3 a (y.l b) (cnt (y.e a) 2 b (y.l a):Nat)))/\Bw w w':=by
 have HS:Hid (∀ wx,Bw w wx->Calls Tryz.prog 96 #[.pointer (some ⟨X,0,none⟩),.int .i64 a,.int .i64 b] wx fun e w'=>∃ a1 c1,e=.returned (.slice a1 (cnt (y.e a) 2 b (y.l a)) c1)/\Bw wx w'):=fun wx hb=>by
  refine (qmi X hc ha hA hC y a b wx ((hb.cell (p:=(aQ X 0)) (zJ w _ c0)).trans c0) (hE.below hb) hl han).mono ?_
  rintro e w1 ⟨a1,c1,rfl,-,q⟩
  exact ⟨a1,c1,by rw [qb9];rfl,q⟩
 have HN:Hid (∀ wx,Bw w wx->Calls Tryz.prog 109 #[.slice (hA b) (y.l b) (hC b),.int .i64 3,.int .i64 a,.int .i64 (cnt (y.e a) 2 b (y.l a):Nat)] wx fun e w'=>e=.returned (.int .i64 (nthV (y.e b) 3 a (y.l b) (cnt (y.e a) 2 b (y.l a):Nat)))/\Bw wx w'):=fun wx hb=>qrt (hA b) (y.l b) (hC b) (y.e b) 3 a _ wx (by have:=hl b hbn;omega) ((hE.below hb).ev b hbn)
 have hcn:cnt (y.e a) 2 b (y.l a)<=200:=zP (qlp _ _ _ _) (hl a han)
 have hbn':(b:Int)<(y.n:Int):=by omega
 obtain ⟨bh,oh,eh,ch⟩:=hE.row.at hbn
 rw [eh] at c0
 clear hE hl eh
 generalize nthV (y.e b) 3 a (y.l b) (cnt (y.e a) 2 b (y.l a):Nat)=V at *
 generalize cnt (y.e a) 2 b (y.l a)=cn at *
 have hcn':(cn:Int)<=200:=by omega
 have HC0:Hid (w.cell? (aQ X 0)=some (.slice (some (aQ bh oh)) y.n hc)):=c0
 have HC1:Hid (w.cell? ⟨bh,oh+b,none⟩=some (.slice (hA b) (y.l b) (hC b))):=ch
 go_enter Tryz.func71,Tryz.ntmps71
 go_wp2_with fail
 go_region_law (first
  | (refine qdq rfl 96 _ _ rfl #[.pointer (some (aQ X 0)),.int .i64 a,.int .i64 b] (by simp [Act.eval,Act.put]) (yB Tryz.func96 (by kernel_rfl) rfl) (HS.out w.drew (Below.refl _ _).drew) ?_;rintro e w1 ⟨a1,c1,rfl,b1⟩;refine ⟨_,rfl,?_⟩;have q1:Bw w w1:=(Below.refl w.heap.size w).drew.trans b1;have c2:=(q1.cell (p:=(aQ X 0)) (zJ w _ HC0.out)).trans HC0.out;have c3:=(q1.cell (p:=⟨bh,oh+b,none⟩) (zJ w _ HC1.out)).trans HC1.out;have Q1:Hid (Bw w w1):=q1;clear b1 q1)
  | (refine qdq rfl 109 _ _ rfl #[.slice (hA b) (y.l b) (hC b),.int .i64 3,.int .i64 a,.int .i64 (cn:Nat)] (by simp [Act.eval,Act.put]) (yB Tryz.func109 (by kernel_rfl) rfl) (HN.out w1 Q1.out) ?_;rintro e w2 ⟨rfl,b2⟩;refine ⟨_,rfl,?_⟩;have Q2:Hid (Bw w w2):=Q1.out.trans (b2.mono Q1.out.size);clear b2))
 all_goals
  clear Q1
  go_wp2
  go_ret
  exact ⟨rfl,Q2.out⟩
theorem ql6 (X hc:Nat) (ha:Option Addr) (hA:Nat->Option Addr) (hC:Nat->Nat) (y:Hs) (w:World) (c0:w.cell? ⟨X,0,none⟩=some (.slice ha y.n hc)) (hE:HisE w ha hA hC y) (hl:∀ i,i<y.n->y.l i<=200) (h4:y.n<=4):
  Calls Tryz.prog 105 #[.pointer (some ⟨X,0,none⟩)] w fun e w'=>e=.returned (.bool (qB (∀ a,a<y.n->∀ b,b<y.n->nthV (y.e b) 3 a (y.l b) (cnt (y.e a) 2 b (y.l a):Nat)<0)))/\Bw w w':=by
 have HOv:Hid (∀ wx,Bw w wx->∀ a b,a<y.n->b<y.n->Calls Tryz.prog 71 #[.pointer (some ⟨X,0,none⟩),.int .i64 (a:Nat),.int .i64 (b:Nat)] wx fun e w'=>e=.returned (.int .i64 (nthV (y.e b) 3 a (y.l b) (cnt (y.e a) 2 b (y.l a):Nat)))/\Bw wx w'):=fun wx hb a b ha' hb'=>qif X hc ha hA hC y a b wx ((hb.cell (p:=⟨X,0,none⟩) (zJ w _ c0)).trans c0) (hE.below hb) hl ha' hb'
 have HC0:Hid (∀ wx,Bw w wx->wx.cell? ⟨X,0,none⟩=some (.slice ha y.n hc)):=fun wx hb=>(hb.cell (p:=⟨X,0,none⟩) (zJ w _ c0)).trans c0
 have hl':(y.n:Int)<=4:=by omega
 clear hE hl
 generalize hov:(fun a b:Nat=>nthV (y.e b) 3 a (y.l b) (cnt (y.e a) 2 b (y.l a):Nat))=ov
 have e1:∀ a b:Nat,nthV (y.e b) 3 a (y.l b) (cnt (y.e a) 2 b (y.l a):Nat)=ov a b:=fun a b=>by rw [<- hov]
 simp only [e1] at HOv ⊢
 clear e1 hov
 go_enter Tryz.func105,Tryz.ntmps105
 go_wp2_with fail
 clear c0
 go_loopw [10] (fun i wr=>∃ k:Nat,k<=y.n/\i=.int .i64 k/\Hid (Bw w wr)/\Hid (∀ a,a<k->∀ b,b<y.n->ov a b<0)) (fun i _=>y.n - (intOf i).toNat)
 case atStart=>exact ⟨0,Nat.zero_le _,rfl,Below.refl _ _,fun j hj=>by omega⟩
 case round=>
  obtain ⟨k,hk,rfl,HB,HK⟩:=hrel
  by_cases hlt:k<y.n
  ·have hlt':(k:Int)<(y.n:Int):=by omega
   have c1:=HC0.out wr HB.out
   go_wp2_with fail
   clear c1
   go_loopw [18] (fun i wr=>∃ j:Nat,j<=y.n/\i=.int .i64 j/\Hid (Bw w wr)/\Hid (∀ b,b<j->ov k b<0)) (fun i _=>y.n - (intOf i).toNat)
   case atStart=>exact ⟨0,Nat.zero_le _,rfl,HB.out,fun j hj=>by omega⟩
   case round=>
    clear HB
    obtain ⟨j,hj,rfl,HB,HJ⟩:=hrel
    by_cases hjt:j<y.n
    ·have hjt':(j:Int)<(y.n:Int):=by omega
     go_wp2_with fail
     refine (HOv.out _ HB.out k j hlt hjt).mono ?_
     rintro e w3 ⟨rfl,q3⟩
     have B3:Hid (Bw w w3):=HB.out.trans (q3.mono HB.out.size)
     clear q3 HB
     by_cases ho:0<=ov k j
     ·have HV:Hid (qB (∀ a,a<y.n->∀ b,b<y.n->ov a b<0)=false):=qaz fun h=>by
       have h1:=h k hlt j hjt
       omega
      go_wp2
      go_ret
      rw [HV.out]
      exact ⟨rfl,B3.out⟩
     ·have HJ':Hid (∀ b,b<j+1->ov k b<0):=fun b hb=>by
       by_cases e:b=j
       ·subst e
        omega
       ·exact HJ.out b (by omega)
      clear HJ
      go_wp2
      go_roundw
      case rel=>exact ⟨j+1,by omega,by go_num,B3.out,HJ'.out⟩
      case measure=>simp [intOf];omega
    ·have HK':Hid (∀ a,a<k+1->∀ b,b<y.n->ov a b<0):=fun a ha b hb=>by
      by_cases e:a=k
      ·subst e
       exact HJ.out b (by omega)
      ·exact HK.out a (by omega) b hb
     clear HK HJ
     go_wp2
     go_roundw
     case rel=>exact ⟨k+1,by omega,by go_num,HB.out,HK'.out⟩
     case measure=>simp [intOf];omega
  ·have HV:Hid (qB (∀ a,a<y.n->∀ b,b<y.n->ov a b<0)=true):=qba fun a ha b hb=>HK.out a (by omega) b hb
   have B3:=HB.out
   clear HK HB
   go_wp2
   go_ret
   rw [HV.out]
   exact ⟨rfl,B3⟩
def Sy.at (y:Sy) (c:List Int):Hs:=⟨c.length,cN c,y.hH⟩
theorem qnq {x:SysIn} {w w':World} {ha:Option Addr} {c:List Int} (hG:SysG w x) (hb:Bw w w') (hC:x.y.Cut c) (hhn:x.hn=x.pn) (hr:RowS w' ha c.length (fun i=>.slice (x.hA i) (cN c i) (cN c i))):HisE w' ha x.hA (cN c) (x.y.at c):=
 ⟨hr, fun i hi => by
  have hi':i<x.pn:=by have h1:c.length=x.pn:=hC.len;have h2:i<c.length:=hi;omega
  exact ((hG.below hb).hi i (by omega)).take (hC.leN hi')⟩
theorem qjt {w:World} {X hc n:Nat} {ha:Option Addr} {cs:List Value} (h:w.rangeAt X 0 cs) (e:hcL ha n hc=cs):w.cell? (aQ X 0)=some (.slice ha n hc):=by
 subst e
 have:=h 0 (.slice ha n hc) rfl
 simpa using this
theorem qjx (x:SysIn) (ca:Option Addr) (cc:Nat) (c:List Int) (w:World) (hG:SysG w x) (hL:x.Len) (hcap:∀ i,i<x.hn->x.hL i<=x.hC i) (hc:Sl w ca c) (hcl:c.length<=1048576) (hV:w.cell? ⟨0,0,none⟩=some (.iface 167 (.agg #[.pointer (some ⟨1,120,none⟩)]))):
  Calls Tryz.prog 64 #[x.v,.slice ca c.length cc] w fun e w'=>e=.returned (.bool (whB x.y c))/\Bw w w':=by
 have HS:Hid (∀ wx,Bw w wx->Calls Tryz.prog 69 #[x.v,.slice ca c.length cc] wx fun e w'=>e=.returned (.bool (cutB x.y c))/\Bw wx w'):=fun wx hb=>qfq x ca cc c wx (hG.below hb) hL (hc.below hb) hcl ((hb.cell (p:=⟨0,0,none⟩) (zJ w _ hV)).trans hV)
 have HH:Hid (cutB x.y c=true->∀ wx,Bw w wx->Calls Tryz.prog 65 #[x.v,.slice ca c.length cc] wx fun e w'=>∃ ha hc,e=.returned (.agg (hcL ha c.length hc).toArray)/\RowS w' ha c.length (fun i=>.slice (x.hA i) (cN c i) (cN c i))/\Bw wx w'):=fun t wx hb=>qdw x ca cc c wx (hG.below hb) hcap (qbu t).1.cn.2.2.1 (qbu t).1.cn.1.2 (qbu t).2 (hc.below hb)
 have HW:Hid (cutB x.y c=true->∀ wx X ha hc,Bw w wx->wx.cell? ⟨X,0,none⟩=some (.slice ha c.length hc)->RowS wx ha c.length (fun i=>.slice (x.hA i) (cN c i) (cN c i))->Calls Tryz.prog 105 #[.pointer (some ⟨X,0,none⟩)] wx fun e w'=>e=.returned (.bool (whB x.y c))/\Bw wx w'):=fun t wx X ha hc' hb hcell hr=>by
  obtain ⟨hO,hC⟩:=qbu t
  have hln:c.length=x.pn:=hC.len
  have h:=ql6 X hc' ha x.hA (cN c) (x.y.at c) wx hcell (qnq hG hb hC hO.cn.2.2.1 hr) (fun i hi=>zP (hC.leN (by have h2:i<c.length:=hi;show i<x.pn;omega)) (hO.hl200 (by have h2:i<c.length:=hi;show i<x.pn;omega))) (by have h4:x.pn<=4:=hO.cn.1.2;show c.length<=4;omega)
  have e:whB x.y c=qB (∀ a,a<(x.y.at c).n->∀ b,b<(x.y.at c).n->nthV ((x.y.at c).e b) 3 a ((x.y.at c).l b) (cnt ((x.y.at c).e a) 2 b ((x.y.at c).l a):Nat)<0):=by
   unfold whB
   rw [t,Bool.true_and]
   have hiff:x.y.Wh (cN c) ↔ (∀ a,a<(x.y.at c).n->∀ b,b<(x.y.at c).n->nthV ((x.y.at c).e b) 3 a ((x.y.at c).l b) (cnt ((x.y.at c).e a) 2 b ((x.y.at c).l a):Nat)<0):=by
    constructor
    ·intro hw a ha b hb
     exact (qfb (y:=x.y) (c:=cN c)).2 (hw a (by have h2:a<c.length:=ha;show a<x.pn;omega) b (by have h2:b<c.length:=hb;show b<x.pn;omega))
    ·intro hw a ha b hb
     exact (qfb (y:=x.y) (c:=cN c)).1 (hw a (by have h2:a<x.pn:=ha;show a<c.length;omega) b (by have h2:b<x.pn:=hb;show b<c.length;omega))
   by_cases hw:x.y.Wh (cN c)
   ·rw [qba hw,qba (hiff.1 hw)]
   ·rw [qaz hw,qaz fun h=>hw (hiff.2 h)]
  rw [e]
  exact h
 have HX:Hid (cutB x.y c=false->whB x.y c=false):=fun h=>by
  show whB x.y c=false
  unfold whB
  rw [h]
  rfl
 have BW:Hid (Bw w (w.alloc (x.oX))):=zT _ _
 have NB:Hid (x.bX (w.alloc (x.oX)) w.heap.size):=BoxC.new w _ _ _ _ _
 generalize whB x.y c=R at *
 generalize cutB x.y c=T at *
 clear hG hL hcap hc hV
 go_enter Tryz.func64,Tryz.ntmps64
 go_wp2_with fail
 generalize w.alloc (x.oX)=W2 at *
 refine (HS.out W2 BW.out).mono ?_
 rintro e w1 ⟨rfl,q1⟩
 have B1:Hid (Bw w w1/\x.bX w1 w.heap.size):=⟨BW.out.trans (q1.mono BW.out.size),NB.out.below q1⟩
 clear q1 BW NB HS
 cases T with
 | false=>
  have HV:=HX.out rfl
  clear HX HH HW
  go_wp2
  go_ret
  rw [HV]
  exact ⟨rfl,B1.out.1⟩
 | true=>
  have HH':Hid (∀ wx,Bw w wx->Calls Tryz.prog 65 #[x.v,.slice ca c.length cc] wx fun e w'=>∃ ha hc,e=.returned (.agg (hcL ha c.length hc).toArray)/\RowS w' ha c.length (fun i=>.slice (x.hA i) (cN c i) (cN c i))/\Bw wx w'):=HH.out rfl
  have HW':Hid (∀ wx X ha hc,Bw w wx->wx.cell? ⟨X,0,none⟩=some (.slice ha c.length hc)->RowS wx ha c.length (fun i=>.slice (x.hA i) (cN c i) (cN c i))->Calls Tryz.prog 105 #[.pointer (some ⟨X,0,none⟩)] wx fun e w'=>e=.returned (.bool R)/\Bw wx w'):=HW.out rfl
  clear HX HH HW
  obtain ⟨b0,b1,b2,b3⟩:=B1.out.2
  go_wp2_with fail
  refine (HH'.out w1 B1.out.1).mono ?_
  rintro e w2 ⟨ea,ec,rfl,r2,q2⟩
  have B2:Hid (Bw w w2/\RowS w2 ea c.length (fun i=>.slice (x.hA i) (cN c i) (cN c i))):=⟨B1.out.1.trans (q2.mono B1.out.1.size),r2⟩
  clear q2 r2 b0 b1 b2 b3 B1 HH'
  have hl:=qjr ea c.length ec
  have ho:=qjs ea c.length ec
  generalize hcs:hcL ea c.length ec=cl at *
  have hs:cl.toArray.size=21:=by simpa using hl
  have HI:Hid ((Tryz.prog.info? 78).map (·.size)=some cl.toArray.size):=by show _=_;rw [hs];exact qdz
  have HO:Hid (cl.toArray.all (·.oneCell')=true):=all_oneCell_toArray ho
  have HT:Hid ((w2.alloc (zQ4)).there w2.heap.size 0 cl.toArray.size):=qbt _ _ _ _ _ (by rw [hs];rfl) rfl
  have BE:Hid (Bw w2 ((w2.alloc (zQ4)).setCells w2.heap.size 0 cl)):=(qax.sets (P:=fun b=>b=w2.heap.size) rfl _ _ (qax.of_below (zT _ _))).below (Nat.le_refl _) fun b e=>by omega
  have HR:((w2.alloc (zQ4)).setCells w2.heap.size 0 cl).rangeAt w2.heap.size 0 cl:=World.rangeAt_setCells_same _ _ _ _ (by simpa using HT.out)
  have HCe:Hid (((w2.alloc (zQ4)).setCells w2.heap.size 0 cl).cell? (aQ w2.heap.size 0)=some (.slice ea c.length ec)):=qjt HR hcs
  clear hl ho hs HR hcs
  go_upto_region 4 with (refine wpList_store_mid rfl 78 (.tmp 5) (.tmp 12) rfl w2.heap.size 0 cl.toArray rfl rfl HT.out HI.out HO.out ?_)
  clear HT HI HO
  generalize (w2.alloc (zQ4)).setCells w2.heap.size 0 cl=w3 at *
  have B3:Hid (Bw w w3/\RowS w3 ea c.length (fun i=>.slice (x.hA i) (cN c i) (cN c i))):=⟨B2.out.1.trans (BE.out.mono B2.out.1.size),B2.out.2.below BE.out⟩
  clear BE B2
  go_wp2_with fail
  refine (HW'.out w3 w2.heap.size ea ec B3.out.1 HCe.out B3.out.2).mono ?_
  rintro e w4 ⟨rfl,q4⟩
  have B4:Hid (Bw w w4):=B3.out.1.trans (q4.mono B3.out.1.size)
  clear q4 B3 HCe HW'
  go_wp2
  go_ret
  exact ⟨rfl,B4.out⟩
structure Ev3 (w:World) (N:Nat):Prop where
 c0:∃ v,w.cell? (aQ N 0)=some v
 c1:∃ v,w.cell? (aQ N 1)=some v
 c2:∃ v,w.cell? (aQ N 2)=some v
 fr:∀ j,w.frozen? ⟨N,j,none⟩=false
def tkC (x:SysIn) (p:Nat) (f:Int):Int:=if belB f x.pn=true then (if x.wL (f.toNat*x.pn+p)=0 then 3 else if (x.wH (f.toNat*x.pn+p) 0).m=true then 5 else 0) else 2
def tkV (x:SysIn) (p:Nat) (f:Int):Value:=if tkC x p f=0 then evV 3 f (x.wH (f.toNat*x.pn+p) 0).v else evV 0 0 0
def fuB (x:SysIn) (p:Nat) (k q:Int):Bool:=decide (200<=x.hL p) || (k == 2 && decide (12<=x.wL (p*x.pn+q.toNat)))
def SysIn.nk (x:SysIn) (p:Nat):Int:=nxK (x.pH p) (x.pL p) (x.sQ p).p (x.sQ p).rs (x.sQ p).os (x.sQ p).c
def SysIn.nq (x:SysIn) (p:Nat):Int:=nxP (x.pH p) (x.pL p) (x.sQ p).p (x.sQ p).rs (x.sQ p).os (x.sQ p).c
def SysIn.nv (x:SysIn) (p:Nat):Int:=nxW (x.pH p) (x.pL p) (x.sQ p).p (x.sQ p).rs (x.sQ p).os (x.sQ p).c
def cmC (x:SysIn) (p:Nat) (f:Int):Int:=if (x.sQ p).c≠0 then 6 else if fuB x p (x.nk p) (x.nq p)=true then 4 else if x.nk p=3 then tkC x p (if x.nq p=9 then f else x.nq p) else 0
def cmV (x:SysIn) (p:Nat) (f:Int):Value:=if cmC x p f=0 then (if x.nk p=3 then tkV x p (if x.nq p=9 then f else x.nq p) else evV (x.nk p) (x.nq p) (x.nv p)) else evV 0 0 0
theorem qxe (x:SysIn) (p:Nat) (f:Int):cmC x p f=cmS x.y p f:=rfl
def chN (x:SysIn) (p:Nat):Nat:=if x.nq p=9 then x.pn else 1
def rdL (c:Nat->Int):Nat->List Int
 | 0=>[]
 | k+1=>if c k=0 then rdL c k ++ [(k:Int)] else rdL c k
theorem qn7 {c:Nat->Int} {k:Nat} (h:c k=0):rdL c (k+1)=rdL c k ++ [(k:Int)]:=by rw [rdL,if_pos h]
theorem qkf {c:Nat->Int} {k:Nat} (h:¬ c k=0):rdL c (k+1)=rdL c k:=by rw [rdL,if_neg h]
theorem qpj (c:Nat->Int) (k:Nat):(rdL c k).length<=k:=by
 induction k with
 | zero=>simp [rdL]
 | succ k ih=>
  rw [rdL]
  split
  ·rw [List.length_append];simp;exact ih
  ·omega
theorem qnf {w w':World} {N:Nat} {a b c d:Value} (h:Below (N+1) w w') (o:BoxC w N a b c d):BoxC w' N a b c d:=
 ⟨(h.cell (p:=(aQ N 0)) (Nat.lt_succ_self _)).trans o.1,(h.cell (p:=(aQ N 1)) (Nat.lt_succ_self _)).trans o.2.1,(h.cell (p:=(aQ N 2)) (Nat.lt_succ_self _)).trans o.2.2.1,(h.cell (p:=(aQ N 3)) (Nat.lt_succ_self _)).trans o.2.2.2⟩
def rdX (x:SysIn) (p:Nat):List Int:=rdL (fun j=>cmC x p j) (chN x p)
noncomputable def hltB (x:SysIn):Bool:=x.y.okB && (List.range x.pn).all fun p=>(rdX x p).isEmpty
theorem Tryz.et : Tryz.prog.globalNamed "errors.errorType" = some 0 := by kernel_rfl
theorem Tryz.rt : (Tryz.prog.cutTypes.find? (·.1 == "internal/reflectlite.rtype")).map (·.2) = some 167 := by kernel_rfl
theorem Tryz.oneRow:((List.range 246).filter fun t=>Tryz.prog.rowNamed t [101,114,114,111,114])=[120]:=by kernel_rfl
theorem Tryz.tsize:Tryz.prog.types.size=246:=by kernel_rfl
theorem qdf {W : World} (h : laidMetH Tryz.prog [("errors.errorType", Rows.laid_errors_errorType)] W) : W.cell? (aQ 0 0) = some (.iface 167 (.agg #[.pointer (some (aQ 1 120))])) := by
 have h' : laidMet Tryz.prog [] W /\ handlesMet Tryz.prog [("errors.errorType", Rows.laid_errors_errorType)] W := h
 obtain ⟨name,u,ty,e1,e2,e3,e4,e5⟩:=h'.2 _ (List.mem_singleton.2 rfl)
 have en:name=[101,114,114,111,114]:=(Option.some.inj e1).symm
 subst en
 obtain rfl:=Option.some.inj (Tryz.rt.symm.trans e2)
 have hm:ty ∈ (List.range 246).filter fun t=>Tryz.prog.rowNamed t [101,114,114,111,114]:=List.mem_filter.2 ⟨List.mem_range.2 (by rw [<- Tryz.tsize];exact e3),e4⟩
 rw [Tryz.oneRow] at hm
 obtain rfl:=List.mem_singleton.1 hm
 have hh:typeHandle Tryz.prog 120=.pointer (some (aQ 1 120)):=by kernel_rfl
 rw [hh] at e5
 simpa using World.var?_cell Tryz.et e5 0
noncomputable def qfv (os:Os):World:=
 let w0:=World.holding Tryz.prog os ⟨#[],#[],[]⟩
 { w0 with heap := w0.heap.modify 0 fun
   | .cells _ t frozen=>.cells #[.iface 167 (.agg #[.pointer (some (aQ 1 120))])] t frozen
   | o=>o }
theorem qd0 (os : Os) (args : Array Value) : laidMetH Tryz.prog [("errors.errorType", Rows.laid_errors_errorType)] ((qfv os).forCall (fun _ _ => 0) ⟨#[], args, []⟩).memory :=
 laidMetH_of_parts (laidMet_nil _ _) (by kernel_rfl)
