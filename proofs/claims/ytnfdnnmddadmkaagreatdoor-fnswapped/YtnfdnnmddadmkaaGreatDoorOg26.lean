import Derived.Test.YtnfdnnmddadmkaaGreatDoorOg25
namespace Go.Proofs.YtnfdnnmddadmkaaGreatDoor
set_option maxRecDepth 100000
set_option maxHeartbeats 1000000
open Go.ChangeShapes Go.WideShapes Go.ChangeAt Go.RowKit Go.Deep
structure Wo2 where
 m:Int
 v:Int
abbrev woV (m v:Int):Value:=.agg #[.int .i64 m,.int .i64 v]
def WoAt (w:World) (b off len:Nat) (h:Nat->Wo2):Prop:=∀ i,i<len->
 w.cell? ⟨b,off+i*2,none⟩=some (.int .i64 (h i).m)/\w.cell? ⟨b,off+i*2+1,none⟩=some (.int .i64 (h i).v)
theorem WoAt.below {w w':World} {B b off len:Nat} {h:Nat->Wo2} (hh:WoAt w b off len h) (hb:Below B w w') (hB:b<B):WoAt w' b off len h:=by
 intro i hi
 obtain ⟨h0,h1⟩:=hh i hi
 exact ⟨(hb.cell hB).trans h0,(hb.cell hB).trans h1⟩
theorem qvo:(Tryz.prog.info? 37).map (fun i=>(i.zero,i.size,i.bytes))=some (some (woV 0 0),2,16):=by kernel_rfl
structure qt5 (W:World) (a0:Option Addr) (n:Nat) (aa:Nat->Option Addr) (ls cs:Nat->Nat) (h:Nat->Nat->I2):Prop where
 row:RowS W a0 n fun i=>.slice (aa i) (ls i) (cs i)
 cop:∀ i,i<n->qt8 W (aa i) (ls i) (cs i) (h i)
structure SysIn where
 pa:Option Addr
 pn:Nat
 pc:Nat
 pA:Nat->Option Addr
 pL:Nat->Nat
 pC:Nat->Nat
 pH:Nat->Nat->I5
 sa:Option Addr
 sn:Nat
 sc:Nat
 sQ:Nat->St8
 wa:Option Addr
 wn:Nat
 wc:Nat
 wA:Nat->Option Addr
 wL:Nat->Nat
 wC:Nat->Nat
 wH:Nat->Nat->I2
 ha:Option Addr
 hn:Nat
 hc:Nat
 hA:Nat->Option Addr
 hL:Nat->Nat
 hC:Nat->Nat
 hH:Nat->Nat->E3
abbrev SysIn.oX (x:SysIn):Obj:=oQ4 x.pa x.pn x.pc x.sa x.sn x.sc x.wa x.wn x.wc x.ha x.hn x.hc
abbrev SysIn.bX (x:SysIn) (w:World) (N:Nat):Prop:=BoxC w N (.slice x.pa x.pn x.pc) (.slice x.sa x.sn x.sc) (.slice x.wa x.wn x.wc) (.slice x.ha x.hn x.hc)
def SysIn.sS (x:SysIn):Nat->S4:=fun i=>(x.sQ i).s
def SysIn.size (x:SysIn):Nat:=x.pn+sumL x.pL x.pn+(x.sn+sumL (lenS x.sS) x.sn)+(x.wn+sumL x.wL x.wn)+(x.hn+sumL x.hL x.hn)
abbrev sysV (pa:Option Addr) (pn pc:Nat) (sa:Option Addr) (sn sc:Nat) (wa:Option Addr) (wn wc:Nat) (ha:Option Addr) (hn hc:Nat):Value:=.agg #[.slice pa pn pc,.slice sa sn sc,.slice wa wn wc,.slice ha hn hc]
structure SysIn.Row (W:World) (x:SysIn):Prop where
 p:RowS W x.pa x.pn fun i=>.slice (x.pA i) (x.pL i) (x.pC i)
 s:qcy W x.sa x.sn x.sQ
 w:RowS W x.wa x.wn fun i=>.slice (x.wA i) (x.wL i) (x.wC i)
 h:RowS W x.ha x.hn fun i=>.slice (x.hA i) (x.hL i) (x.hC i)
structure SysIn.Ok (W:World) (x:SysIn):Prop where
 p:qu7 W x.pa x.pn x.pA x.pL x.pC x.pH
 s:qcy W x.sa x.sn x.sQ
 w:qt5 W x.wa x.wn x.wA x.wL x.wC x.wH
 h:qrt W x.ha x.hn x.hA x.hL x.hC x.hH
theorem SysIn.Ok.row {W:World} {x:SysIn} (h:x.Ok W):x.Row W:=⟨h.p.row,h.s,h.w.row,h.h.row⟩
theorem SysIn.Row.below {W w:World} {x:SysIn} (h:x.Row W) (hb:Below W.heap.size W w):x.Row w:=⟨h.p.below hb,h.s.below hb,h.w.below hb,h.h.below hb⟩
theorem zU {w:World} {B:Nat} {e:TypeId} {sz:Nat} {v:Value} {n:Nat} {xs:List Value} (h:w.ownsRow B e sz v n xs):∃ a c,v=.slice a n c:=by
 rcases h.2 with ⟨rfl,rfl⟩ | ⟨g,cap,cur,rfl,_⟩
 ·exact ⟨none,0,rfl⟩
 ·exact ⟨_,_,rfl⟩
theorem qhg (a0:Option Addr) (n cap:Nat) (A:Nat->Option Addr) (L C:Nat->Nat) (H:Nat->Nat->I5) (w:World) (hn:n<=1048576) (hL:∀ i,i<n->L i<=1048576) (hr:RowS w a0 n fun i=>.slice (A i) (L i) (C i)) (hI:∀ i,i<n->Src w (A i) (fI (H i) (L i))):
  Calls Tryz.prog 104 #[.slice a0 n cap] w fun e w'=>∃ v u,e=.returned v/\LI true w' (fun k=>w.heap.size<=k/\k<w'.heap.size) v n u L H/\Below w.heap.size w w':=by
 have hn':(n:Int)<=1048576:=by omega
 have HR:Hid (RowS w a0 n fun i=>.slice (A i) (L i) (C i)):=hr
 have HI:Hid (∀ i,i<n->Src w (A i) (fI (H i) (L i))):=hI
 have HL:Hid (∀ i,i<n->L i<=1048576):=hL
 clear hr hI hL
 go_enter Tryz.func104,Tryz.ntmps104
 go_wp2_with fail
 go_loopw [3,4] (fun v i wr=>∃ k:Nat,k<=n/\i=.int .i64 k/\Hid ((∃ u,LI true wr (fun b=>w.heap.size<=b/\b<wr.heap.size) v k u L H)/\Below w.heap.size w wr)) (fun _ i _=>n - (intOf i).toNat)
 case atStart=>exact ⟨0,Nat.zero_le _,rfl,⟨fun _=>.slice none 0 0,LL.new _ _ _ w _ (by simp) _ _ _⟩,zQ _ _⟩
 case round=>
  obtain ⟨k,hk,rfl,HZ⟩:=hrel
  by_cases hlt:k<n
  ·have hlt':(k:Int)<(n:Int):=by omega
   obtain ⟨b,off,rfl,ck⟩:=(HR.out.below HZ.out.2).at hlt
   have hbl:b<wr.heap.size:=zJ wr _ ck
   have HS:Hid (Src wr (A k) (fI (H k) (L k))):=(HI.out k hlt).below HZ.out.2
   have HLk:Hid (L k<=1048576):=HL.out k hlt
   have hk2:Hid (k<=2000000):=by show k<=2000000;omega
   obtain ⟨⟨u,oz⟩,bz⟩:=HZ.out
   have OZ:Hid (LI true wr (fun b=>w.heap.size<=b/\b<wr.heap.size) u3 k u L H):=oz
   have BZ:Hid (Below w.heap.size w wr):=bz
   clear oz bz HZ
   go_wp2_with (first
    | (at_builtin;refine qct kndI wr rfl rfl _ _ rfl (A k) (L k) (C k) (fI (H k) (L k)) rfl rfl (qtr _ _) HS.out (qvm _ _) (zP HLk.out (by omega)) ?_;intro v4 w4 o4 b4 n4;obtain ⟨a4,c4,rfl⟩:=zU o4;have F4:Hid (w4.ownsRow wr.heap.size 123 5 (.slice a4 (L k) c4) (L k) (fI (H k) (L k))/\Below wr.heap.size wr w4/\Value.slice a4 (L k) c4≠.slice none 0 0):=⟨o4,b4,n4⟩;clear o4 b4 n4)
    | (at_builtin;refine qa9 qvr w4 rfl rfl _ _ rfl 0 u3 k _ rfl (OZ.out.below F4.out.2.1).row #[.slice a4 (L k) c4] rfl rfl (by intro u hu;simp at hu;subst hu;rfl) hk2.out (Nat.zero_le _) ?_;intro v5 w5 o5 g5 q5 n5;have F5:Hid (LI true w5 (fun b=>w.heap.size<=b/\b<w5.heap.size) v5 (k+1) (fun j=>if j=k then .slice a4 (L k) c4 else u j) L H/\Below w.heap.size w w5):=⟨OZ.out.push F4.out.2.1 F4.out.1 (fun _=>F4.out.2.2) o5 g5 q5 (fun j hj _=>⟨hj.1,zL hj.2 (zP F4.out.2.1.size g5.size)⟩) (fun j hj hj'=>⟨zP BZ.out.size hj,hj'⟩),Below.grown (BZ.out.trans (F4.out.2.1.mono BZ.out.size)) g5 (zP BZ.out.size F4.out.2.1.size) (fun j hj=>(OZ.out.rb j hj).1)⟩;clear o5 g5 q5 n5))
   go_roundw
   case rel=>exact ⟨k+1,by omega,by go_num,⟨_,F5.out.1⟩,F5.out.2⟩
   case measure=>simp [intOf];omega
  ·have hkn:k=n:=by omega
   subst hkn
   go_wp2
   go_ret
   obtain ⟨⟨u,oz⟩,bz⟩:=HZ.out
   exact ⟨_,u,rfl,oz,bz⟩
theorem qdv (a0:Option Addr) (n cap:Nat) (A:Nat->Option Addr) (L C:Nat->Nat) (H:Nat->Nat->E3) (w:World) (hn:n<=1048576) (hL:∀ i,i<n->L i<=1048576) (hr:RowS w a0 n fun i=>.slice (A i) (L i) (C i)) (hI:∀ i,i<n->Src w (A i) (fE (H i) (L i))):
  Calls Tryz.prog 258 #[.slice a0 n cap] w fun e w'=>∃ v u,e=.returned v/\LE true w' (fun k=>w.heap.size<=k/\k<w'.heap.size) v n u L H/\Below w.heap.size w w':=by
 have hn':(n:Int)<=1048576:=by omega
 have HR:Hid (RowS w a0 n fun i=>.slice (A i) (L i) (C i)):=hr
 have HI:Hid (∀ i,i<n->Src w (A i) (fE (H i) (L i))):=hI
 have HL:Hid (∀ i,i<n->L i<=1048576):=hL
 clear hr hI hL
 go_enter Tryz.func258,Tryz.ntmps258
 go_wp2_with fail
 go_loopw [3,4] (fun v i wr=>∃ k:Nat,k<=n/\i=.int .i64 k/\Hid ((∃ u,LE true wr (fun b=>w.heap.size<=b/\b<wr.heap.size) v k u L H)/\Below w.heap.size w wr)) (fun _ i _=>n - (intOf i).toNat)
 case atStart=>exact ⟨0,Nat.zero_le _,rfl,⟨fun _=>.slice none 0 0,LL.new _ _ _ w _ (by simp) _ _ _⟩,zQ _ _⟩
 case round=>
  obtain ⟨k,hk,rfl,HZ⟩:=hrel
  by_cases hlt:k<n
  ·have hlt':(k:Int)<(n:Int):=by omega
   obtain ⟨b,off,rfl,ck⟩:=(HR.out.below HZ.out.2).at hlt
   have hbl:b<wr.heap.size:=zJ wr _ ck
   have HS:Hid (Src wr (A k) (fE (H k) (L k))):=(HI.out k hlt).below HZ.out.2
   have HLk:Hid (L k<=1048576):=HL.out k hlt
   have hk2:Hid (k<=2000000):=by show k<=2000000;omega
   obtain ⟨⟨u,oz⟩,bz⟩:=HZ.out
   have OZ:Hid (LE true wr (fun b=>w.heap.size<=b/\b<wr.heap.size) u3 k u L H):=oz
   have BZ:Hid (Below w.heap.size w wr):=bz
   clear oz bz HZ
   go_wp2_with (first
    | (at_builtin;refine qct kndE wr rfl rfl _ _ rfl (A k) (L k) (C k) (fE (H k) (L k)) rfl rfl (qvk _ _) HS.out (qvl _ _) (zP HLk.out (by omega)) ?_;intro v4 w4 o4 b4 n4;obtain ⟨a4,c4,rfl⟩:=zU o4;have F4:Hid (w4.ownsRow wr.heap.size 83 3 (.slice a4 (L k) c4) (L k) (fE (H k) (L k))/\Below wr.heap.size wr w4/\Value.slice a4 (L k) c4≠.slice none 0 0):=⟨o4,b4,n4⟩;clear o4 b4 n4)
    | (at_builtin;refine qa9 qvq w4 rfl rfl _ _ rfl 0 u3 k _ rfl (OZ.out.below F4.out.2.1).row #[.slice a4 (L k) c4] rfl rfl (by intro u hu;simp at hu;subst hu;rfl) hk2.out (Nat.zero_le _) ?_;intro v5 w5 o5 g5 q5 n5;have F5:Hid (LE true w5 (fun b=>w.heap.size<=b/\b<w5.heap.size) v5 (k+1) (fun j=>if j=k then .slice a4 (L k) c4 else u j) L H/\Below w.heap.size w w5):=⟨OZ.out.push F4.out.2.1 F4.out.1 (fun _=>F4.out.2.2) o5 g5 q5 (fun j hj _=>⟨hj.1,zL hj.2 (zP F4.out.2.1.size g5.size)⟩) (fun j hj hj'=>⟨zP BZ.out.size hj,hj'⟩),Below.grown (BZ.out.trans (F4.out.2.1.mono BZ.out.size)) g5 (zP BZ.out.size F4.out.2.1.size) (fun j hj=>(OZ.out.rb j hj).1)⟩;clear o5 g5 q5 n5))
   go_roundw
   case rel=>exact ⟨k+1,by omega,by go_num,⟨_,F5.out.1⟩,F5.out.2⟩
   case measure=>simp [intOf];omega
  ·have hkn:k=n:=by omega
   subst hkn
   go_wp2
   go_ret
   obtain ⟨⟨u,oz⟩,bz⟩:=HZ.out
   exact ⟨_,u,rfl,oz,bz⟩
theorem qcs {ops:Array Oper} {o:Oper} {a:Act} {K:Act->World->Prop} {Q:Exit->Act->World->Prop} {E:Prop} {t e:TypeId} {size bytes:Nat} (KK:Kind t e size bytes) (w:World) (hg:o.guard=none) (s x:Operand)
  (ho:o.op=.call { callee:=.builtin .append,args:=#[s,x],argTypes:=#[t,t] })
  (B:Nat) (v:Value) (n:Nat) (xs:List Value) (hs:a.eval s=v) (hown:w.ownsRow B e size v n xs) (a0:Option Addr) (m c:Nat) (news:List Value) (hx:a.eval x=.slice a0 m c) (hl:news.length=m*size) (hsrc:Src w a0 news) (h1:∀ u ∈ news,u.oneCell'=true) (hnm:n+m<=4000000) (hB:B<=w.heap.size)
  (h:∀ v' w',w'.ownsRow B e size v' (n+m) (xs ++ news)->w.grownBy w' v.ownBlock->(v'.ownBlock=v.ownBlock\/v'.ownBlock=some w.heap.size)->(v≠.slice none 0 0\/0<m->v'≠.slice none 0 0)->K (a.put o.dst v') w'):
  if Region.wanted o (yielded ops a.tmps)=true then Oper.wp Tryz.prog o a w K Q else E:=by
 obtain ⟨v',w',r1,r2,r3,r4,r5⟩:=qeo KK w o.type B v n xs hown a0 m c news hl hsrc h1 hnm hB
 have hw:Region.wanted o (yielded ops a.tmps)=true:=by simp [Region.wanted,hg]
 rw [if_pos hw]
 unfold Oper.wp execOp
 simp only [ho,resolve,invoke,builtin,Sem.run_bind,Sem.run_pure,Result.andThen_ok,List.map_toArray,List.map_cons,List.map_nil,hs,hx,r1]
 exact h v' w' r2 r3 r4 r5
theorem qcn {ops:Array Oper} {o:Oper} {a:Act} {K:Act->World->Prop} {Q:Exit->Act->World->Prop} {E:Prop} {t e:TypeId} {size bytes:Nat} (KK:Kind t e size bytes) (w:World) {N:Nat} (hN:N=w.heap.size) (hg:o.guard=none) (s x:Operand)
  (ho:o.op=.call { callee:=.builtin .append,args:=#[s,x],argTypes:=#[t,t] })
  (a0:Option Addr) (m c:Nat) (news:List Value) (hs:a.eval s=.slice (some ⟨N,0,none⟩) 0 0) (hx:a.eval x=.slice a0 m c) (hl:news.length=m*size) (hsrc:Src w a0 news) (h1:∀ u ∈ news,u.oneCell'=true) (hnm:m<=4000000)
  (h:∀ v' w',w'.ownsRow w.heap.size e size v' m news->Below w.heap.size w w'->v'≠.slice none 0 0->K (a.put o.dst v') w'):
  if Region.wanted o (yielded ops a.tmps)=true then Oper.wp Tryz.prog o a (w.alloc (.cells #[] e)) K Q else E:=by
 subst hN
 have hb:Below w.heap.size w (w.alloc (.cells #[] e)):=zQ _ _
 refine qcs KK _ hg s x ho w.heap.size (.slice (some ⟨w.heap.size,0,none⟩) 0 0) 0 [] hs (World.ownsRow_made (base:=w.heap.size) (e:=e) (size:=size) w #[] 0 (Nat.le_refl _) (by unfold maxLen;omega) (by simp)) a0 m c news hx hl (hsrc.below hb) h1 (by omega) (by simp) ?_
 intro v' w' o g _ hne
 rw [Nat.zero_add,List.nil_append] at o
 exact h v' w' o (hb.grown g (by simp) (fun k hk=>by cases hk;exact Nat.le_refl _)) (hne (.inl (by simp)))
theorem qbb {ops:Array Oper} {o:Oper} {a:Act} {K:Act->World->Prop} {Q:Exit->Act->World->Prop} {E:Prop} {t e:TypeId} {size bytes:Nat} (KK:Kind t e size bytes) (w:World) {N:Nat} (hN:N=w.heap.size) (hg:o.guard=none) (s x:Operand)
  (ho:o.op=.call { callee:=.builtin .append,args:=#[s,x],argTypes:=#[t,t] })
  (B:Nat) (v:Value) (n:Nat) (xs:List Value) (hs:a.eval s=v) (hown:w.ownsRow B e size v n xs) (cs:Array Value) (hx:a.eval x=.slice (some ⟨N,0,none⟩) 1 1) (hl:cs.size=size) (h1:∀ u ∈ cs.toList,u.oneCell'=true) (hn:n<=2000000) (hB:B<=w.heap.size)
  (h:∀ v' w',w'.ownsRow B e size v' (n+1) (xs ++ cs.toList)->w.grownBy w' v.ownBlock->(∀ j,v'.ownBlock=some j->v.ownBlock=some j\/w.heap.size<=j)->v'≠.slice none 0 0->K (a.put o.dst v') w'):
  if Region.wanted o (yielded ops a.tmps)=true then Oper.wp Tryz.prog o a (w.alloc (.cells cs e)) K Q else E:=by
 subst hN
 have hb:Below w.heap.size w (w.alloc (.cells cs e)):=zQ _ _
 refine qcs KK _ hg s x ho B v n xs hs (hown.alloc _) (some ⟨w.heap.size,0,none⟩) 1 1 cs.toList hx (by simp [hl]) (.inr ⟨w.heap.size,0,rfl,by simp,fun j u hj=>?_⟩) h1 (by omega) (by simp;omega) ?_
 ·rw [Nat.zero_add,zW _ _ _ j rfl]
  simpa using hj
 ·intro v' w' o g hbk hne
  refine h v' w' o ⟨g.os,g.tape,g.output,zP hb.size g.size,fun j hj hne=>(g.block j (zL hj hb.size) hne).trans (hb.block j hj)⟩ (fun j hj=>?_) (hne (.inr (by omega)))
  rcases hbk with a | a
  ·exact .inl (a.symm.trans hj)
  ·rw [hj] at a
   simp only [Option.some.injEq] at a
   right
   rw [a]
   simp
theorem qav {ops:Array Oper} {o:Oper} {a:Act} {w:World} {K:Act->World->Prop} {Q:Exit->Act->World->Prop} {E:Prop} (hg:o.guard=none) (f:FuncId) (args:Array Operand) (ts:Array TypeId)
  (ho:o.op=.call { callee:=.value (.func f),args:=args,argTypes:=ts }) (vals:Array Value) (hv:args.map a.eval=vals) (hen:∀ vs wx,(callFunc f vs).run Tryz.prog wx=.ok (.enter f vs) wx) {post:Ending->World->Prop} (hc:Calls Tryz.prog f vals w post)
  (h:∀ e w',post e w'->∃ v,e=.returned v/\K (a.put o.dst v) w'):
  if Region.wanted o (yielded ops a.tmps)=true then Oper.wp Tryz.prog o a w K Q else E:=by
 have hw:Region.wanted o (yielded ops a.tmps)=true:=by simp [Region.wanted,hg]
 rw [if_pos hw]
 have hr:(execOp a.eval o).run Tryz.prog w=.ok (.enter f vals) w:=by
  unfold execOp
  simp [ho,resolve,invoke,hv,hen,Act.eval,Deferred.ofValue]
 unfold Oper.wp
 rw [hr,Oper.upon_enter]
 refine hc.mono fun e w' hp=>?_
 obtain ⟨v,rfl,hk⟩:=h e w' hp
 exact hk
