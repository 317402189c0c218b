import Derived.Test.YtkdablcbhhphoaaGreatDoorBk11
import Derived.OneCell
import Derived.Test.YtkdablcbhhphoaaGreatDoorTie
import Derived.ChangeSame
import Derived.ChangeVars
import Derived.JoinedOf
import Derived.RowKit
import Derived.RowKitTokens
import Derived.LaidLaws
import Derived.LaidHandle
import Derived.Stop.Joined
namespace Go.Proofs.YtkdablcbhhphoaaGreatDoor
set_option maxRecDepth 100000
set_option maxHeartbeats 2000000
open Go.ChangeShapes Go.WideShapes Go.ChangeAt Go.RowKit Go.Deep
theorem zP (w:World) (o:Obj):Below w.heap.size w (w.alloc o):=(Below.refl _ _).alloc (Nat.le_refl _) _
def Src (w:World) (a0:Option Addr) (cs:List Value):Prop:=cs=[]\/∃ b off,a0=some ⟨b,off,none⟩/\b<w.heap.size/\∀ j u,cs[j]? = some u->w.cell? ⟨b,off+j,none⟩=some u
theorem Src.below {w w':World} {a0:Option Addr} {cs:List Value} (h:Src w a0 cs) (hb:Below w.heap.size w w'):Src w' a0 cs:=by
 rcases h with h | ⟨b,off,e,hlt,hc⟩
 ·exact .inl h
 ·exact .inr ⟨b,off,e,zL hlt hb.size,fun j u hj=>(hb.cell (p:=⟨b,off+j,none⟩) hlt).trans (hc j u hj)⟩
structure Kind (t e:TypeId) (size bytes:Nat):Prop where
 und:Tryz.prog.underlying t=some (.slice e)
 inf:∃ i z,Tryz.prog.info? e=some i/\i.zero=some z/\i.size=size/\i.bytes=bytes/\z.cells.size=size
 pos:0<size
 sml:bytes<=128
theorem qep {t e:TypeId} {size bytes:Nat} (K:Kind t e size bytes) (w:World) (ty:TypeId) (B:Nat) (v:Value) (n:Nat) (xs:List Value) (hown:w.ownsRow B e size v n xs) (a0:Option Addr) (m c:Nat) (news:List Value) (hl:news.length=m*size) (hsrc:Src w a0 news) (h1:∀ u ∈ news,u.oneCell'=true) (hnm:n+m<=4000000) (hB:B<=w.heap.size):
  ∃ v' w',(Builtin.append_ #[t,t] ty #[v,.slice a0 m c]).run Tryz.prog w=.ok v' w'/\w'.ownsRow B e size v' (n+m) (xs ++ news)/\w.grownBy w' v.ownBlock/\(v'.ownBlock=v.ownBlock\/v'.ownBlock=some w.heap.size)/\(v≠.slice none 0 0\/0<m->v'≠.slice none 0 0):=by
 obtain ⟨i,z,hi,hz,hs,hb,hzs⟩:=K.inf;have hby:(n+m)*bytes<=140737488355328:=zO (Nat.mul_le_mul hnm K.sml) (by omega);cases a0 with
 | none=>
  have hn0:news=[]:=by
   rcases hsrc with h | ⟨b,off,e,_⟩
   ·exact h
   ·cases e
  subst hn0
  have hm:m=0:=by
   have:=K.pos;simp only [List.length_nil] at hl
   rcases Nat.eq_zero_or_pos m with h | h
   ·exact h
   ·have:=Nat.mul_pos h K.pos
    omega
  subst hm;refine ⟨v,w,?_,by simpa using hown,World.grownBy.refl _ _,.inl rfl,fun h=>h.elim id fun h=>by omega⟩
  rcases hown.2 with ⟨rfl,_⟩ | ⟨g,cap,cur,rfl,_,_,hnc,_⟩
  ·simp [Builtin.append_,run_underlying K.und,sizeOf,typeInfo,hi,Builtin.lenOf,Builtin.firstCells]
  ·simp [Builtin.append_,run_underlying K.und,sizeOf,typeInfo,hi,Builtin.lenOf,Builtin.firstCells,hnc,storeCells]
 | some a=>
  have hnews:∀ j u,news[j]? = some u->w.cell? (a.add j)=some u:=by
   rcases hsrc with h0 | ⟨b,off,e,hlt,hc⟩
   ·subst h0
    intro j u hj;simp at hj
   ·cases e
    intro j u hj;have ha:Addr.add ⟨b,off,none⟩ j=⟨b,off+j,none⟩:=by unfold Addr.add;split <;> simp_all
    rw [ha];exact hc j u hj
  obtain ⟨v',w',r1,r2,r3,r4,r5⟩:=run_append_own_at (P:=Tryz.prog) w B t ty e i z size bytes K.und hi hz hs hb hzs K.pos v n xs hown a m c news hl hnews h1 (by unfold maxLen;omega) hby hB;exact ⟨v',w',r1,r2,r3,r5,fun h e=>h.elim (fun h=>h (r4.1 e).1) fun h=>by have:=(r4.1 e).2;omega⟩
theorem qcd {ops:Array Oper} {rest:List Oper} {op:Oper} {act:Act} {Q:Exit->Act->World->Prop} {t e:TypeId} {size bytes:Nat} (K:Kind t e size bytes) (w:World) (hgd:op.guard=none) (s x:Operand)
  (ho:op.op=.call { callee:=.builtin .append,args:=#[s,x],argTypes:=#[t,t] })
  (B:Nat) (v:Value) (n:Nat) (xs:List Value) (hs:act.eval s=v) (hown:w.ownsRow B e size v n xs) (a0:Option Addr) (m c:Nat) (news:List Value) (hx:act.eval x=.slice a0 m c) (hl:news.length=m*size) (hsrc:Src w a0 news) (h1:∀ u ∈ news,u.oneCell'=true) (hnm:n+m<=4000000) (hB:B<=w.heap.size)
  (h:∀ v' w',w'.ownsRow B e size v' (n+m) (xs ++ news)->w.grownBy w' v.ownBlock->(v'.ownBlock=v.ownBlock\/v'.ownBlock=some w.heap.size)->(v≠.slice none 0 0\/0<m->v'≠.slice none 0 0)->wpList Tryz.prog ops Q rest (act.put op.dst v') w'):
  wpList Tryz.prog ops Q (op :: rest) act w:=by
 obtain ⟨v',w',r1,r2,r3,r4,r5⟩:=qep K w op.type B v n xs hown a0 m c news hl hsrc h1 hnm hB;refine wpList_plain hgd fun K hK=>?_;unfold Oper.wp execOp;simp only [ho,resolve,invoke,builtin,Sem.run_bind,Sem.run_pure,Result.andThen_ok,List.map_toArray,List.map_cons,List.map_nil,hs,hx,r1];exact hK _ _ (h v' w' r2 r3 r4 r5)
theorem qa9 {ops:Array Oper} {rest:List Oper} {op:Oper} {act:Act} {Q:Exit->Act->World->Prop} {t e:TypeId} {size bytes:Nat} (K:Kind t e size bytes) (w:World) {N:Nat} (hN:N=w.heap.size) (hgd:op.guard=none) (s x:Operand)
  (ho:op.op=.call { callee:=.builtin .append,args:=#[s,x],argTypes:=#[t,t] })
  (a0:Option Addr) (m c:Nat) (news:List Value) (hs:act.eval s=.slice (some ⟨N,0,none⟩) 0 0) (hx:act.eval x=.slice a0 m c) (hl:news.length=m*size) (hsrc:Src w a0 news) (h1:∀ u ∈ news,u.oneCell'=true) (hnm:m<=4000000)
  (h:∀ v' w',w'.ownsRow w.heap.size e size v' m news->Below w.heap.size w w'->v'≠.slice none 0 0->wpList Tryz.prog ops Q rest (act.put op.dst v') w'):
  wpList Tryz.prog ops Q (op :: rest) act (w.alloc (.cells #[] e)):=by
 subst hN;have hb:Below w.heap.size w (w.alloc (.cells #[] e)):=zP _ _;refine qcd K _ hgd s x ho w.heap.size (.slice (some ⟨w.heap.size,0,none⟩) 0 0) 0 [] hs (World.ownsRow_made (base:=w.heap.size) (e:=e) (size:=size) w #[] 0 (Nat.le_refl _) (by unfold maxLen;omega) (by simp)) a0 m c news hx hl (hsrc.below hb) h1 (by omega) (by simp) ?_;intro v' w' o g _ hne;rw [Nat.zero_add,List.nil_append] at o;exact h v' w' o (hb.grown g (by simp) (fun k hk=>by cases hk;exact Nat.le_refl _)) (hne (.inl (by simp)))
theorem qat {ops:Array Oper} {rest:List Oper} {op:Oper} {act:Act} {Q:Exit->Act->World->Prop} {t e:TypeId} {size bytes:Nat} (K:Kind t e size bytes) (w:World) {N:Nat} (hN:N=w.heap.size) (hgd:op.guard=none) (s x:Operand)
  (ho:op.op=.call { callee:=.builtin .append,args:=#[s,x],argTypes:=#[t,t] })
  (B:Nat) (v:Value) (n:Nat) (xs:List Value) (hs:act.eval s=v) (hown:w.ownsRow B e size v n xs) (cs:Array Value) (hx:act.eval x=.slice (some ⟨N,0,none⟩) 1 1) (hl:cs.size=size) (h1:∀ u ∈ cs.toList,u.oneCell'=true) (hn:n<=2000000) (hB:B<=w.heap.size)
  (h:∀ v' w',w'.ownsRow B e size v' (n+1) (xs ++ cs.toList)->w.grownBy w' v.ownBlock->(∀ j,v'.ownBlock=some j->v.ownBlock=some j\/w.heap.size<=j)->v'≠.slice none 0 0->wpList Tryz.prog ops Q rest (act.put op.dst v') w'):
  wpList Tryz.prog ops Q (op :: rest) act (w.alloc (.cells cs e)):=by
 subst hN;have hb:Below w.heap.size w (w.alloc (.cells cs e)):=zP _ _;refine qcd K _ hgd s x ho B v n xs hs (hown.alloc _) (some ⟨w.heap.size,0,none⟩) 1 1 cs.toList hx (by simp [hl]) (.inr ⟨w.heap.size,0,rfl,by simp,fun j u hj=>?_⟩) h1 (by omega) (by simp;omega) ?_
 ·rw [Nat.zero_add,zV _ _ _ j rfl]
  simpa using hj
 ·intro v' w' o g hbk hne
  refine h v' w' o ⟨g.os,g.tape,g.output,zO hb.size g.size,fun j hj hne=>(g.block j (zL hj hb.size) hne).trans (hb.block j hj)⟩ (fun j hj=>?_) (hne (.inr (by omega)))
  rcases hbk with a | a
  ·exact .inl (a.symm.trans hj)
  ·rw [hj] at a
   simp only [Option.some.injEq] at a;right;rw [a];simp
def Nz (z:Bool) (e:TypeId):Prop:=z=true\/e=184
theorem nzI {z:Bool}:Nz z 184:=.inr rfl
theorem nzT (e:TypeId):Nz true e:=.inl rfl
structure LL (z:Bool) (e:TypeId) (sz:Nat) (E:TypeId) (w:World) (P:Nat->Prop) (v:Value) (n:Nat) (u:Nat->Value) (L:Nat->Nat) (c:Nat->List Value):Prop where
 row:w.ownsRow 0 E 1 v n ((List.range n).map u)
 own:∀ i,i<n->w.ownsRow 0 e sz (u i) (L i) (c i)
 rb:∀ k,v.ownBlock=some k->P k
 ob:∀ i,i<n->∀ k,(u i).ownBlock=some k->P k
 ra:∀ i,i<n->∀ k,(u i).ownBlock=some k->v.ownBlock≠some k
 oa:∀ i j,i<n->j<n->i≠j->∀ k,(u i).ownBlock=some k->(u j).ownBlock≠some k
 nn:Nz z e->∀ i,i<n->u i≠.slice none 0 0
theorem qab {w w':World} {B size n:Nat} {e:TypeId} {v:Value} {xs:List Value} (h:w.ownsRow B e size v n xs) (hb:∀ k,v.ownBlock=some k->w'.heap[k]? = w.heap[k]?):w'.ownsRow B e size v n xs:=by
 refine ⟨h.1,?_⟩
 rcases h.2 with hn | ⟨g,cap,cur,rfl,hB,hg,hr⟩
 ·exact .inl hn
 ·exact .inr ⟨g,cap,cur,rfl,hB,(hb g rfl).trans hg,hr⟩
theorem qlq {w:World} {B size n:Nat} {e:TypeId} {v:Value} {xs:List Value} (h:w.ownsRow B e size v n xs):w.ownsRow 0 e size v n xs:=h.mono (Nat.zero_le _)
section
variable {z:Bool} {e:TypeId} {sz:Nat} {E:TypeId} {w:World} {P:Nat->Prop} {v:Value} {n:Nat} {u:Nat->Value} {L:Nat->Nat} {c:Nat->List Value}
theorem LL.keep (o:LL z e sz E w P v n u L c) {w':World} (hb:∀ k,P k->k<w.heap.size->w'.heap[k]? = w.heap[k]?):LL z e sz E w' P v n u L c:=
 ⟨qab o.row fun k hk=>hb k (o.rb k hk) (o.row.lt k hk).2,fun i hi=>qab (o.own i hi) fun k hk=>hb k (o.ob i hi k hk) ((o.own i hi).lt k hk).2,o.rb,o.ob,o.ra,o.oa,o.nn⟩
theorem LL.below (o:LL z e sz E w P v n u L c) {w':World} (hb:Below w.heap.size w w'):LL z e sz E w' P v n u L c:=o.keep fun k _ hk=>hb.block k hk
theorem LL.mono (o:LL z e sz E w P v n u L c) {P':Nat->Prop} (h:∀ k,P k->k<w.heap.size->P' k):LL z e sz E w P' v n u L c:=
 ⟨o.row,o.own,fun k hk=>h k (o.rb k hk) (o.row.lt k hk).2,fun i hi k hk=>h k (o.ob i hi k hk) ((o.own i hi).lt k hk).2,o.ra,o.oa,o.nn⟩
theorem LL.pushG (o:LL z e sz E w P v n u L c) {w1 w2:World} {u' v':Value} (hsz:w.heap.size<=w1.heap.size) (hb:∀ k,P k->k<w.heap.size->w1.heap[k]? = w.heap[k]?) (hu:w1.ownsRow w.heap.size e sz u' (L n) (c n)) (hne:Nz z e->u'≠.slice none 0 0) (hv:w2.ownsRow 0 E 1 v' (n+1) ((List.range n).map u ++ [u'])) (g:w1.grownBy w2 v.ownBlock)
  (hv':∀ j,v'.ownBlock=some j->v.ownBlock=some j\/w1.heap.size<=j) {P':Nat->Prop} (hP:∀ k,P k->k<w.heap.size->P' k) (hP':∀ k,w.heap.size<=k->k<w2.heap.size->P' k):LL z e sz E w2 P' v' (n+1) (fun j=>if j=n then u' else u j) L c:=by
 have hvlt:∀ k,v.ownBlock=some k->k<w.heap.size:=fun k hk=>(o.row.lt k hk).2
 have hu2 : w2.ownsRow w.heap.size e sz u' (L n) (c n) := hu.kept g (by
  cases hk:u'.ownBlock with
  | none=>exact .inl rfl
  | some k=>
   refine .inr fun e=>?_;have q1:=(hu.lt k hk).1;have q2:=hvlt k e.symm
   omega)
 have ho2:∀ i,i<n->w2.ownsRow 0 e sz (u i) (L i) (c i):=fun i hi=>qab (o.own i hi) fun k hk=>(g.block k (zL ((o.own i hi).lt k hk).2 hsz) fun e=>o.ra i hi k hk e.symm).trans (hb k (o.ob i hi k hk) ((o.own i hi).lt k hk).2);have lts:∀ i,i<n->∀ k,(u i).ownBlock=some k->k<w.heap.size:=fun i hi k hk=>((o.own i hi).lt k hk).2;refine ⟨?_,fun i hi=>?_,fun k hk=>?_,fun i hi k hk=>?_,fun i hi k hk=>?_,fun i j hi hj hij k hk=>?_,fun hz i hi=>?_⟩
 ·have e:(List.range (n+1)).map (fun j=>if j=n then u' else u j)=(List.range n).map u ++ [u']:=by
   rw [List.range_succ,List.map_append];simp only [List.map_cons,List.map_nil,if_true]
   congr 1
   exact List.map_congr_left fun j hj=>by
    rw [if_neg];have:=List.mem_range.1 hj;omega
  rw [e];exact hv
 ·by_cases ei:i=n
  ·subst ei
   rw [if_pos rfl];exact qlq hu2
  ·rw [if_neg ei]
   exact ho2 i (by omega)
 ·rcases hv' k hk with h | h
  ·exact hP k (o.rb k h) (hvlt k h)
  ·exact hP' k (zO hsz h) (hv.lt k hk).2
 ·by_cases ei:i=n
  ·simp only [if_pos ei] at hk
   exact hP' k (hu.lt k hk).1 (hu2.lt k hk).2
  ·simp only [if_neg ei] at hk
   exact hP k (o.ob i (by omega) k hk) (lts i (by omega) k hk)
 ·intro hvk
  by_cases ei:i=n
  ·simp only [if_pos ei] at hk
   rcases hv' k hvk with h | h
   ·have:=hvlt k h
    have:=(hu.lt k hk).1;omega
   ·have:=(hu.lt k hk).2
    omega
  ·simp only [if_neg ei] at hk
   rcases hv' k hvk with h | h
   ·exact o.ra i (by omega) k hk h
   ·have:=lts i (by omega) k hk
    omega
 ·intro hjk
  by_cases ei:i=n
  ·have ej:j≠n:=fun e=>hij (by omega)
   simp only [if_pos ei] at hk;simp only [if_neg ej] at hjk;have:=lts j (by omega) k hjk;have:=(hu.lt k hk).1;omega
  ·simp only [if_neg ei] at hk
   by_cases ej:j=n
   ·simp only [if_pos ej] at hjk
    have:=lts i (by omega) k hk;have:=(hu.lt k hjk).1;omega
   ·simp only [if_neg ej] at hjk
    exact o.oa i j (by omega) (by omega) hij k hk hjk
 ·by_cases ei:i=n
  ·rw [if_pos ei]
   exact hne hz
  ·rw [if_neg ei]
   exact o.nn hz i (by omega)
theorem LL.push (o:LL z e sz E w P v n u L c) {w1 w2:World} {u' v':Value} (b1:Below w.heap.size w w1) (hu:w1.ownsRow w.heap.size e sz u' (L n) (c n)) (hne:Nz z e->u'≠.slice none 0 0) (hv:w2.ownsRow 0 E 1 v' (n+1) ((List.range n).map u ++ [u'])) (g:w1.grownBy w2 v.ownBlock)
  (hv':∀ j,v'.ownBlock=some j->v.ownBlock=some j\/w1.heap.size<=j) {P':Nat->Prop} (hP:∀ k,P k->k<w.heap.size->P' k) (hP':∀ k,w.heap.size<=k->k<w2.heap.size->P' k):LL z e sz E w2 P' v' (n+1) (fun j=>if j=n then u' else u j) L c:=
 o.pushG b1.size (fun k _ hk=>b1.block k hk) hu hne hv g hv' hP hP'
theorem LL.nil (e:TypeId) (sz:Nat) (E:TypeId) (w:World) (P:Nat->Prop) (u:Nat->Value) (L:Nat->Nat) (c:Nat->List Value):LL z e sz E w P (.slice none 0 0) 0 u L c:=
 ⟨World.ownsRow_nil _ _ _ _,fun i hi=>(by omega),fun k hk=>(by cases hk),fun i hi=>(by omega),fun i hi=>(by omega),fun i j hi=>(by omega),fun _ i hi=>by omega⟩
theorem LL.new (e:TypeId) (sz:Nat) (E:TypeId) (w:World) (P:Nat->Prop) (hP:P w.heap.size) (u:Nat->Value) (L:Nat->Nat) (c:Nat->List Value):LL z e sz E (w.alloc (.cells #[] E)) P (.slice (some ⟨w.heap.size,0,none⟩) 0 0) 0 u L c:=
 ⟨World.ownsRow_made (base:=0) (e:=E) (size:=1) w #[] 0 (Nat.zero_le _) (by unfold maxLen;omega) rfl,fun i hi=>(by omega),fun k hk=>(by cases hk;exact hP),fun i hi=>(by omega),fun i hi=>(by omega),fun i j hi=>(by omega),fun _ i hi=>by omega⟩
theorem LL.cell (o:LL z e sz E w P v n u L c) {i:Nat} (hi:i<n):∃ g cap,v=.slice (some ⟨g,0,none⟩) n cap/\P g/\g<w.heap.size/\w.cell? ⟨g,i,none⟩=some (u i)/\∀ j,w.frozen? ⟨g,j,none⟩=false:=by
 rcases o.row.2 with ⟨_,h0⟩ | ⟨g,cap,cur,rfl,hb,hg,hr⟩
 ·omega
 ·refine ⟨g,cap,rfl,o.rb g rfl,(o.row.lt g rfl).2,?_,fun j=>o.row.frozenAt j⟩
  rw [o.row.cellAt i (by omega)];simp [hi]
theorem LL.put {g cap:Nat} (o:LL z e sz E w P (.slice (some ⟨g,0,none⟩) n cap) n u L c) {i:Nat} (hi:i<n) {w1:World} {u':Value} {m:Nat} {c':List Value} (_hs:w.heap.size<=w1.heap.size) (g1:∀ k,k<w.heap.size->(u i).ownBlock≠some k->w1.heap[k]? = w.heap[k]?)
  (hu:w1.ownsRow 0 e sz u' m c') (hne:Nz z e->u'≠.slice none 0 0) (hb:∀ k,u'.ownBlock=some k->(u i).ownBlock=some k\/w.heap.size<=k) {P':Nat->Prop} (hP:∀ k,P k->k<w.heap.size->P' k) (hP':∀ k,w.heap.size<=k->k<w1.heap.size->P' k):
  LL z e sz E (w1.setCell ⟨g,i,none⟩ u') P' (.slice (some ⟨g,0,none⟩) n cap) n (fun j=>if j=i then u' else u j) (fun j=>if j=i then m else L j) (fun j=>if j=i then c' else c j):=by
 have hg:g<w.heap.size:=(o.row.lt g rfl).2;have hgi:(u i).ownBlock≠some g:=fun e=>o.ra i hi g e rfl
 have row1:w1.ownsRow 0 E 1 (.slice (some ⟨g,0,none⟩) n cap) n ((List.range n).map u):=qab o.row fun k hk=>by
  cases hk;exact g1 g hg hgi
 have hu'g:u'.ownBlock≠some g:=fun e=>by
  rcases hb g e with h | h
  ·exact hgi h
  ·omega
 have lts:∀ j,j<n->∀ k,(u j).ownBlock=some k->k<w.heap.size:=fun j hj k hk=>((o.own j hj).lt k hk).2;refine ⟨?_,fun j hj=>?_,fun k hk=>?_,fun j hj k hk=>?_,fun j hj k hk=>?_,fun a b ha hb' hab k hk=>?_,fun hz j hj=>?_⟩
 ·have h:=(World.ownsRow.stored row1 i u').1
  have e:(List.range n).map (fun j=>if j=i then u' else u j)=((List.range n).map u).set i u':=by
   apply List.ext_getElem (by simp);intro j h1 h2;simp only [List.getElem_map,List.getElem_range,List.getElem_set];by_cases q:j=i
   ·rw [if_pos q,if_pos q.symm]
   ·rw [if_neg q,if_neg fun e=>q e.symm]
  rw [e];exact h
 ·by_cases ej:j=i
  ·subst ej
   simp only [if_true];exact ownsRow_setCell_other hu hu'g _
  ·simp only [if_neg ej]
   refine ownsRow_setCell_other (qab (o.own j hj) fun k hk=>g1 k (lts j hj k hk) fun e=>o.oa j i hj hi ej k hk e) (fun e=>o.ra j hj g e rfl) _
 ·cases hk
  exact hP g (o.rb g rfl) hg
 ·by_cases ej:j=i
  ·simp only [if_pos ej] at hk
   rcases hb k hk with h | h
   ·exact hP k (o.ob i hi k h) (lts i hi k h)
   ·exact hP' k h (hu.lt k hk).2
  ·simp only [if_neg ej] at hk
   exact hP k (o.ob j hj k hk) (lts j hj k hk)
 ·intro hvk
  cases hvk;by_cases ej:j=i
  ·simp only [if_pos ej] at hk
   exact hu'g hk
  ·simp only [if_neg ej] at hk
   exact o.ra j hj g hk rfl
 ·intro hbk
  by_cases ea:a=i
  ·have eb:b≠i:=fun e=>hab (by omega)
   simp only [if_pos ea] at hk;simp only [if_neg eb] at hbk
   rcases hb k hk with h | h
   ·exact o.oa b i hb' hi eb k hbk h
   ·have:=lts b hb' k hbk
    omega
  ·simp only [if_neg ea] at hk
   by_cases eb:b=i
   ·simp only [if_pos eb] at hbk
    rcases hb k hbk with h | h
    ·exact o.oa a i ha hi ea k hk h
    ·have:=lts a ha k hk
     omega
   ·simp only [if_neg eb] at hbk
    exact o.oa a b ha hb' hab k hk hbk
 ·by_cases ej:j=i
  ·simp only [if_pos ej]
   exact hne hz
  ·simp only [if_neg ej]
   exact o.nn hz j hj
end
structure St8 where
 p:Int
 ra:Option Addr
 rc:Nat
 rs:List Int
 oa:Option Addr
 oc:Nat
 os:List Int
 c:Int
def St8.s (x:St8):S4:=⟨x.p,x.rs,x.os,x.c⟩
def lenS (S:Nat->S4) (i:Nat):Nat:=(S i).rs.length+(S i).os.length
structure qbd (W:World) (a0:Option Addr) (n:Nat) (q:Nat->St8):Prop where
 row:n=0\/∃ b off,a0=some ⟨b,off,none⟩/\b<W.heap.size/\∀ i,i<n->W.cell? ⟨b,off+i*4,none⟩=some (.int .i64 (q i).p)/\W.cell? ⟨b,off+i*4+1,none⟩=some (.slice (q i).ra (q i).rs.length (q i).rc)/\W.cell? ⟨b,off+i*4+2,none⟩=some (.slice (q i).oa (q i).os.length (q i).oc)/\W.cell? ⟨b,off+i*4+3,none⟩=some (.int .i64 (q i).c)
 lst:∀ i,i<n->Sl W (q i).ra (q i).rs/\Sl W (q i).oa (q i).os
theorem qbd.below {w w':World} {a0:Option Addr} {n:Nat} {q:Nat->St8} (h:qbd w a0 n q) (hb:Below w.heap.size w w'):qbd w' a0 n q:=by
 refine ⟨?_,fun i hi=>⟨(h.lst i hi).1.below hb,(h.lst i hi).2.below hb⟩⟩
 rcases h.row with h | ⟨b,off,e,hlt,hc⟩
 ·exact .inl h
 ·exact .inr ⟨b, off, e, Nat.lt_of_lt_of_le hlt hb.size, fun i hi => by
   obtain ⟨h0,h1,h2,h3⟩:=hc i hi
   exact ⟨(hb.cell hlt).trans h0,(hb.cell hlt).trans h1,(hb.cell hlt).trans h2,(hb.cell hlt).trans h3⟩⟩
theorem qbd.at {w:World} {a0:Option Addr} {n:Nat} {q:Nat->St8} (h:qbd w a0 n q) {k:Nat} (hk:k<n):∃ b off,a0=some ⟨b,off,none⟩/\w.cell? ⟨b,off+k*4,none⟩=some (.int .i64 (q k).p)/\w.cell? ⟨b,off+k*4+1,none⟩=some (.slice (q k).ra (q k).rs.length (q k).rc)/\w.cell? ⟨b,off+k*4+2,none⟩=some (.slice (q k).oa (q k).os.length (q k).oc)/\w.cell? ⟨b,off+k*4+3,none⟩=some (.int .i64 (q k).c):=by
 rcases h.row with rfl | ⟨b,off,e,-,hc⟩
 ·omega
 ·exact ⟨b,off,e,hc k hk⟩
theorem qc7 (a0:Option Addr) (n cap:Nat) (q:Nat->St8) (L:Int) (w:World) (hr:qbd w a0 n q) (h:(n:Int)+(sumL (lenS fun i=>(q i).s) n:Nat)<=L) (hL:L<=1048576):
  Calls Tryz.prog 49 #[.slice a0 n cap,.int .i64 L] w fun e w'=>e=.returned (.int .i64 (L - n - (sumL (lenS fun i=>(q i).s) n:Nat)))/\Below w.heap.size w w':=by
 have hn:(n:Int)<=1048576:=by omega
 have h0:0<=L:=by omega
 have hn0:¬ (L - (n:Int)<0):=by omega
 have HR:Hid (qbd w a0 n q):=hr;have HS:Hid ((n:Int)+(sumL (lenS fun i=>(q i).s) n:Nat)<=L):=h;clear hr h;generalize hls:(lenS fun i=>(q i).s)=ls at *;have HLS:Hid ((lenS fun i=>(q i).s)=ls):=hls;clear hls
 go_enter Tryz.func49,Tryz.ntmps49
 go_wp2_with fail
 go_loopw [1,5] (fun x i wr=>∃ k:Nat,k<=n/\i=.int .i64 k/\x=.int .i64 (L - n - (sumL ls k:Nat))/\Below w.heap.size w wr) (fun _ i _=>n - (intOf i).toNat)
 case atStart=>exact ⟨0,Nat.zero_le _,rfl,by simp [sumL],Below.refl _ _⟩
 case round=>
  obtain ⟨k,hk,rfl,rfl,hbw⟩:=hrel;by_cases hlt:k<n
  ·have hlt':(k:Int)<(n:Int):=by omega
   obtain ⟨b,off,rfl,c0,c1,c2,c3⟩:=(HR.out.below hbw).at hlt;have hsl:=qbc ls hlt;have hlk:ls k=(q k).rs.length+(q k).os.length:=by rw [<- HLS.out];rfl
   have hS:=HS.out;have e1:(L - n - (sumL ls k:Nat)) - ((q k).rs.length:Int) - ((q k).os.length:Int)=L - n - (sumL ls (k+1):Nat):=by simp only [sumL];omega
   have HE:Hid ((L - n - (sumL ls k:Nat)) - ((q k).rs.length:Int) - ((q k).os.length:Int)=L - n - (sumL ls (k+1):Nat)):=e1;have e2:((q k).rs.length:Int)+((q k).os.length:Int)<=L - n - (sumL ls k:Nat):=by omega
   have e3:¬ (L - n - (sumL ls (k+1):Nat)<0):=by omega
   have e4:L - n - (sumL ls k:Nat)<=1048576:=by omega
   clear e1 hS hsl hlk;generalize hy:L - n - (sumL ls (k+1):Nat)=Y at *;go_wp2_with fail
   refine (qf4 _ _ _ _ _ _ _ _ _ _ e2 e4).mono ?_;rintro e w1 ⟨rfl,b1⟩;rw [HE.out];clear e2 e4 c0 c1 c2 c3;go_wp2;go_roundw
   case rel=>exact ⟨k+1,by omega,by go_num,by rw [<- hy],hbw.trans (b1.mono hbw.size)⟩
   case measure=>simp [intOf];omega
  ·have hkl:k=n:=by omega
   subst hkl;go_wp2;go_ret;exact ⟨rfl,hbw⟩
theorem qjx (a0:Option Addr) (n cap:Nat) (q:Nat->St8) (L:Int) (w:World) (hr:qbd w a0 n q) (h:L<(n:Int)+(sumL (lenS fun i=>(q i).s) n:Nat)) (h0:0<=L) (hL:L<=1048576) (hm:n<=maxLen) (hl:∀ i,i<n->(q i).rs.length<=maxLen/\(q i).os.length<=maxLen):
  Calls Tryz.prog 49 #[.slice a0 n cap,.int .i64 L] w fun e w'=>e=.returned (.int .i64 (-1))/\Below w.heap.size w w':=by
 have hm':(n:Int)<=9223372036854775807:=by unfold maxLen at hm;omega
 by_cases hn0:L - (n:Int)<0
 ·go_enter Tryz.func49,Tryz.ntmps49
  go_wp2;go_ret;exact ⟨rfl,Below.refl _ _⟩
 have hn:(n:Int)<=1048576:=by omega
 have HR:Hid (qbd w a0 n q):=hr;have HS:Hid (L<(n:Int)+(sumL (lenS fun i=>(q i).s) n:Nat)):=h;have HL:Hid (∀ i,i<n->(q i).rs.length<=maxLen/\(q i).os.length<=maxLen):=hl;clear hr h hl hm;generalize hls:(lenS fun i=>(q i).s)=ls at *;have HLS:Hid ((lenS fun i=>(q i).s)=ls):=hls;clear hls
 go_enter Tryz.func49,Tryz.ntmps49
 go_wp2_with fail
 go_loopw [1,5] (fun x i wr=>∃ k:Nat,k<=n/\i=.int .i64 k/\x=.int .i64 (L - n - (sumL ls k:Nat))/\0<=L - n - (sumL ls k:Nat)/\Below w.heap.size w wr) (fun _ i _=>n - (intOf i).toNat)
 case atStart=>exact ⟨0,Nat.zero_le _,rfl,by simp [sumL],by simp only [sumL];omega,Below.refl _ _⟩
 case round=>
  obtain ⟨k,hk,rfl,rfl,hp,hbw⟩:=hrel;by_cases hlt:k<n
  ·have hlt':(k:Int)<(n:Int):=by omega
   obtain ⟨b,off,rfl,c0,c1,c2,c3⟩:=(HR.out.below hbw).at hlt;obtain ⟨ml1,ml2⟩:=HL.out k hlt;have hlk:ls k=(q k).rs.length+(q k).os.length:=by rw [<- HLS.out];rfl
   have e1:(L - n - (sumL ls k:Nat)) - ((q k).rs.length:Int) - ((q k).os.length:Int)=L - n - (sumL ls (k+1):Nat):=by simp only [sumL];omega
   have HE:Hid ((L - n - (sumL ls k:Nat)) - ((q k).rs.length:Int) - ((q k).os.length:Int)=L - n - (sumL ls (k+1):Nat)):=e1;have e4:L - n - (sumL ls k:Nat)<=1048576:=by omega
   clear e1 hlk;by_cases hb:((q k).rs.length:Int)+((q k).os.length:Int)<=L - n - (sumL ls k:Nat)
   ·have e3:0<=L - n - (sumL ls (k+1):Nat):=by have:=HE.out;omega
    have e3':¬ (L - n - (sumL ls (k+1):Nat)<0):=by omega
    generalize hy:L - n - (sumL ls (k+1):Nat)=Y at *;go_wp2_with fail
    refine (qf4 _ _ _ _ _ _ _ _ _ _ hb e4).mono ?_;rintro e w1 ⟨rfl,b1⟩;rw [HE.out];clear hb e4 hp c0 c1 c2 c3 ml1 ml2;go_wp2;go_roundw
    case rel=>exact ⟨k+1,by omega,by go_num,by rw [<- hy],by omega,hbw.trans (b1.mono hbw.size)⟩
    case measure=>simp [intOf];omega
   ·have hb':L - n - (sumL ls k:Nat)<((q k).rs.length:Int)+((q k).os.length:Int):=by omega
    go_wp2_with fail
    refine (ql6 _ _ _ _ _ _ _ _ _ _ hb' e4 hp ml1 ml2).mono ?_;rintro e w1 ⟨rfl,b1⟩;clear hb hb' e4 hp HE c0 c1 c2 c3 ml1 ml2;go_wp2;go_ret;exact ⟨rfl,hbw.trans (b1.mono hbw.size)⟩
  ·have hkl:k=n:=by omega
   subst hkl;have:=HS.out;omega
theorem qqi {w w':World} {B size n:Nat} {e:TypeId} {v:Value} {xs:List Value} (h:w.ownsRow B e size v n xs) (hb:∀ k,v.ownBlock=some k->w'.heap[k]? = w.heap[k]?):w'.ownsRow B e size v n xs:=by
 obtain ⟨h0,h⟩:=h;refine ⟨h0,?_⟩
 rcases h with h | ⟨g,cap,cur,rfl,h1,h2,h3⟩
 ·exact .inl h
 ·exact .inr ⟨g,cap,cur,rfl,h1,(hb g rfl).trans h2,h3⟩
theorem OwnI.blk {w w':World} {B:Nat} {v:Value} {xs:List Int} (h:OwnI w B v xs) (hb:∀ k,v.ownBlock=some k->w'.heap[k]? = w.heap[k]?):OwnI w' B v xs:=qqi h hb
theorem qag.blk {w w':World} {B:Nat} {v:Value} {p code:Int} {rs os:List Int} (h:qag w B v p rs os code) (hb:∀ k,qae v k->w'.heap[k]? = w.heap[k]?):qag w' B v p rs os code:=by
 obtain ⟨vr,vo,rfl,h1,h2,h3⟩:=h;exact ⟨vr,vo,rfl,h1.blk fun k hk=>hb k ((qal _ _ _ _ _).2 (.inl hk)),h2.blk fun k hk=>hb k ((qal _ _ _ _ _).2 (.inr hk)),h3⟩
def Cel4 (w:World) (D j:Nat) (S:S4) (v:Value):Prop:=∃ ra rc oa oc,v=stV S.p ra S.rs.length rc oa S.os.length oc S.c/\w.cell? ⟨D,j,none⟩=some (.int .i64 S.p)/\w.cell? ⟨D,j+1,none⟩=some (.slice ra S.rs.length rc)/\w.cell? ⟨D,j+2,none⟩=some (.slice oa S.os.length oc)/\w.cell? ⟨D,j+3,none⟩=some (.int .i64 S.c)
structure qau (w:World) (D hi n:Nat) (S:Nat->S4) (vs:Nat->Value):Prop where
 cel:∀ i,i<n->Cel4 w D (i*4) (S i) (vs i)
 own:∀ i,i<n->qag w (D+1) (vs i) (S i).p (S i).rs (S i).os (S i).c
 bd:∀ i,i<n->∀ k,qae (vs i) k->k<hi
 apart:∀ i j,i<j->j<n->∀ k,qae (vs i) k->¬ qae (vs j) k
 fr:∀ j,w.frozen? ⟨D,j,none⟩=false
 le:hi<=w.heap.size
 lt:D<hi
theorem Cel4.blk {w w':World} {D j:Nat} {S:S4} {v:Value} (h:Cel4 w D j S v) (hb:w'.heap[D]? = w.heap[D]?):Cel4 w' D j S v:=by
 obtain ⟨ra,rc,oa,oc,e,h0,h1,h2,h3⟩:=h;exact ⟨ra,rc,oa,oc,e,(zH hb).trans h0,(zH hb).trans h1,(zH hb).trans h2,(zH hb).trans h3⟩
theorem qau.below {w w':World} {D hi n B:Nat} {S:Nat->S4} {vs:Nat->Value} (o:qau w D hi n S vs) (hb:Below B w w') (hB:hi<=B):qau w' D hi n S vs:=
 have hD:w'.heap[D]? = w.heap[D]?:=hb.block D (zL o.lt hB)
 ⟨fun i hi'=>(o.cel i hi').blk hD,fun i hi'=>(o.own i hi').blk fun k hk=>hb.block k (zL (o.bd i hi' k hk) hB),o.bd,o.apart,fun j=>(zI hD).trans (o.fr j),zO o.le hb.size,o.lt⟩
theorem qau.keep {w w':World} {D hi n:Nat} {S:Nat->S4} {vs:Nat->Value} (o:qau w D hi n S vs) (hs:w.heap.size<=w'.heap.size) (hb:∀ k,D<=k->k<hi->w'.heap[k]? = w.heap[k]?):qau w' D hi n S vs:=
 have hD:w'.heap[D]? = w.heap[D]?:=hb D (Nat.le_refl _) o.lt
 ⟨fun i hi'=>(o.cel i hi').blk hD,fun i hi'=>(o.own i hi').blk fun k hk=>hb k (by have:=((o.own i hi').lt hk).1;omega) (o.bd i hi' k hk),o.bd,o.apart,fun j=>(zI hD).trans (o.fr j),zO o.le hs,o.lt⟩
theorem qut:(Tryz.prog.info? 142).map (fun i=>(i.zero,i.size,i.bytes))=some (some (stV 0 none 0 0 none 0 0 0),4,64):=by kernel_rfl
theorem qob (n:Nat) (hn:n<=1048576) (w:World):
  (Instr.makeSlice 37 (.int .i64 (n:Int)) (.int .i64 (n:Int))).run Tryz.prog w=.ok (.slice (some ⟨w.heap.size,0,none⟩) n n) (w.alloc (.cells (madeCells (stV 0 none 0 0 none 0 0 0).cells (n*4)) 142)):=by
 have hinfo:=qut;cases hi:Tryz.prog.info? 142 with
 | none=>rw [hi] at hinfo;cases hinfo
 | some i=>
  rw [hi] at hinfo;simp only [Option.map_some,Option.some.injEq,Prod.mk.injEq] at hinfo;obtain ⟨hz,hs,hb⟩:=hinfo;have h:=run_make (P:=Tryz.prog) w 37 142 i _ Tryz.underlying37 hi hz .i64 .i64 (n:Int) (n:Int) (by omega) (Int.le_refl _) (by rw [hb];omega) (by omega);rw [hs] at h;simpa using h
theorem qqb (w:World) (n:Nat):∃ f,(w.alloc (.cells (madeCells (stV 0 none 0 0 none 0 0 0).cells (n*4)) 142)).rowIs w.heap.size 142 (n*4) f:=by
 refine ⟨fun i=>(stV 0 none 0 0 none 0 0 0).cells[i % 4]!,_,blk_alloc_new _ _,size_madeCells _ _,fun i hi=>?_⟩;simp only [madeCells];rw [Array.getElem?_map,Array.getElem?_range,if_pos hi];rfl
structure qt7 (w:World) (D k:Nat) (f:Nat->Value) (S:Nat->S4) (vs:Nat->Value):Prop where
 cel:∀ i,i<k->∃ ra rc oa oc,vs i=stV (S i).p ra (S i).rs.length rc oa (S i).os.length oc (S i).c/\f (i*4)=.int .i64 (S i).p/\f (i*4+1)=.slice ra (S i).rs.length rc/\f (i*4+2)=.slice oa (S i).os.length oc/\f (i*4+3)=.int .i64 (S i).c
 own:∀ i,i<k->qag w (D+1) (vs i) (S i).p (S i).rs (S i).os (S i).c
 apart:∀ i j,i<j->j<k->∀ b,qae (vs i) b->¬ qae (vs j) b
theorem qt7.step {w w1:World} {D k:Nat} {f:Nat->Value} {S:Nat->S4} {vs:Nat->Value} (o:qt7 w D k f S vs) (hb:Below w.heap.size w w1) (hD:D<w.heap.size) {ra oa:Option Addr} {rc oc:Nat} (hv:qag w1 w.heap.size (stV (S k).p ra (S k).rs.length rc oa (S k).os.length oc (S k).c) (S k).p (S k).rs (S k).os (S k).c) (a b c d:Value):
  qt7 ((((w1.setCell ⟨D,k*4,none⟩ a).setCell ⟨D,k*4+1,none⟩ b).setCell ⟨D,k*4+2,none⟩ c).setCell ⟨D,k*4+3,none⟩ d) D (k+1)
   (fun i=>if i=k*4+3 then .int .i64 (S k).c else if i=k*4+2 then .slice oa (S k).os.length oc else if i=k*4+1 then .slice ra (S k).rs.length rc else if i=k*4 then .int .i64 (S k).p else f i) S
   (fun i=>if i=k then stV (S k).p ra (S k).rs.length rc oa (S k).os.length oc (S k).c else vs i):=by
 have hs:∀ g,g≠D->((((w1.setCell ⟨D,k*4,none⟩ a).setCell ⟨D,k*4+1,none⟩ b).setCell ⟨D,k*4+2,none⟩ c).setCell ⟨D,k*4+3,none⟩ d).heap[g]? = w1.heap[g]?:=fun g hne=>(zN _ _ _ _ hne).trans ((zN _ _ _ _ hne).trans ((zN _ _ _ _ hne).trans (zN _ _ _ _ hne)));refine ⟨fun i hi=>?_,fun i hi=>?_,fun i j hij hj g h1=>?_⟩
 ·by_cases e:i=k
  ·subst e
   exact ⟨ra,rc,oa,oc,by simp,by simp,by simp,by simp,by simp⟩
  ·obtain ⟨ra',rc',oa',oc',e0,e1,e2,e3,e4⟩:=o.cel i (by omega)
   refine ⟨ra',rc',oa',oc',by simp only [if_neg e];exact e0,?_,?_,?_,?_⟩
   ·rw [if_neg (by omega),if_neg (by omega),if_neg (by omega),if_neg (by omega)];exact e1
   ·rw [if_neg (by omega),if_neg (by omega),if_neg (by omega),if_neg (by omega)];exact e2
   ·rw [if_neg (by omega),if_neg (by omega),if_neg (by omega),if_neg (by omega)];exact e3
   ·rw [if_neg (by omega),if_neg (by omega),if_neg (by omega),if_neg (by omega)];exact e4
 ·by_cases e:i=k
  ·subst e
   simp only [if_true];refine qag.blk (hv.mono (by omega)) fun g hg=>hs g ?_;have:=(hv.lt hg).1;omega
  ·simp only [if_neg e]
   have ho:=o.own i (by omega);refine (ho.below hb).blk fun g hg=>hs g ?_;have:=(ho.lt hg).1;omega
 ·by_cases e:j=k
  ·have hi:i≠k:=by omega
   simp only [if_neg hi] at h1;simp only [if_pos e];intro h2;have a1:=((o.own i (by omega)).lt h1).2;have a2:=(hv.lt h2).1;omega
  ·have hi:i≠k:=by omega
   simp only [if_neg hi] at h1;simp only [if_neg e];exact o.apart i j hij (by omega) g h1
theorem qow (a0:Option Addr) (n cap:Nat) (q:Nat->St8) (W w:World) (hn:n<=1048576) (hl:∀ i,i<n->(q i).rs.length<=1048576/\(q i).os.length<=1048576) (hA:qbd W a0 n q) (hW:Below W.heap.size W w):
  Calls Tryz.prog 58 #[.slice a0 n cap] w fun e w'=>e=.returned (.slice (some ⟨w.heap.size,0,none⟩) n n)/\(∃ vs,qau w' w.heap.size w'.heap.size n (fun i=>(q i).s) vs)/\Below w.heap.size w w':=by
 have hl':(n:Int)<=1048576:=by omega
 have hmk:=qob n hn;have HA:Hid (qbd W a0 n q):=hA;have HW:Hid (Below W.heap.size W w):=hW;have HL:Hid (∀ i,i<n->(q i).rs.length<=1048576/\(q i).os.length<=1048576):=hl;clear hA hW hl
 go_enter Tryz.func58,Tryz.ntmps58
 go_wp2_with fail
 clear hmk
 go_loopw [4] (fun i wr=>∃ k:Nat,k<=n/\i=.int .i64 k/\(∃ f,wr.rowIs w.heap.size 142 (n*4) f/\Hid (∃ vs,qt7 wr w.heap.size k f (fun i=>(q i).s) vs))/\Below w.heap.size w wr) (fun i _=>n - (intOf i).toNat)
 case atStart=>
  obtain ⟨f,hf⟩:=qqb w n;exact ⟨0,Nat.zero_le _,rfl,⟨f,hf,fun _=>.int .i64 0,fun i hi=>by omega,fun i hi=>by omega,fun i j hij hj=>by omega⟩,(Below.refl _ _).alloc (Nat.le_refl _) _⟩
 case round=>
  obtain ⟨k,hk,rfl,⟨f,hrow,HF⟩,hbw⟩:=hrel;have hs:=hrow.lt;by_cases hlt:k<n
  ·have hlt':(k:Int)<(n:Int):=by omega
   have HB:Hid (qbd wr a0 n q):=HA.out.below (HW.out.trans (hbw.mono HW.out.size));obtain ⟨b,off,rfl,c0,c1,c2,c3⟩:=HB.out.at hlt;have HR:Hid (wr.rowIs w.heap.size 142 (n*4) f):=hrow;clear hrow;go_wp2_with fail
   refine (qq1 _ _ _ _ _ _ (q k).rs (q k).os _ (HL.out k hlt).1 (HL.out k hlt).2 (HB.out.lst k hlt).1 (HB.out.lst k hlt).2).mono ?_;rintro e w1 ⟨v1,rfl,o1,hb1⟩;obtain ⟨ra1,rc1,oa1,oc1,rfl,-,-⟩:=o1.read;have hr1:w1.rowIs w.heap.size 142 (n*4) f:=HR.out.of_block (hb1.block _ hs);have f0:=hr1.frozen;have g0:=hr1.cell (i:=k*4) (by omega);have g1:=hr1.cell (i:=k*4+1) (by omega);have g2:=hr1.cell (i:=k*4+2) (by omega);have g3:=hr1.cell (i:=k*4+3) (by omega);have HR1:Hid (w1.rowIs w.heap.size 142 (n*4) f):=hr1
   have HF1:Hid (∀ a b c d:Value,∃ vs,qt7 ((((w1.setCell ⟨w.heap.size,k*4,none⟩ a).setCell ⟨w.heap.size,k*4+1,none⟩ b).setCell ⟨w.heap.size,k*4+2,none⟩ c).setCell ⟨w.heap.size,k*4+3,none⟩ d) w.heap.size (k+1) (fun i=>if i=k*4+3 then .int .i64 (q k).c else if i=k*4+2 then .slice oa1 (q k).os.length oc1 else if i=k*4+1 then .slice ra1 (q k).rs.length rc1 else if i=k*4 then .int .i64 (q k).p else f i) (fun i=>(q i).s) vs):=by
    intro a b c d;obtain ⟨vs,o⟩:=HF.out;exact ⟨_,o.step hb1 hs (S:=fun i=>(q i).s) (k:=k) o1 a b c d⟩
   clear hr1 o1 HF HR HB c0 c1 c2 c3;go_wp2_with fail
   exact ⟨⟨k+1,by omega,by go_num,⟨_,(((HR1.out.set _ _).set _ _).set _ _).set _ _,HF1.out _ _ _ _⟩,((((hbw.trans (hb1.mono (Nat.le_of_lt hs))).setCell (Nat.le_refl _) _).setCell (Nat.le_refl _) _).setCell (Nat.le_refl _) _).setCell (Nat.le_refl _) _⟩,by simp [intOf];omega⟩
  ·have hkl:k=n:=by omega
   have HO:Hid (∃ vs,qau wr w.heap.size wr.heap.size n (fun i=>(q i).s) vs):=by
    obtain ⟨vs,o⟩:=HF.out;rw [hkl] at o;refine ⟨vs,fun i hi=>?_,o.own,fun i hi b hb=>((o.own i hi).lt hb).2,o.apart,fun j=>hrow.frozen j,Nat.le_refl _,hs⟩;obtain ⟨ra,rc,oa,oc,e0,e1,e2,e3,e4⟩:=o.cel i hi;exact ⟨ra,rc,oa,oc,e0,by rw [hrow.cell (by omega),e1],by rw [hrow.cell (by omega),e2],by rw [hrow.cell (by omega),e3],by rw [hrow.cell (by omega),e4]⟩
   clear hkl HF hrow;go_wp2;go_ret;exact ⟨rfl,HO.out,hbw⟩
def flat (f:Nat->List Value):Nat->List Value
 | 0=>[]
 | n+1=>flat f n ++ f n
theorem qbe {f:Nat->List Value} {sz:Nat}:∀ {n:Nat},(∀ i,i<n->(f i).length=sz)->(flat f n).length=n*sz
 | 0,_=>by simp [flat]
 | n+1,h=>by
  rw [flat,List.length_append,qbe (fun i hi=>h i (by omega)),h n (by omega),Nat.add_mul,Nat.one_mul]
theorem qbm {f:Nat->List Value} {sz:Nat}:∀ {n:Nat},(∀ i,i<n->(f i).length=sz)->∀ {i j:Nat},i<n->j<sz->(flat f n)[i*sz+j]? = (f i)[j]?
 | 0,_,i,j,hi,_=>by omega
 | n+1,h,i,j,hi,hj=>by
  have hl:=qbe (f:=f) (sz:=sz) (n:=n) fun i hi=>h i (by omega);by_cases e:i=n
  ·subst e
   rw [flat,List.getElem?_append_right (by omega),hl]
   congr 1
   omega
  ·have:i*sz+sz<=n*sz:=by
    have:=Nat.mul_le_mul_right sz (show i+1<=n by omega);rw [Nat.add_mul,Nat.one_mul] at this;exact this
   rw [flat,List.getElem?_append_left (by omega)];exact qbm (fun i hi=>h i (by omega)) (by omega) hj
theorem qht {f:Nat->List Value}:∀ {n:Nat},(∀ i,i<n->∀ u ∈ f i,u.oneCell'=true)->∀ u ∈ flat f n,u.oneCell'=true
 | 0,_,u,hu=>by simp [flat] at hu
 | n+1,h,u,hu=>by
  rw [flat,List.mem_append] at hu
  rcases hu with hu | hu
  ·exact qht (fun i hi=>h i (by omega)) u hu
  ·exact h n (by omega) u hu
theorem qaz {f g:Nat->List Value}:∀ {n:Nat},(∀ i,i<n->f i=g i)->flat f n=flat g n
 | 0,_=>rfl
 | n+1,h=>by rw [flat,flat,qaz fun i hi=>h i (by omega),h n (by omega)]
theorem quo {f:Nat->List Value} {n i:Nat} (hl:∀ j,j<n->(f j).length=4) (hi:i<n) (a b c d:Value):
  flat (fun j=>if j=i then [a,b,c,d] else f j) n=((((flat f n).set (i*4) a).set (i*4+1) b).set (i*4+2) c).set (i*4+3) d:=by
 have hl':∀ j,j<n->((fun j=>if j=i then [a,b,c,d] else f j) j).length=4:=fun j hj=>by
  by_cases e:j=i
  ·simp [e]
  ·simp [e,hl j hj]
 have n1:=qbe hl;have n2:=qbe hl';apply List.ext_getElem?;intro q;by_cases hq:q<n*4
 ·have hk:q / 4<n:=by omega
  have hr:q % 4<4:=by omega
  have e:q=q / 4*4+q % 4:=by omega
  have e1:=qbm hl' hk hr;have e2:=qbm hl hk hr;rw [<- e] at e1 e2;rw [e1];by_cases ei:q / 4=i
  ·simp only [if_pos ei]
   have hr4:q % 4=0\/q % 4=1\/q % 4=2\/q % 4=3:=by omega
   rcases hr4 with h | h | h | h <;> rw [h] <;>
    (simp only [List.getElem?_set, List.length_set, n1]
     have:i<n:=hi
     repeat (first | rw [if_pos (by omega)] | rw [if_neg (by omega)])
     simp)
  ·simp only [if_neg ei]
   simp only [List.getElem?_set,List.length_set,n1];rw [if_neg (by omega),if_neg (by omega),if_neg (by omega),if_neg (by omega),e2]
 ·rw [List.getElem?_eq_none (by omega),List.getElem?_eq_none (by simp only [List.length_set];omega)]
def cellsL:Value->List Value
 | .agg a=>a.toList
 | _=>[]
theorem qag.cellsL {w:World} {B:Nat} {v:Value} {p code:Int} {rs os:List Int} (h:qag w B v p rs os code):(cellsL v).length=4/\∀ u ∈ cellsL v,u.oneCell'=true:=by
 obtain ⟨vr,vo,rfl,h1,h2,-⟩:=h;obtain ⟨a1,c1,rfl,-⟩:=h1.form;obtain ⟨a2,c2,rfl,-⟩:=h2.form;refine ⟨rfl,fun u hu=>?_⟩;simp [Go.Proofs.YtkdablcbhhphoaaGreatDoor.cellsL] at hu
 rcases hu with rfl | rfl | rfl | rfl <;> rfl
structure LS (w:World) (P:Nat->Prop) (v:Value) (n:Nat) (vs:Nat->Value) (S:Nat->S4):Prop where
 row:w.ownsRow 0 142 4 v n (flat (fun i=>cellsL (vs i)) n)
 own:∀ i,i<n->qag w 0 (vs i) (S i).p (S i).rs (S i).os (S i).c
 rb:∀ k,v.ownBlock=some k->P k
 ob:∀ i,i<n->∀ k,qae (vs i) k->P k
 ra:∀ i,i<n->∀ k,qae (vs i) k->v.ownBlock≠some k
 oa:∀ i j,i<n->j<n->i≠j->∀ k,qae (vs i) k->¬ qae (vs j) k
section
variable {w:World} {P:Nat->Prop} {v:Value} {n:Nat} {vs:Nat->Value} {S:Nat->S4}
theorem LS.keep (o:LS w P v n vs S) {w':World} (hb:∀ k,P k->k<w.heap.size->w'.heap[k]? = w.heap[k]?):LS w' P v n vs S:=
 ⟨qab o.row fun k hk=>hb k (o.rb k hk) (o.row.lt k hk).2,fun i hi=>(o.own i hi).blk fun k hk=>hb k (o.ob i hi k hk) ((o.own i hi).lt hk).2,o.rb,o.ob,o.ra,o.oa⟩
theorem LS.below (o:LS w P v n vs S) {w':World} (hb:Below w.heap.size w w'):LS w' P v n vs S:=o.keep fun k _ hk=>hb.block k hk
theorem LS.mono (o:LS w P v n vs S) {P':Nat->Prop} (h:∀ k,P k->k<w.heap.size->P' k):LS w P' v n vs S:=
 ⟨o.row,o.own,fun k hk=>h k (o.rb k hk) (o.row.lt k hk).2,fun i hi k hk=>h k (o.ob i hi k hk) ((o.own i hi).lt hk).2,o.ra,o.oa⟩
theorem LS.nil (w:World) (P:Nat->Prop) (vs:Nat->Value) (S:Nat->S4):LS w P (.slice none 0 0) 0 vs S:=
 ⟨World.ownsRow_nil _ _ _ _,fun i hi=>(by omega),fun k hk=>(by cases hk),fun i hi=>(by omega),fun i hi=>(by omega),fun i j hi=>(by omega)⟩
theorem LS.push (o:LS w P v n vs S) {w1 w2:World} {u' v':Value} (b1:Below w.heap.size w w1) (hu:qag w1 w.heap.size u' (S n).p (S n).rs (S n).os (S n).c) (hv:w2.ownsRow 0 142 4 v' (n+1) (flat (fun i=>cellsL (vs i)) n ++ cellsL u')) (g:w1.grownBy w2 v.ownBlock)
  (hv':∀ j,v'.ownBlock=some j->v.ownBlock=some j\/w1.heap.size<=j) {P':Nat->Prop} (hP:∀ k,P k->k<w.heap.size->P' k) (hP':∀ k,w.heap.size<=k->k<w2.heap.size->P' k):LS w2 P' v' (n+1) (fun j=>if j=n then u' else vs j) S:=by
 have hvlt:∀ k,v.ownBlock=some k->k<w.heap.size:=fun k hk=>(o.row.lt k hk).2;have lts:∀ i,i<n->∀ k,qae (vs i) k->k<w.heap.size:=fun i hi k hk=>((o.own i hi).lt hk).2
 have hu2:qag w2 w.heap.size u' (S n).p (S n).rs (S n).os (S n).c:=hu.blk fun k hk=>g.block k (hu.lt hk).2 fun e=>by
  have q1:=(hu.lt hk).1;have q2:=hvlt k e.symm;omega
 have ho2:∀ i,i<n->qag w2 0 (vs i) (S i).p (S i).rs (S i).os (S i).c:=fun i hi=>(o.own i hi).blk fun k hk=>(g.block k (zL (lts i hi k hk) b1.size) fun e=>o.ra i hi k hk e.symm).trans (b1.block k (lts i hi k hk));refine ⟨?_,fun i hi=>?_,fun k hk=>?_,fun i hi k hk=>?_,fun i hi k hk=>?_,fun i j hi hj hij k hk=>?_⟩
 ·have e:flat (fun i=>cellsL (if i=n then u' else vs i)) (n+1)=flat (fun i=>cellsL (vs i)) n ++ cellsL u':=by
   rw [flat,if_pos rfl]
   congr 1
   exact qaz fun i hi=>by rw [if_neg (by omega)]
  rw [e];exact hv
 ·by_cases ei:i=n
  ·subst ei
   simp only [if_true];exact hu2.mono (Nat.zero_le _)
  ·simp only [if_neg ei]
   exact ho2 i (by omega)
 ·rcases hv' k hk with h | h
  ·exact hP k (o.rb k h) (hvlt k h)
  ·exact hP' k (zO b1.size h) (hv.lt k hk).2
 ·by_cases ei:i=n
  ·simp only [if_pos ei] at hk
   exact hP' k (hu.lt hk).1 (hu2.lt hk).2
  ·simp only [if_neg ei] at hk
   exact hP k (o.ob i (by omega) k hk) (lts i (by omega) k hk)
 ·intro hvk
  by_cases ei:i=n
  ·simp only [if_pos ei] at hk
   rcases hv' k hvk with h | h
   ·have:=hvlt k h
    have:=(hu.lt hk).1;omega
   ·have:=(hu.lt hk).2
    omega
  ·simp only [if_neg ei] at hk
   rcases hv' k hvk with h | h
   ·exact o.ra i (by omega) k hk h
   ·have:=lts i (by omega) k hk
    have:=b1.size;omega
 ·intro hjk
  by_cases ei:i=n
  ·have ej:j≠n:=fun e=>hij (by omega)
   simp only [if_pos ei] at hk;simp only [if_neg ej] at hjk;have:=lts j (by omega) k hjk;have:=(hu.lt hk).1;omega
  ·simp only [if_neg ei] at hk
   by_cases ej:j=n
   ·simp only [if_pos ej] at hjk
    have:=lts i (by omega) k hk;have:=(hu.lt hjk).1;omega
   ·simp only [if_neg ej] at hjk
    exact o.oa i j (by omega) (by omega) hij k hk hjk
theorem LS.cell (o:LS w P v n vs S) {i:Nat} (hi:i<n):∃ g cap,v=.slice (some ⟨g,0,none⟩) n cap/\P g/\g<w.heap.size/\Cel4 w g (i*4) (S i) (vs i)/\∀ j,w.frozen? ⟨g,j,none⟩=false:=by
 have hr:=o.row
 rcases hr.2 with ⟨_,h0⟩ | ⟨g,cap,cur,rfl,hb,hg,hcap,_⟩
 ·omega
 ·refine ⟨g,cap,rfl,o.rb g rfl,(o.row.lt g rfl).2,?_,fun j=>o.row.frozenAt j⟩
  have hl:∀ j,j<n->(cellsL (vs j)).length=4:=fun j hj=>(o.own j hj).cellsL.1
  have hc:∀ j,j<4->w.cell? ⟨g,i*4+j,none⟩=(cellsL (vs i))[j]?:=fun j hj=>by
   rw [o.row.cellAt (i*4+j) (by omega)];exact qbm hl hi hj
  obtain ⟨vr,vo,e,h1,h2,-⟩:=o.own i hi;obtain ⟨a1,c1,rfl,-⟩:=h1.form;obtain ⟨a2,c2,rfl,-⟩:=h2.form;rw [e] at hc;exact ⟨a1,c1,a2,c2,e,hc 0 (by omega),hc 1 (by omega),hc 2 (by omega),hc 3 (by omega)⟩
theorem LS.put {g cap:Nat} (o:LS w P (.slice (some ⟨g,0,none⟩) n cap) n vs S) {i:Nat} (hi:i<n) {w1:World} {ra oa:Option Addr} {rn rc on oc:Nat} {p code:Int} {T:S4} (b1:Below w.heap.size w w1) (hu:qag w1 w.heap.size (stV p ra rn rc oa on oc code) T.p T.rs T.os T.c)
  {P':Nat->Prop} (hP:∀ k,P k->k<w.heap.size->P' k) (hP':∀ k,w.heap.size<=k->k<w1.heap.size->P' k):
  LS ((((w1.setCell ⟨g,i*4,none⟩ (.int .i64 p)).setCell ⟨g,i*4+1,none⟩ (.slice ra rn rc)).setCell ⟨g,i*4+2,none⟩ (.slice oa on oc)).setCell ⟨g,i*4+3,none⟩ (.int .i64 code)) P' (.slice (some ⟨g,0,none⟩) n cap) n (fun j=>if j=i then stV p ra rn rc oa on oc code else vs j) (fun j=>if j=i then T else S j):=by
 have hg:g<w.heap.size:=(o.row.lt g rfl).2;have lts:∀ j,j<n->∀ k,qae (vs j) k->k<w.heap.size:=fun j hj k hk=>((o.own j hj).lt hk).2;have hbk:∀ k,k≠g->((((w1.setCell ⟨g,i*4,none⟩ (.int .i64 p)).setCell ⟨g,i*4+1,none⟩ (.slice ra rn rc)).setCell ⟨g,i*4+2,none⟩ (.slice oa on oc)).setCell ⟨g,i*4+3,none⟩ (.int .i64 code)).heap[k]? = w1.heap[k]?:=fun k hne=>(zN _ _ _ _ hne).trans ((zN _ _ _ _ hne).trans ((zN _ _ _ _ hne).trans (zN _ _ _ _ hne)));refine ⟨?_,fun j hj=>?_,fun k hk=>?_,fun j hj k hk=>?_,fun j hj k hk=>?_,fun a b ha hb hab k hk=>?_⟩
 ·have hl:∀ j,j<n->(cellsL (vs j)).length=4:=fun j hj=>(o.own j hj).cellsL.1
  have e:flat (fun j=>cellsL (if j=i then stV p ra rn rc oa on oc code else vs j)) n=flat (fun j=>if j=i then [.int .i64 p,.slice ra rn rc,.slice oa on oc,.int .i64 code] else cellsL (vs j)) n:=qaz fun j _=>by
   by_cases ej:j=i
   ·rw [if_pos ej,if_pos ej];rfl
   ·rw [if_neg ej,if_neg ej]
  rw [e,quo hl hi];exact (World.ownsRow.stored (World.ownsRow.stored (World.ownsRow.stored (World.ownsRow.stored (qab o.row fun k hk=>by cases hk;exact b1.block g hg) _ _).1 _ _).1 _ _).1 _ _).1
 ·by_cases ej:j=i
  ·subst ej
   simp only [if_true];refine (hu.mono (Nat.zero_le _)).blk fun k hk=>hbk k ?_;have:=(hu.lt hk).1;omega
  ·simp only [if_neg ej]
   refine (o.own j hj).blk fun k hk=>(hbk k fun e=>?_).trans (b1.block k (lts j hj k hk));exact o.ra j hj k hk (by rw [e];rfl)
 ·cases hk
  exact hP g (o.rb g rfl) hg
 ·by_cases ej:j=i
  ·simp only [if_pos ej] at hk
   exact hP' k (hu.lt hk).1 (hu.lt hk).2
  ·simp only [if_neg ej] at hk
   exact hP k (o.ob j hj k hk) (lts j hj k hk)
 ·intro hvk
  by_cases ej:j=i
  ·simp only [if_pos ej] at hk
   have:=(hu.lt hk).1;have hkg:g=k:=by simpa [Value.ownBlock] using hvk
   omega
  ·simp only [if_neg ej] at hk
   exact o.ra j hj k hk hvk
 ·intro hbk'
  by_cases ea:a=i
  ·have eb:b≠i:=fun e=>hab (by omega)
   simp only [if_pos ea] at hk;simp only [if_neg eb] at hbk';have:=lts b hb k hbk';have:=(hu.lt hk).1;omega
  ·simp only [if_neg ea] at hk
   by_cases eb:b=i
   ·simp only [if_pos eb] at hbk'
    have:=lts a ha k hk;have:=(hu.lt hbk').1;omega
   ·simp only [if_neg eb] at hbk'
    exact o.oa a b ha hb hab k hk hbk'
end
def ItL (w:World) (a:Option Addr) (len:Nat) (h:Nat->I2):Prop:=len=0\/∃ b off,a=some ⟨b,off,none⟩/\b<w.heap.size/\ItAt w b off len h
theorem ItL.below {w w':World} {a:Option Addr} {len:Nat} {h:Nat->I2} (hh:ItL w a len h) (hb:Below w.heap.size w w'):ItL w' a len h:=by
 rcases hh with e | ⟨b,off,e,hlt,hc⟩
 ·exact .inl e
 ·exact .inr ⟨b,off,e,zL hlt hb.size,hc.below hb hlt⟩
theorem ItL.at {w:World} {a:Option Addr} {len:Nat} {h:Nat->I2} (hh:ItL w a len h) {k:Nat} (hk:k<len):∃ b off,a=some ⟨b,off,none⟩/\b<w.heap.size/\w.cell? ⟨b,off+k*2,none⟩=some (.bool (h k).m)/\w.cell? ⟨b,off+k*2+1,none⟩=some (.int .i64 (h k).v):=by
 rcases hh with rfl | ⟨b,off,e,hlt,hc⟩
 ·omega
 ·exact ⟨b,off,e,hlt,hc k hk⟩
def cI (h:I5):List Value:=[.int .i64 h.o,.int .i64 h.r,.int .i64 h.a,.int .i64 h.b,.int .i64 h.n]
def cT (h:I2):List Value:=[.bool h.m,.int .i64 h.v]
def cE (h:E3):List Value:=[.int .i64 h.k,.int .i64 h.q,.int .i64 h.v]
def fI (h:Nat->I5) (n:Nat):List Value:=flat (fun i=>cI (h i)) n
def fT (h:Nat->I2) (n:Nat):List Value:=flat (fun i=>cT (h i)) n
def fE (h:Nat->E3) (n:Nat):List Value:=flat (fun i=>cE (h i)) n
theorem qxi (h:Nat->I5) (n:Nat):(fI h n).length=n*5:=qbe fun _ _=>rfl
theorem quh (h:Nat->I2) (n:Nat):(fT h n).length=n*2:=qbe fun _ _=>rfl
theorem qxg (h:Nat->E3) (n:Nat):(fE h n).length=n*3:=qbe fun _ _=>rfl
theorem qxj (h:Nat->I5) (n:Nat):∀ u ∈ fI h n,u.oneCell'=true:=qht fun i _ u hu=>by
 simp [cI] at hu
 rcases hu with rfl | rfl | rfl | rfl | rfl <;> rfl
theorem qui (h:Nat->I2) (n:Nat):∀ u ∈ fT h n,u.oneCell'=true:=qht fun i _ u hu=>by
 simp [cT] at hu
 rcases hu with rfl | rfl <;> rfl
theorem qxh (h:Nat->E3) (n:Nat):∀ u ∈ fE h n,u.oneCell'=true:=qht fun i _ u hu=>by
 simp [cE] at hu
 rcases hu with rfl | rfl | rfl <;> rfl
theorem kndI:Kind 144 184 5 40:=by
 refine ⟨Tryz.underlying144,?_,by omega,by omega⟩;have hinfo:(Tryz.prog.info? 184).map (fun i=>(i.zero,i.size,i.bytes))=some (some (.agg #[.int .i64 0,.int .i64 0,.int .i64 0,.int .i64 0,.int .i64 0]),5,40):=by kernel_rfl
 cases hi:Tryz.prog.info? 184 with
 | none=>rw [hi] at hinfo;cases hinfo
 | some i=>
  rw [hi] at hinfo;simp only [Option.map_some,Option.some.injEq,Prod.mk.injEq] at hinfo;exact ⟨i,_,rfl,hinfo.1,hinfo.2.1,hinfo.2.2,rfl⟩
theorem kndT:Kind 72 74 2 16:=by
 refine ⟨Tryz.underlying72,?_,by omega,by omega⟩;have hinfo:(Tryz.prog.info? 74).map (fun i=>(i.zero,i.size,i.bytes))=some (some (.agg #[.bool false,.int .i64 0]),2,16):=by kernel_rfl
 cases hi:Tryz.prog.info? 74 with
 | none=>rw [hi] at hinfo;cases hinfo
 | some i=>
  rw [hi] at hinfo;simp only [Option.map_some,Option.some.injEq,Prod.mk.injEq] at hinfo;exact ⟨i,_,rfl,hinfo.1,hinfo.2.1,hinfo.2.2,rfl⟩
theorem kndE:Kind 87 86 3 24:=by
 refine ⟨Tryz.underlying87,?_,by omega,by omega⟩;have hinfo:(Tryz.prog.info? 86).map (fun i=>(i.zero,i.size,i.bytes))=some (some (.agg #[.int .i64 0,.int .i64 0,.int .i64 0]),3,24):=by kernel_rfl
 cases hi:Tryz.prog.info? 86 with
 | none=>rw [hi] at hinfo;cases hinfo
 | some i=>
  rw [hi] at hinfo;simp only [Option.map_some,Option.some.injEq,Prod.mk.injEq] at hinfo;exact ⟨i,_,rfl,hinfo.1,hinfo.2.1,hinfo.2.2,rfl⟩
theorem kndS:Kind 37 142 4 64:=by
 refine ⟨Tryz.underlying37,?_,by omega,by omega⟩;have hinfo:=qut;cases hi:Tryz.prog.info? 142 with
 | none=>rw [hi] at hinfo;cases hinfo
 | some i=>
  rw [hi] at hinfo;simp only [Option.map_some,Option.some.injEq,Prod.mk.injEq] at hinfo;exact ⟨i,_,rfl,hinfo.1,hinfo.2.1,hinfo.2.2,rfl⟩
theorem qya:Kind 36 144 1 24:=by
 refine ⟨Tryz.underlying36,?_,by omega,by omega⟩;have hinfo:(Tryz.prog.info? 144).map (fun i=>(i.zero,i.size,i.bytes))=some (some (.slice none 0 0),1,24):=by kernel_rfl
 cases hi:Tryz.prog.info? 144 with
 | none=>rw [hi] at hinfo;cases hinfo
 | some i=>
  rw [hi] at hinfo;simp only [Option.map_some,Option.some.injEq,Prod.mk.injEq] at hinfo;exact ⟨i,_,rfl,hinfo.1,hinfo.2.1,hinfo.2.2,rfl⟩
theorem qwl:Kind 38 72 1 24:=by
 refine ⟨Tryz.underlying38,?_,by omega,by omega⟩;have hinfo:(Tryz.prog.info? 72).map (fun i=>(i.zero,i.size,i.bytes))=some (some (.slice none 0 0),1,24):=by kernel_rfl
 cases hi:Tryz.prog.info? 72 with
 | none=>rw [hi] at hinfo;cases hinfo
 | some i=>
  rw [hi] at hinfo;simp only [Option.map_some,Option.some.injEq,Prod.mk.injEq] at hinfo;exact ⟨i,_,rfl,hinfo.1,hinfo.2.1,hinfo.2.2,rfl⟩
theorem qwk:Kind 39 87 1 24:=by
 refine ⟨Tryz.underlying39,?_,by omega,by omega⟩;have hinfo:(Tryz.prog.info? 87).map (fun i=>(i.zero,i.size,i.bytes))=some (some (.slice none 0 0),1,24):=by kernel_rfl
 cases hi:Tryz.prog.info? 87 with
 | none=>rw [hi] at hinfo;cases hinfo
 | some i=>
  rw [hi] at hinfo;simp only [Option.map_some,Option.some.injEq,Prod.mk.injEq] at hinfo;exact ⟨i,_,rfl,hinfo.1,hinfo.2.1,hinfo.2.2,rfl⟩
theorem qyi {w:World} {b off sz n:Nat} {f:Nat->List Value} (hb:b<w.heap.size) (hsz:0<sz) (hl:∀ i,i<n->(f i).length=sz) (hc:∀ i,i<n->∀ j,j<sz->w.cell? ⟨b,off+(i*sz+j),none⟩=(f i)[j]?):Src w (some ⟨b,off,none⟩) (flat f n):=by
 refine .inr ⟨b,off,rfl,hb,fun q u hq=>?_⟩;have hlen:=qbe hl
 have hq':q<n*sz:=by
  rcases Nat.lt_or_ge q (n*sz) with h | h
  ·exact h
  ·rw [List.getElem?_eq_none (by omega)] at hq
   cases hq
 have hk:q / sz<n:=Nat.div_lt_of_lt_mul (by rw [Nat.mul_comm];exact hq');have hr:q % sz<sz:=Nat.mod_lt _ hsz;have e:q / sz*sz+q % sz=q:=by rw [Nat.mul_comm];exact Nat.div_add_mod q sz
 have h1:=hc (q / sz) hk (q % sz) hr;have h2:=qbm hl hk hr;rw [e] at h1 h2;rw [h1,<- h2,hq]
theorem srcI {w:World} {b off len:Nat} {g:Nat->I5} (hb:b<w.heap.size) (h:qan w b off len g):Src w (some ⟨b,off,none⟩) (fI g len):=qyi (sz:=5) hb (by omega) (fun _ _=>rfl) fun i hi j hj=>by
 obtain ⟨h0,h1,h2,h3,h4⟩:=h i hi
 match j,hj with
 | 0,_=>exact h0
 | 1,_=>exact h1
 | 2,_=>exact h2
 | 3,_=>exact h3
 | 4,_=>exact h4
theorem srcT {w:World} {a:Option Addr} {len:Nat} {g:Nat->I2} (h:ItL w a len g):Src w a (fT g len):=by
 rcases h with rfl | ⟨b,off,rfl,hb,h⟩
 ·exact .inl rfl
 ·refine qyi (sz:=2) hb (by omega) (fun _ _=>rfl) fun i hi j hj=>?_
  obtain ⟨h0,h1⟩:=h i hi
  match j,hj with
  | 0,_=>exact h0
  | 1,_=>exact h1
theorem srcE {w:World} {a:Option Addr} {len:Nat} {g:Nat->E3} (h:EvL w a len g):Src w a (fE g len):=by
 rcases h with rfl | ⟨b,off,rfl,hb,h⟩
 ·exact .inl rfl
 ·refine qyi (sz:=3) hb (by omega) (fun _ _=>rfl) fun i hi j hj=>?_
  obtain ⟨h0,h1,h2⟩:=h i hi
  match j,hj with
  | 0,_=>exact h0
  | 1,_=>exact h1
  | 2,_=>exact h2
theorem atI {w:World} {B:Nat} {u:Value} {n:Nat} {g:Nat->I5} (o:w.ownsRow B 184 5 u n (fI g n)) (hne:u≠.slice none 0 0):∃ b cap,u=.slice (some ⟨b,0,none⟩) n cap/\b<w.heap.size/\qan w b 0 n g/\n<=cap:=by
 rcases o.2 with ⟨e,_⟩ | ⟨b,cap,cur,rfl,hb,hg,hcap,_⟩
 ·exact absurd e hne
 ·refine ⟨b,cap,rfl,(o.lt b rfl).2,fun i hi=>?_,hcap⟩
  have hc:∀ j,j<5->w.cell? ⟨b,0+(i*5+j),none⟩=(cI (g i))[j]?:=fun j hj=>by
   rw [Nat.zero_add,o.cellAt _ (by omega)];exact qbm (sz:=5) (fun _ _=>rfl) hi hj
  exact ⟨hc 0 (by omega),hc 1 (by omega),hc 2 (by omega),hc 3 (by omega),hc 4 (by omega)⟩
theorem atT {w:World} {B:Nat} {u:Value} {n:Nat} {g:Nat->I2} (o:w.ownsRow B 74 2 u n (fT g n)) (hne:u≠.slice none 0 0):∃ b cap,u=.slice (some ⟨b,0,none⟩) n cap/\b<w.heap.size/\ItAt w b 0 n g/\n<=cap:=by
 rcases o.2 with ⟨e,_⟩ | ⟨b,cap,cur,rfl,hb,hg,hcap,_⟩
 ·exact absurd e hne
 ·refine ⟨b,cap,rfl,(o.lt b rfl).2,fun i hi=>?_,hcap⟩
  have hc:∀ j,j<2->w.cell? ⟨b,0+(i*2+j),none⟩=(cT (g i))[j]?:=fun j hj=>by
   rw [Nat.zero_add,o.cellAt _ (by omega)];exact qbm (sz:=2) (fun _ _=>rfl) hi hj
  exact ⟨hc 0 (by omega),hc 1 (by omega)⟩
theorem atE {w:World} {B:Nat} {u:Value} {n:Nat} {g:Nat->E3} (o:w.ownsRow B 86 3 u n (fE g n)) (hne:u≠.slice none 0 0):∃ b cap,u=.slice (some ⟨b,0,none⟩) n cap/\b<w.heap.size/\EvAt w b 0 n g/\n<=cap:=by
 rcases o.2 with ⟨e,_⟩ | ⟨b,cap,cur,rfl,hb,hg,hcap,_⟩
 ·exact absurd e hne
 ·refine ⟨b,cap,rfl,(o.lt b rfl).2,fun i hi=>?_,hcap⟩
  have hc:∀ j,j<3->w.cell? ⟨b,0+(i*3+j),none⟩=(cE (g i))[j]?:=fun j hj=>by
   rw [Nat.zero_add,o.cellAt _ (by omega)];exact qbm (sz:=3) (fun _ _=>rfl) hi hj
  exact ⟨hc 0 (by omega),hc 1 (by omega),hc 2 (by omega)⟩
def Cl (B:Nat) (c:Nat->Nat) (i:Nat):Nat->Prop:=fun k=>B<=k/\c k=i
abbrev LI (z:Bool) (w:World) (P:Nat->Prop) (v:Value) (n:Nat) (u:Nat->Value) (L:Nat->Nat) (H:Nat->Nat->I5):Prop:=LL z 184 5 144 w P v n u L fun i=>fI (H i) (L i)
abbrev LT (z:Bool) (w:World) (P:Nat->Prop) (v:Value) (n:Nat) (u:Nat->Value) (L:Nat->Nat) (H:Nat->Nat->I2):Prop:=LL z 74 2 72 w P v n u L fun i=>fT (H i) (L i)
abbrev LE (z:Bool) (w:World) (P:Nat->Prop) (v:Value) (n:Nat) (u:Nat->Value) (L:Nat->Nat) (H:Nat->Nat->E3):Prop:=LL z 86 3 87 w P v n u L fun i=>fE (H i) (L i)
theorem qf1 (a0:Option Addr) (len cap:Nat) (L:Int) (w:World) (h:(len:Int)<=L) (hL:L<=1048576):
  Calls Tryz.prog 116 #[.slice a0 len cap,.int .i64 L] w fun e w'=>e=.returned (.int .i64 (L - (len:Int)))/\w'=w:=by
 have h1:(len:Int)<=1048576:=by omega
 have h2:0<=L:=by omega
 have h3:¬ (L - (len:Int)<0):=by omega
 go_enter Tryz.func116,Tryz.ntmps116
 go_wp2;go_ret;exact ⟨rfl,rfl⟩
theorem ql2 (a0:Option Addr) (len cap:Nat) (L:Int) (w:World) (h:L<(len:Int)) (h0:0<=L) (hL:L<=1048576) (hm:len<=maxLen):
  Calls Tryz.prog 116 #[.slice a0 len cap,.int .i64 L] w fun e w'=>e=.returned (.int .i64 (-1))/\w'=w:=by
 unfold maxLen at hm;have h2:(len:Int)<=9223372036854775807:=by omega
 have h3:L - (len:Int)<0:=by omega
 go_enter Tryz.func116,Tryz.ntmps116
 go_wp2;go_ret;exact ⟨rfl,rfl⟩
structure qbk (w:World) (D hi n:Nat) (ls:Nat->Nat) (bs:Nat->Nat) (h:Nat->Nat->I5):Prop where
 cel:∀ i,i<n->w.cell? ⟨D,i,none⟩=some (.slice (some ⟨bs i,0,none⟩) (ls i) (ls i))
 bd:∀ i,i<n->D<bs i/\bs i<hi
 row:∀ i,i<n->qan w (bs i) 0 (ls i) (h i)
 fr:∀ i,i<n->∀ j,w.frozen? ⟨bs i,j,none⟩=false
 up:∀ i j,i<j->j<n->bs i<bs j
 le:hi<=w.heap.size
 lt:D<hi
theorem qbk.below {w w':World} {D hi n B:Nat} {ls:Nat->Nat} {bs:Nat->Nat} {h:Nat->Nat->I5} (o:qbk w D hi n ls bs h) (hb:Below B w w') (hB:hi<=B):qbk w' D hi n ls bs h:=
 ⟨fun i hi'=>(hb.cell (p:=⟨D,i,none⟩) (zL o.lt hB)).trans (o.cel i hi'),o.bd,fun i hi'=>(o.row i hi').below hb (zL (o.bd i hi').2 hB),fun i hi' j=>(hb.frozen (p:=⟨bs i,j,none⟩) (zL (o.bd i hi').2 hB)).trans (o.fr i hi' j),o.up,zO o.le hb.size,o.lt⟩
theorem qbk.keep {w w':World} {D hi n:Nat} {ls:Nat->Nat} {bs:Nat->Nat} {h:Nat->Nat->I5} (o:qbk w D hi n ls bs h) (hs:w.heap.size<=w'.heap.size) (hb:∀ k,D<=k->k<hi->w'.heap[k]? = w.heap[k]?):qbk w' D hi n ls bs h:=by
 refine ⟨fun i hi'=>(zH (hb D (Nat.le_refl _) o.lt)).trans (o.cel i hi'),o.bd,fun i hi'=>?_,fun i hi' j=>(zI (hb _ (Nat.le_of_lt (o.bd i hi').1) (o.bd i hi').2)).trans (o.fr i hi' j),o.up,zO o.le hs,o.lt⟩;have hc:∀ j,w'.cell? ⟨bs i,j,none⟩=w.cell? ⟨bs i,j,none⟩:=fun j=>zH (hb _ (Nat.le_of_lt (o.bd i hi').1) (o.bd i hi').2);intro t ht;have:=o.row i hi' t ht;simp only [hc];exact this
theorem qcv (a0:Option Addr) (n cap:Nat) (aa:Nat->Option Addr) (ls cs:Nat->Nat) (L:Int) (w:World) (hr:RowS w a0 n fun i=>.slice (aa i) (ls i) (cs i)) (h:(n:Int)+(sumL ls n:Nat)<=L) (hL:L<=1048576):
  Calls Tryz.prog 48 #[.slice a0 n cap,.int .i64 L] w fun e w'=>e=.returned (.int .i64 (L - n - (sumL ls n:Nat)))/\w'=w:=by
 have hn:(n:Int)<=1048576:=by omega
 have h0:0<=L:=by omega
 have hn0:¬ (L - (n:Int)<0):=by omega
 have HR:Hid (RowS w a0 n fun i=>.slice (aa i) (ls i) (cs i)):=hr;have HS:Hid ((n:Int)+(sumL ls n:Nat)<=L):=h;clear hr h
 go_enter Tryz.func48,Tryz.ntmps48
 go_wp2_with fail
 go_loopw [1,5] (fun q i wr=>∃ k:Nat,k<=n/\i=.int .i64 k/\q=.int .i64 (L - n - (sumL ls k:Nat))/\wr=w) (fun _ i _=>n - (intOf i).toNat)
 case atStart=>exact ⟨0,Nat.zero_le _,rfl,by simp [sumL],rfl⟩
 case round=>
  obtain ⟨k,hk,rfl,rfl,rfl⟩:=hrel;by_cases hlt:k<n
  ·have hlt':(k:Int)<(n:Int):=by omega
   obtain ⟨b,off,rfl,ck⟩:=HR.out.at hlt;have hsl:=qbc ls hlt;have hS:=HS.out;have e1:(L - n - (sumL ls k:Nat)) - (ls k:Int)=L - n - (sumL ls (k+1):Nat):=by simp only [sumL];omega
   have HE:Hid ((L - n - (sumL ls k:Nat)) - (ls k:Int)=L - n - (sumL ls (k+1):Nat)):=e1;have e2:(ls k:Int)<=L - n - (sumL ls k:Nat):=by omega
   have e3:¬ (L - n - (sumL ls (k+1):Nat)<0):=by omega
   have e4:L - n - (sumL ls k:Nat)<=1048576:=by omega
   clear e1 hS hsl;generalize hy:L - n - (sumL ls (k+1):Nat)=Y at *;go_wp2_with fail
   refine (qf1 _ _ _ _ _ e2 e4).mono ?_;rintro e w1 ⟨rfl,rfl⟩;rw [HE.out];clear e2 e4;go_wp2;go_roundw
   case rel=>exact ⟨k+1,by omega,by go_num,by rw [<- hy],by trivial⟩
   case measure=>simp [intOf];omega
  ·have hkl:k=n:=by omega
   subst hkl;go_wp2;go_ret;exact ⟨rfl,rfl⟩
theorem ql1 (a0:Option Addr) (n cap:Nat) (aa:Nat->Option Addr) (ls cs:Nat->Nat) (L:Int) (w:World) (hr:RowS w a0 n fun i=>.slice (aa i) (ls i) (cs i)) (h:L<(n:Int)+(sumL ls n:Nat)) (h0:0<=L) (hL:L<=1048576) (hm:n<=maxLen) (hl:∀ i,i<n->ls i<=maxLen):
  Calls Tryz.prog 48 #[.slice a0 n cap,.int .i64 L] w fun e w'=>e=.returned (.int .i64 (-1))/\w'=w:=by
 have hm':(n:Int)<=9223372036854775807:=by unfold maxLen at hm;omega
 by_cases hn0:L - (n:Int)<0
 ·go_enter Tryz.func48,Tryz.ntmps48
  go_wp2;go_ret;exact ⟨rfl,rfl⟩
 have hn:(n:Int)<=1048576:=by omega
 have HR:Hid (RowS w a0 n fun i=>.slice (aa i) (ls i) (cs i)):=hr;have HS:Hid (L<(n:Int)+(sumL ls n:Nat)):=h;have HL:Hid (∀ i,i<n->ls i<=maxLen):=hl;clear hr h hl hm
 go_enter Tryz.func48,Tryz.ntmps48
 go_wp2_with fail
 go_loopw [1,5] (fun q i wr=>∃ k:Nat,k<=n/\i=.int .i64 k/\q=.int .i64 (L - n - (sumL ls k:Nat))/\0<=L - n - (sumL ls k:Nat)/\wr=w) (fun _ i _=>n - (intOf i).toNat)
 case atStart=>exact ⟨0,Nat.zero_le _,rfl,by simp [sumL],by simp only [sumL];omega,rfl⟩
 case round=>
  obtain ⟨k,hk,rfl,rfl,hp,rfl⟩:=hrel;by_cases hlt:k<n
  ·have hlt':(k:Int)<(n:Int):=by omega
   obtain ⟨b,off,rfl,ck⟩:=HR.out.at hlt;have hml:=HL.out k hlt;have e1:(L - n - (sumL ls k:Nat)) - (ls k:Int)=L - n - (sumL ls (k+1):Nat):=by simp only [sumL];omega
   have HE:Hid ((L - n - (sumL ls k:Nat)) - (ls k:Int)=L - n - (sumL ls (k+1):Nat)):=e1;have e4:L - n - (sumL ls k:Nat)<=1048576:=by omega
   clear e1;by_cases hb:(ls k:Int)<=L - n - (sumL ls k:Nat)
   ·have e3:0<=L - n - (sumL ls (k+1):Nat):=by have:=HE.out;omega
    have e3':¬ (L - n - (sumL ls (k+1):Nat)<0):=by omega
    generalize hy:L - n - (sumL ls (k+1):Nat)=Y at *;go_wp2_with fail
    refine (qf1 _ _ _ _ _ hb e4).mono ?_;rintro e w1 ⟨rfl,rfl⟩;rw [HE.out];clear hb e4 hml hp;go_wp2;go_roundw
    case rel=>exact ⟨k+1,by omega,by go_num,by rw [<- hy],by omega,by trivial⟩
    case measure=>simp [intOf];omega
   ·have hb':L - n - (sumL ls k:Nat)<(ls k:Int):=by omega
    go_wp2_with fail
    refine (ql2 _ _ _ _ _ hb' hp e4 hml).mono ?_;rintro e w1 ⟨rfl,rfl⟩;clear hb hb' e4 hml hp HE;go_wp2;go_ret;exact ⟨rfl,rfl⟩
  ·have hkl:k=n:=by omega
   subst hkl;have:=HS.out;omega
theorem qwh:(Tryz.prog.info? 144).map (fun i=>(i.zero,i.size,i.bytes))=some (some (.slice none 0 0),1,24):=by kernel_rfl
theorem qls (n:Nat) (hn:n<=1048576) (w:World):
  (Instr.makeSlice 36 (.int .i64 (n:Int)) (.int .i64 (n:Int))).run Tryz.prog w=.ok (.slice (some ⟨w.heap.size,0,none⟩) n n) (w.alloc (.cells (madeCells #[.slice none 0 0] n) 144)):=by
 have hinfo:=qwh;cases hi:Tryz.prog.info? 144 with
 | none=>rw [hi] at hinfo;cases hinfo
 | some i=>
  rw [hi] at hinfo;simp only [Option.map_some,Option.some.injEq,Prod.mk.injEq] at hinfo;obtain ⟨hz,hs,hb⟩:=hinfo;have h:=run_make (P:=Tryz.prog) w 36 144 i _ Tryz.underlying36 hi hz .i64 .i64 (n:Int) (n:Int) (by omega) (Int.le_refl _) (by rw [hb];omega) (by omega);rw [hs] at h;simpa [Value.cells] using h
theorem qnp (w:World) (n:Nat):(w.alloc (.cells (madeCells #[.slice none 0 0] n) 144)).rowIs w.heap.size 144 n (fun _=>.slice none 0 0):=by
 refine ⟨_,blk_alloc_new _ _,size_madeCells _ _,fun i hi=>?_⟩;simp only [madeCells];rw [Array.getElem?_map,Array.getElem?_range,if_pos hi];have:i % 1=0:=Nat.mod_one i;exact congrArg some (by simp [this])
structure qh1 (w:World) (D k:Nat) (f:Nat->Value) (ls:Nat->Nat) (bs:Nat->Nat) (h:Nat->Nat->I5):Prop where
 cel:∀ i,i<k->f i=.slice (some ⟨bs i,0,none⟩) (ls i) (ls i)
 bd:∀ i,i<k->D<bs i/\bs i<w.heap.size
 row:∀ i,i<k->qan w (bs i) 0 (ls i) (h i)
 fr:∀ i,i<k->∀ j,w.frozen? ⟨bs i,j,none⟩=false
 up:∀ i j,i<j->j<k->bs i<bs j
theorem qh1.step {w w1:World} {D k:Nat} {f:Nat->Value} {ls:Nat->Nat} {bs:Nat->Nat} {h:Nat->Nat->I5} (o:qh1 w D k f ls bs h) (hb:Below w.heap.size w w1) (hD:D<w.heap.size) (hz:w.heap.size<w1.heap.size) (hr:qan w1 w.heap.size 0 (ls k) (h k)) (hf:∀ j,w1.frozen? ⟨w.heap.size,j,none⟩=false) (u:Value):
  qh1 (w1.setCell ⟨D,k,none⟩ u) D (k+1) (fun i=>if i=k then .slice (some ⟨w.heap.size,0,none⟩) (ls k) (ls k) else f i) ls (fun i=>if i=k then w.heap.size else bs i) h:=by
 have hs:∀ b,b≠D->(w1.setCell ⟨D,k,none⟩ u).heap[b]? = w1.heap[b]?:=fun b hne=>zN _ _ _ _ hne
 have hat:∀ b n g,b≠D->qan w1 b 0 n g->qan (w1.setCell ⟨D,k,none⟩ u) b 0 n g:=fun b n g hne hg=>fun i hi=>by
  have hc:∀ j,(w1.setCell ⟨D,k,none⟩ u).cell? ⟨b,j,none⟩=w1.cell? ⟨b,j,none⟩:=fun j=>zH (hs b hne);have:=hg i hi;simp only [hc];exact this
 refine ⟨fun i hi=>?_,fun i hi=>?_,fun i hi=>?_,fun i hi j=>?_,fun i j hij hj=>?_⟩
 ·by_cases e:i=k
  ·subst e;simp
  ·simp only [if_neg e];exact o.cel i (by omega)
 ·by_cases e:i=k
  ·subst e;simp;omega
  ·simp only [if_neg e,World.size_setCell];have:=o.bd i (by omega);omega
 ·by_cases e:i=k
  ·subst e;simp only [if_true];exact hat _ _ _ (by omega) hr
  ·simp only [if_neg e];have hbd:=o.bd i (by omega);exact hat _ _ _ (by omega) ((o.row i (by omega)).below hb hbd.2)
 ·by_cases e:i=k
  ·subst e;simp only [if_true];rw [World.frozen?_setCell];exact hf j
  ·simp only [if_neg e];rw [World.frozen?_setCell];have hbd:=o.bd i (by omega);exact (hb.frozen (p:=⟨bs i,j,none⟩) hbd.2).trans (o.fr i (by omega) j)
 ·by_cases e:j=k
  ·have hi:i≠k:=by omega
   simp only [if_neg hi,if_pos e];exact (o.bd i (by omega)).2
  ·have hi:i≠k:=by omega
   simp only [if_neg hi,if_neg e];exact o.up i j hij (by omega)
structure qq4 (W:World) (a0:Option Addr) (n:Nat) (aa:Nat->Option Addr) (ls cs:Nat->Nat) (h:Nat->Nat->I5):Prop where
 row:RowS W a0 n fun i=>.slice (aa i) (ls i) (cs i)
 cop:∀ i,i<n->qj9 W (aa i) (ls i) (cs i) (h i)
theorem qqx (a0:Option Addr) (n cap:Nat) (aa:Nat->Option Addr) (ls cs:Nat->Nat) (h:Nat->Nat->I5) (W w:World) (hn:n<=1048576) (hA:qq4 W a0 n aa ls cs h) (hW:Below W.heap.size W w):
  Calls Tryz.prog 57 #[.slice a0 n cap] w fun e w'=>e=.returned (.slice (some ⟨w.heap.size,0,none⟩) n n)/\(∃ bs,qbk w' w.heap.size w'.heap.size n ls bs h)/\Below w.heap.size w w':=by
 have hl':(n:Int)<=1048576:=by omega
 have hmk:=qls n hn;have HA:Hid (qq4 W a0 n aa ls cs h):=hA;have HW:Hid (Below W.heap.size W w):=hW;clear hA hW
 go_enter Tryz.func57,Tryz.ntmps57
 go_wp2_with fail
 clear hmk
 go_loopw [4] (fun i wr=>∃ k:Nat,k<=n/\i=.int .i64 k/\(∃ f,wr.rowIs w.heap.size 144 n f/\Hid (∃ bs,qh1 wr w.heap.size k f ls bs h))/\Below w.heap.size w wr) (fun i _=>n - (intOf i).toNat)
 case atStart=>exact ⟨0,Nat.zero_le _,rfl,⟨_,qnp w n,fun _=>0,fun i hi=>by omega,fun i hi=>by omega,fun i hi=>by omega,fun i hi=>by omega,fun i j hij hj=>by omega⟩,(Below.refl _ _).alloc (Nat.le_refl _) _⟩
 case round=>
  obtain ⟨k,hk,rfl,⟨f,hrow,HF⟩,hbw⟩:=hrel;have hs:=hrow.lt;by_cases hlt:k<n
  ·have hlt':(k:Int)<(n:Int):=by omega
   have HB:Hid (Below W.heap.size W wr):=HW.out.trans (hbw.mono HW.out.size);obtain ⟨b,off,rfl,ck⟩:=(HA.out.row.below HB.out).at hlt;have HR:Hid (wr.rowIs w.heap.size 144 n f):=hrow;clear hrow;go_wp2_with fail
   refine (HA.out.cop k hlt wr HB.out).mono ?_;rintro e w1 ⟨rfl,hi1,hz1,hb1,hf1⟩;have hr1:w1.rowIs w.heap.size 144 n f:=HR.out.of_block (hb1.block _ hs);have f0:=hr1.frozen k;have g0:=hr1.cell (i:=k) hlt;have HR1:Hid (w1.rowIs w.heap.size 144 n f):=hr1
   have HF1:Hid (∃ bs,qh1 (w1.setCell ⟨w.heap.size,k,none⟩ (.slice (some ⟨wr.heap.size,0,none⟩) (ls k) (ls k))) w.heap.size (k+1) (fun i=>if i=k then .slice (some ⟨wr.heap.size,0,none⟩) (ls k) (ls k) else f i) ls bs h):=by
    obtain ⟨bs,o⟩:=HF.out;exact ⟨_,o.step hb1 hs hz1 hi1 hf1 _⟩
   clear hr1 hi1 HF HR hf1;go_wp2_with fail
   exact ⟨⟨k+1,by omega,by go_num,⟨_,HR1.out.set _ _,HF1.out⟩,(hbw.trans (hb1.mono (Nat.le_of_lt hs))).setCell (Nat.le_refl _) _⟩,by simp [intOf];omega⟩
  ·have hkl:k=n:=by omega
   have HO:Hid (∃ bs,qbk wr w.heap.size wr.heap.size n ls bs h):=by
    obtain ⟨bs,o⟩:=HF.out;rw [hkl] at o;exact ⟨bs,fun i hi=>by rw [hrow.cell hi,o.cel i hi],o.bd,o.row,o.fr,o.up,Nat.le_refl _,hs⟩
   clear hkl HF hrow;go_wp2;go_ret;exact ⟨rfl,HO.out,hbw⟩
theorem qm4 (D1 h1 D2 h2 n c1 c2:Nat) (ls b1 b2:Nat->Nat) (h:Nat->Nat->I5) (w:World) (hn:n<=1048576) (hl:∀ i,i<n->ls i<=1048576) (o1:qbk w D1 h1 n ls b1 h) (o2:qbk w D2 h2 n ls b2 h):
  Calls Tryz.prog 80 #[.slice (some ⟨D1,0,none⟩) n c1,.slice (some ⟨D2,0,none⟩) n c2] w fun e w'=>e=.returned (.bool true)/\Below w.heap.size w w':=by
 have hl':(n:Int)<=1048576:=by omega
 have O1:Hid (qbk w D1 h1 n ls b1 h):=o1;have O2:Hid (qbk w D2 h2 n ls b2 h):=o2;have HL:Hid (∀ i,i<n->ls i<=1048576):=hl;clear o1 o2 hl
 go_enter Tryz.func80,Tryz.ntmps80
 go_wp2_with fail
 go_loopw [5] (fun i wr=>∃ k:Nat,k<=n/\i=.int .i64 k/\Below w.heap.size w wr) (fun i _=>n - (intOf i).toNat)
 case atStart=>exact ⟨0,Nat.zero_le _,rfl,Below.refl _ _⟩
 case round=>
  obtain ⟨k,hk,rfl,hbw⟩:=hrel;have hs:=hbw.size;by_cases hlt:k<n
  ·have P1:Hid (qbk wr D1 h1 n ls b1 h):=O1.out.below hbw O1.out.le
   have P2:Hid (qbk wr D2 h2 n ls b2 h):=O2.out.below hbw O2.out.le;have ck:=P1.out.cel k hlt;have dk:=P2.out.cel k hlt;have hlt':(k:Int)<(n:Int):=by omega
   go_wp2_with fail
   first|(go_region_with (go_at_call 147;refine (qig (b1 k) (b2 k) (ls k) (ls k) (ls k) (h k) wr.drew (HL.out k hlt) (zL (P1.out.bd k hlt).2 P1.out.le) (zL (P2.out.bd k hlt).2 P2.out.le) (P1.out.row k hlt) (P2.out.row k hlt)).mono ?_;rintro e w1 ⟨rfl,hq1⟩)) | fail
   all_goals
    go_wp2;go_roundw
    case rel=>exact ⟨k+1,by omega,by go_num,hbw.drew.trans (hq1.mono hs)⟩
    case measure=>simp [intOf];omega
  ·go_wp2
   go_ret;exact ⟨rfl,hbw⟩
theorem qlg (D hi n cap:Nat) (ls bs:Nat->Nat) (h:Nat->Nat->I5) (k:Int) (w:World) (hn:n<=1048576) (hl:sumL ls n<=1048576) (k0:0<=k) (k1:k<=50000000) (o:qbk w D hi n ls bs h):
  Calls Tryz.prog 87 #[.slice (some ⟨D,0,none⟩) n cap,.int .i64 k] w fun e w'=>e=.returned (.int .i64 (k+5*(sumL ls n:Nat)))/\qaa (fun b=>D<b/\b<hi) w w':=by
 have hl':(n:Int)<=1048576:=by omega
 have O:Hid (qbk w D hi n ls bs h):=o;have HL:Hid (sumL ls n<=1048576):=hl;clear o hl
 go_enter Tryz.func87,Tryz.ntmps87
 go_wp2_with fail
 go_loopw [1,5] (fun q i wr=>∃ j:Nat,j<=n/\i=.int .i64 j/\q=.int .i64 (k+5*(sumL ls j:Nat))/\Hid (qaa (fun b=>∃ t,t<j/\b=bs t) w wr)) (fun _ i _=>n - (intOf i).toNat)
 case atStart=>exact ⟨0,Nat.zero_le _,rfl,by simp [sumL],qaa.refl _ _⟩
 case round=>
  obtain ⟨j,hj,rfl,rfl,HT⟩:=hrel;by_cases hlt:j<n
  ·have hlt':(j:Int)<(n:Int):=by omega
   have dD:¬ ∃ t,t<j/\D=bs t:=by
    rintro ⟨t,ht,e⟩;have:=(O.out.bd t (by omega)).1;omega
   have dJ:¬ ∃ t,t<j/\bs j=bs t:=by
    rintro ⟨t,ht,e⟩;have:=O.out.up t j ht hlt;omega
   have bJ:=O.out.bd j hlt;have le:=O.out.le;have ck:wr.cell? ⟨D,j,none⟩=some (.slice (some ⟨bs j,0,none⟩) (ls j) (ls j)):=(HT.out.cell (zL O.out.lt le) dD j).trans (O.out.cel j hlt)
   have RM:Hid (Room wr (bs j) (ls j)):=by
    have hb:wr.heap[bs j]? = w.heap[bs j]?:=HT.out.block (bs j) (by omega) dJ;have hrm:Room w (bs j) (ls j):=Room.of_ins (O.out.row j hlt) (O.out.fr j hlt);exact ⟨fun i hi=>(hrm.1 i hi).elim fun u e=>⟨u,(zH hb).trans e⟩,fun i=>(zI hb).trans (hrm.2 i)⟩
   have hsl:=qbc ls hlt;have hS:=HL.out;have e1:k+5*(sumL ls j:Nat)+5*(ls j:Int)=k+5*(sumL ls (j+1):Nat):=by simp only [sumL];omega
   have HE:Hid (k+5*(sumL ls j:Nat)+5*(ls j:Int)=k+5*(sumL ls (j+1):Nat)):=e1;have e2:0<=k+5*(sumL ls j:Nat):=by omega
   have e3:k+5*(sumL ls j:Nat)<=100000000:=by omega
   have e4:ls j<=1048576:=by omega
   clear dD bJ le e1 hS hsl;go_wp2_with fail
   refine (qnt (bs j) (ls j) (ls j) _ wr e4 e2 e3 RM.out).mono ?_;rintro e w1 ⟨rfl,g1⟩;rw [HE.out];have HT1:Hid (qaa (fun b=>∃ t,t<j+1/\b=bs t) w w1):=(HT.out.mono fun b ⟨t,ht,e⟩=>⟨t,by omega,e⟩).trans (qaa.of_grown g1 fun b e=>⟨j,by omega,by simpa using e.symm⟩);clear HT dJ RM e2 e3 e4 g1;go_wp2;go_roundw
   case rel=>exact ⟨j+1,by omega,by go_num,rfl,HT1.out⟩
   case measure=>simp [intOf];omega
  ·have hkl:j=n:=by omega
   subst hkl
   have HT1:Hid (qaa (fun b=>D<b/\b<hi) w wr):=HT.out.mono fun b ⟨t,ht,e⟩=>by
    subst e;exact O.out.bd t ht
   clear HT;go_wp2;go_ret;exact ⟨rfl,HT1.out⟩
theorem qti {H:Type} {enc:TypeId × Value->H} {w:World} {spare:Nat->Bool} {held:Bool} {base:Nat} {a0:Option Addr} {len cap:Nat} {d:DataW H} {p:List MemPlace}
  (h:DataW.Trod enc Tryz.prog w base spare held 22 (.slice a0 len cap) d p):
  len<=maxLen/\∃ aa ls cs,RowS w a0 len (fun i=>.slice (aa i) (ls i) (cs i))/\(∀ i,i<len->ls i<=maxLen)/\((∀ i,i<len->ls i<=1048576)->∃ hh,qq4 w a0 len aa ls cs hh):=by
 obtain ⟨hm,f,hrow,hf⟩:=qdg Tryz.underlying22 (el:=157) (by kernel_rfl) h;refine ⟨hm,?_⟩
 have hpart:∀ i,i<len->∃ x:Option Addr × Nat × Nat,f i=.slice x.1 x.2.1 x.2.2/\x.2.1<=maxLen/\(x.2.1<=1048576->∃ g,qj9 w x.1 x.2.1 x.2.2 g):=by
  intro i hi;obtain ⟨m,x,hx⟩:=hf i hi
  have hsl:∃ a l c,f i=.slice a l c:=by
   rcases Go.Deep.open_slice Tryz.underlying157 hx with ⟨hcs,_⟩ | ⟨a,len',cap',m,n,D,Pl,hcs,_⟩
   ·simp at hcs
    exact ⟨_,_,_,hcs⟩
   ·simp at hcs
    exact ⟨_,_,_,hcs⟩
  obtain ⟨a,l,c,e⟩:=hsl;rw [e] at hx;obtain ⟨h1,h2⟩:=qqh (d:=x.1) (p:=x.2) (a0:=a) (len:=l) (cap:=c) ⟨m,by simpa [Value.cells] using hx⟩;exact ⟨(a,l,c),e,h1,fun hs=>qsl hs h2⟩
 obtain ⟨g,hg⟩:=Go.Deep.choose_lt (α:=Option Addr × Nat × Nat) hpart;refine ⟨fun i=>(g i).1,fun i=>(g i).2.1,fun i=>(g i).2.2,?_,fun i hi=>(hg i hi).2.1,fun hs=>?_⟩
 ·rcases hrow with h0 | ⟨b,off,e,hlt,hc⟩
  ·exact .inl h0
  ·exact .inr ⟨b,off,e,hlt,fun i hi=>(hc i hi).trans (by rw [(hg i hi).1])⟩
 ·have hq:∀ i,i<len->∃ q:Nat->I5,qj9 w (g i).1 (g i).2.1 (g i).2.2 q:=fun i hi=>(hg i hi).2.2 (hs i hi)
  have inh:Inhabited (Nat->I5):=⟨fun _=>⟨0,0,0,0,0⟩⟩
  obtain ⟨hh,hhh⟩:=Go.Deep.choose_lt (α:=Nat->I5) hq;refine ⟨hh,?_,hhh⟩
  rcases hrow with h0 | ⟨b,off,e,hlt,hc⟩
  ·exact .inl h0
  ·exact .inr ⟨b,off,e,hlt,fun i hi=>(hc i hi).trans (by rw [(hg i hi).1])⟩
structure qa3 (w:World) (D hi n:Nat) (ls:Nat->Nat) (bs:Nat->Nat) (h:Nat->Nat->I2):Prop where
 cel:∀ i,i<n->w.cell? ⟨D,i,none⟩=some (.slice (some ⟨bs i,0,none⟩) (ls i) (ls i))
 bd:∀ i,i<n->D<bs i/\bs i<hi
 row:∀ i,i<n->ItAt w (bs i) 0 (ls i) (h i)
 fr:∀ i,i<n->∀ j,w.frozen? ⟨bs i,j,none⟩=false
 up:∀ i j,i<j->j<n->bs i<bs j
 le:hi<=w.heap.size
 lt:D<hi
theorem qa3.below {w w':World} {D hi n B:Nat} {ls:Nat->Nat} {bs:Nat->Nat} {h:Nat->Nat->I2} (o:qa3 w D hi n ls bs h) (hb:Below B w w') (hB:hi<=B):qa3 w' D hi n ls bs h:=
 ⟨fun i hi'=>(hb.cell (p:=⟨D,i,none⟩) (zL o.lt hB)).trans (o.cel i hi'),o.bd,fun i hi'=>(o.row i hi').below hb (zL (o.bd i hi').2 hB),fun i hi' j=>(hb.frozen (p:=⟨bs i,j,none⟩) (zL (o.bd i hi').2 hB)).trans (o.fr i hi' j),o.up,zO o.le hb.size,o.lt⟩
theorem qa3.keep {w w':World} {D hi n:Nat} {ls:Nat->Nat} {bs:Nat->Nat} {h:Nat->Nat->I2} (o:qa3 w D hi n ls bs h) (hs:w.heap.size<=w'.heap.size) (hb:∀ k,D<=k->k<hi->w'.heap[k]? = w.heap[k]?):qa3 w' D hi n ls bs h:=by
 refine ⟨fun i hi'=>(zH (hb D (Nat.le_refl _) o.lt)).trans (o.cel i hi'),o.bd,fun i hi'=>?_,fun i hi' j=>(zI (hb _ (Nat.le_of_lt (o.bd i hi').1) (o.bd i hi').2)).trans (o.fr i hi' j),o.up,zO o.le hs,o.lt⟩;have hc:∀ j,w'.cell? ⟨bs i,j,none⟩=w.cell? ⟨bs i,j,none⟩:=fun j=>zH (hb _ (Nat.le_of_lt (o.bd i hi').1) (o.bd i hi').2);intro t ht;have:=o.row i hi' t ht;simp only [hc];exact this
theorem qet (a0:Option Addr) (n cap:Nat) (aa:Nat->Option Addr) (ls cs:Nat->Nat) (L:Int) (w:World) (hr:RowS w a0 n fun i=>.slice (aa i) (ls i) (cs i)) (h:(n:Int)+(sumL ls n:Nat)<=L) (hL:L<=1048576):
  Calls Tryz.prog 50 #[.slice a0 n cap,.int .i64 L] w fun e w'=>e=.returned (.int .i64 (L - n - (sumL ls n:Nat)))/\w'=w:=by
 have hn:(n:Int)<=1048576:=by omega
 have h0:0<=L:=by omega
 have hn0:¬ (L - (n:Int)<0):=by omega
 have HR:Hid (RowS w a0 n fun i=>.slice (aa i) (ls i) (cs i)):=hr;have HS:Hid ((n:Int)+(sumL ls n:Nat)<=L):=h;clear hr h
 go_enter Tryz.func50,Tryz.ntmps50
 go_wp2_with fail
 go_loopw [1,5] (fun q i wr=>∃ k:Nat,k<=n/\i=.int .i64 k/\q=.int .i64 (L - n - (sumL ls k:Nat))/\wr=w) (fun _ i _=>n - (intOf i).toNat)
 case atStart=>exact ⟨0,Nat.zero_le _,rfl,by simp [sumL],rfl⟩
 case round=>
  obtain ⟨k,hk,rfl,rfl,rfl⟩:=hrel;by_cases hlt:k<n
  ·have hlt':(k:Int)<(n:Int):=by omega
   obtain ⟨b,off,rfl,ck⟩:=HR.out.at hlt;have hsl:=qbc ls hlt;have hS:=HS.out;have e1:(L - n - (sumL ls k:Nat)) - (ls k:Int)=L - n - (sumL ls (k+1):Nat):=by simp only [sumL];omega
   have HE:Hid ((L - n - (sumL ls k:Nat)) - (ls k:Int)=L - n - (sumL ls (k+1):Nat)):=e1;have e2:(ls k:Int)<=L - n - (sumL ls k:Nat):=by omega
   have e3:¬ (L - n - (sumL ls (k+1):Nat)<0):=by omega
   have e4:L - n - (sumL ls k:Nat)<=1048576:=by omega
   clear e1 hS hsl;generalize hy:L - n - (sumL ls (k+1):Nat)=Y at *;go_wp2_with fail
   refine (qf3 _ _ _ _ _ e2 e4).mono ?_;rintro e w1 ⟨rfl,rfl⟩;rw [HE.out];clear e2 e4;go_wp2;go_roundw
   case rel=>exact ⟨k+1,by omega,by go_num,by rw [<- hy],by trivial⟩
   case measure=>simp [intOf];omega
  ·have hkl:k=n:=by omega
   subst hkl;go_wp2;go_ret;exact ⟨rfl,rfl⟩
theorem qjw (a0:Option Addr) (n cap:Nat) (aa:Nat->Option Addr) (ls cs:Nat->Nat) (L:Int) (w:World) (hr:RowS w a0 n fun i=>.slice (aa i) (ls i) (cs i)) (h:L<(n:Int)+(sumL ls n:Nat)) (h0:0<=L) (hL:L<=1048576) (hm:n<=maxLen) (hl:∀ i,i<n->ls i<=maxLen):
  Calls Tryz.prog 50 #[.slice a0 n cap,.int .i64 L] w fun e w'=>e=.returned (.int .i64 (-1))/\w'=w:=by
 have hm':(n:Int)<=9223372036854775807:=by unfold maxLen at hm;omega
 by_cases hn0:L - (n:Int)<0
 ·go_enter Tryz.func50,Tryz.ntmps50
  go_wp2;go_ret;exact ⟨rfl,rfl⟩
 have hn:(n:Int)<=1048576:=by omega
 have HR:Hid (RowS w a0 n fun i=>.slice (aa i) (ls i) (cs i)):=hr;have HS:Hid (L<(n:Int)+(sumL ls n:Nat)):=h;have HL:Hid (∀ i,i<n->ls i<=maxLen):=hl;clear hr h hl hm
 go_enter Tryz.func50,Tryz.ntmps50
 go_wp2_with fail
 go_loopw [1,5] (fun q i wr=>∃ k:Nat,k<=n/\i=.int .i64 k/\q=.int .i64 (L - n - (sumL ls k:Nat))/\0<=L - n - (sumL ls k:Nat)/\wr=w) (fun _ i _=>n - (intOf i).toNat)
 case atStart=>exact ⟨0,Nat.zero_le _,rfl,by simp [sumL],by simp only [sumL];omega,rfl⟩
 case round=>
  obtain ⟨k,hk,rfl,rfl,hp,rfl⟩:=hrel;by_cases hlt:k<n
  ·have hlt':(k:Int)<(n:Int):=by omega
   obtain ⟨b,off,rfl,ck⟩:=HR.out.at hlt;have hml:=HL.out k hlt;have e1:(L - n - (sumL ls k:Nat)) - (ls k:Int)=L - n - (sumL ls (k+1):Nat):=by simp only [sumL];omega
   have HE:Hid ((L - n - (sumL ls k:Nat)) - (ls k:Int)=L - n - (sumL ls (k+1):Nat)):=e1;have e4:L - n - (sumL ls k:Nat)<=1048576:=by omega
   clear e1;by_cases hb:(ls k:Int)<=L - n - (sumL ls k:Nat)
   ·have e3:0<=L - n - (sumL ls (k+1):Nat):=by have:=HE.out;omega
    have e3':¬ (L - n - (sumL ls (k+1):Nat)<0):=by omega
    generalize hy:L - n - (sumL ls (k+1):Nat)=Y at *;go_wp2_with fail
    refine (qf3 _ _ _ _ _ hb e4).mono ?_;rintro e w1 ⟨rfl,rfl⟩;rw [HE.out];clear hb e4 hml hp;go_wp2;go_roundw
    case rel=>exact ⟨k+1,by omega,by go_num,by rw [<- hy],by omega,by trivial⟩
    case measure=>simp [intOf];omega
   ·have hb':L - n - (sumL ls k:Nat)<(ls k:Int):=by omega
    go_wp2_with fail
    refine (ql5 _ _ _ _ _ hb' hp e4 hml).mono ?_;rintro e w1 ⟨rfl,rfl⟩;clear hb hb' e4 hml hp HE;go_wp2;go_ret;exact ⟨rfl,rfl⟩
  ·have hkl:k=n:=by omega
   subst hkl;have:=HS.out;omega
theorem qus:(Tryz.prog.info? 72).map (fun i=>(i.zero,i.size,i.bytes))=some (some (.slice none 0 0),1,24):=by kernel_rfl
theorem qjr (n:Nat) (hn:n<=1048576) (w:World):
  (Instr.makeSlice 38 (.int .i64 (n:Int)) (.int .i64 (n:Int))).run Tryz.prog w=.ok (.slice (some ⟨w.heap.size,0,none⟩) n n) (w.alloc (.cells (madeCells #[.slice none 0 0] n) 72)):=by
 have hinfo:=qus;cases hi:Tryz.prog.info? 72 with
 | none=>rw [hi] at hinfo;cases hinfo
 | some i=>
  rw [hi] at hinfo;simp only [Option.map_some,Option.some.injEq,Prod.mk.injEq] at hinfo;obtain ⟨hz,hs,hb⟩:=hinfo;have h:=run_make (P:=Tryz.prog) w 38 72 i _ Tryz.underlying38 hi hz .i64 .i64 (n:Int) (n:Int) (by omega) (Int.le_refl _) (by rw [hb];omega) (by omega);rw [hs] at h;simpa [Value.cells] using h
theorem qld (w:World) (n:Nat):(w.alloc (.cells (madeCells #[.slice none 0 0] n) 72)).rowIs w.heap.size 72 n (fun _=>.slice none 0 0):=by
 refine ⟨_,blk_alloc_new _ _,size_madeCells _ _,fun i hi=>?_⟩;simp only [madeCells];rw [Array.getElem?_map,Array.getElem?_range,if_pos hi];have:i % 1=0:=Nat.mod_one i;exact congrArg some (by simp [this])
structure qe8 (w:World) (D k:Nat) (f:Nat->Value) (ls:Nat->Nat) (bs:Nat->Nat) (h:Nat->Nat->I2):Prop where
 cel:∀ i,i<k->f i=.slice (some ⟨bs i,0,none⟩) (ls i) (ls i)
 bd:∀ i,i<k->D<bs i/\bs i<w.heap.size
 row:∀ i,i<k->ItAt w (bs i) 0 (ls i) (h i)
 fr:∀ i,i<k->∀ j,w.frozen? ⟨bs i,j,none⟩=false
 up:∀ i j,i<j->j<k->bs i<bs j
theorem qe8.step {w w1:World} {D k:Nat} {f:Nat->Value} {ls:Nat->Nat} {bs:Nat->Nat} {h:Nat->Nat->I2} (o:qe8 w D k f ls bs h) (hb:Below w.heap.size w w1) (hD:D<w.heap.size) (hz:w.heap.size<w1.heap.size) (hr:ItAt w1 w.heap.size 0 (ls k) (h k)) (hf:∀ j,w1.frozen? ⟨w.heap.size,j,none⟩=false) (u:Value):
  qe8 (w1.setCell ⟨D,k,none⟩ u) D (k+1) (fun i=>if i=k then .slice (some ⟨w.heap.size,0,none⟩) (ls k) (ls k) else f i) ls (fun i=>if i=k then w.heap.size else bs i) h:=by
 have hs:∀ b,b≠D->(w1.setCell ⟨D,k,none⟩ u).heap[b]? = w1.heap[b]?:=fun b hne=>zN _ _ _ _ hne
 have hat:∀ b n g,b≠D->ItAt w1 b 0 n g->ItAt (w1.setCell ⟨D,k,none⟩ u) b 0 n g:=fun b n g hne hg=>fun i hi=>by
  have hc:∀ j,(w1.setCell ⟨D,k,none⟩ u).cell? ⟨b,j,none⟩=w1.cell? ⟨b,j,none⟩:=fun j=>zH (hs b hne);have:=hg i hi;simp only [hc];exact this
 refine ⟨fun i hi=>?_,fun i hi=>?_,fun i hi=>?_,fun i hi j=>?_,fun i j hij hj=>?_⟩
 ·by_cases e:i=k
  ·subst e;simp
  ·simp only [if_neg e];exact o.cel i (by omega)
 ·by_cases e:i=k
  ·subst e;simp;omega
  ·simp only [if_neg e,World.size_setCell];have:=o.bd i (by omega);omega
 ·by_cases e:i=k
  ·subst e;simp only [if_true];exact hat _ _ _ (by omega) hr
  ·simp only [if_neg e];have hbd:=o.bd i (by omega);exact hat _ _ _ (by omega) ((o.row i (by omega)).below hb hbd.2)
 ·by_cases e:i=k
  ·subst e;simp only [if_true];rw [World.frozen?_setCell];exact hf j
  ·simp only [if_neg e];rw [World.frozen?_setCell];have hbd:=o.bd i (by omega);exact (hb.frozen (p:=⟨bs i,j,none⟩) hbd.2).trans (o.fr i (by omega) j)
 ·by_cases e:j=k
  ·have hi:i≠k:=by omega
   simp only [if_neg hi,if_pos e];exact (o.bd i (by omega)).2
  ·have hi:i≠k:=by omega
   simp only [if_neg hi,if_neg e];exact o.up i j hij (by omega)
structure qj7 (W:World) (a0:Option Addr) (n:Nat) (aa:Nat->Option Addr) (ls cs:Nat->Nat) (h:Nat->Nat->I2):Prop where
 row:RowS W a0 n fun i=>.slice (aa i) (ls i) (cs i)
 cop:∀ i,i<n->qka W (aa i) (ls i) (cs i) (h i)
theorem qou (a0:Option Addr) (n cap:Nat) (aa:Nat->Option Addr) (ls cs:Nat->Nat) (h:Nat->Nat->I2) (W w:World) (hn:n<=1048576) (hA:qj7 W a0 n aa ls cs h) (hW:Below W.heap.size W w):
  Calls Tryz.prog 59 #[.slice a0 n cap] w fun e w'=>e=.returned (.slice (some ⟨w.heap.size,0,none⟩) n n)/\(∃ bs,qa3 w' w.heap.size w'.heap.size n ls bs h)/\Below w.heap.size w w':=by
 have hl':(n:Int)<=1048576:=by omega
 have hmk:=qjr n hn;have HA:Hid (qj7 W a0 n aa ls cs h):=hA;have HW:Hid (Below W.heap.size W w):=hW;clear hA hW
 go_enter Tryz.func59,Tryz.ntmps59
 go_wp2_with fail
 clear hmk
 go_loopw [4] (fun i wr=>∃ k:Nat,k<=n/\i=.int .i64 k/\(∃ f,wr.rowIs w.heap.size 72 n f/\Hid (∃ bs,qe8 wr w.heap.size k f ls bs h))/\Below w.heap.size w wr) (fun i _=>n - (intOf i).toNat)
 case atStart=>exact ⟨0,Nat.zero_le _,rfl,⟨_,qld w n,fun _=>0,fun i hi=>by omega,fun i hi=>by omega,fun i hi=>by omega,fun i hi=>by omega,fun i j hij hj=>by omega⟩,(Below.refl _ _).alloc (Nat.le_refl _) _⟩
 case round=>
  obtain ⟨k,hk,rfl,⟨f,hrow,HF⟩,hbw⟩:=hrel;have hs:=hrow.lt;by_cases hlt:k<n
  ·have hlt':(k:Int)<(n:Int):=by omega
   have HB:Hid (Below W.heap.size W wr):=HW.out.trans (hbw.mono HW.out.size);obtain ⟨b,off,rfl,ck⟩:=(HA.out.row.below HB.out).at hlt;have HR:Hid (wr.rowIs w.heap.size 72 n f):=hrow;clear hrow;go_wp2_with fail
   refine (HA.out.cop k hlt wr HB.out).mono ?_;rintro e w1 ⟨rfl,hi1,hz1,hb1,hf1⟩;have hr1:w1.rowIs w.heap.size 72 n f:=HR.out.of_block (hb1.block _ hs);have f0:=hr1.frozen k;have g0:=hr1.cell (i:=k) hlt;have HR1:Hid (w1.rowIs w.heap.size 72 n f):=hr1
   have HF1:Hid (∃ bs,qe8 (w1.setCell ⟨w.heap.size,k,none⟩ (.slice (some ⟨wr.heap.size,0,none⟩) (ls k) (ls k))) w.heap.size (k+1) (fun i=>if i=k then .slice (some ⟨wr.heap.size,0,none⟩) (ls k) (ls k) else f i) ls bs h):=by
    obtain ⟨bs,o⟩:=HF.out;exact ⟨_,o.step hb1 hs hz1 hi1 hf1 _⟩
   clear hr1 hi1 HF HR hf1;go_wp2_with fail
   exact ⟨⟨k+1,by omega,by go_num,⟨_,HR1.out.set _ _,HF1.out⟩,(hbw.trans (hb1.mono (Nat.le_of_lt hs))).setCell (Nat.le_refl _) _⟩,by simp [intOf];omega⟩
  ·have hkl:k=n:=by omega
   have HO:Hid (∃ bs,qa3 wr w.heap.size wr.heap.size n ls bs h):=by
    obtain ⟨bs,o⟩:=HF.out;rw [hkl] at o;exact ⟨bs,fun i hi=>by rw [hrow.cell hi,o.cel i hi],o.bd,o.row,o.fr,o.up,Nat.le_refl _,hs⟩
   clear hkl HF hrow;go_wp2;go_ret;exact ⟨rfl,HO.out,hbw⟩
theorem qks (D1 h1 D2 h2 n c1 c2:Nat) (ls b1 b2:Nat->Nat) (h:Nat->Nat->I2) (w:World) (hn:n<=1048576) (hl:∀ i,i<n->ls i<=1048576) (o1:qa3 w D1 h1 n ls b1 h) (o2:qa3 w D2 h2 n ls b2 h):
  Calls Tryz.prog 82 #[.slice (some ⟨D1,0,none⟩) n c1,.slice (some ⟨D2,0,none⟩) n c2] w fun e w'=>e=.returned (.bool true)/\Below w.heap.size w w':=by
 have hl':(n:Int)<=1048576:=by omega
 have O1:Hid (qa3 w D1 h1 n ls b1 h):=o1;have O2:Hid (qa3 w D2 h2 n ls b2 h):=o2;have HL:Hid (∀ i,i<n->ls i<=1048576):=hl;clear o1 o2 hl
 go_enter Tryz.func82,Tryz.ntmps82
 go_wp2_with fail
 go_loopw [5] (fun i wr=>∃ k:Nat,k<=n/\i=.int .i64 k/\Below w.heap.size w wr) (fun i _=>n - (intOf i).toNat)
 case atStart=>exact ⟨0,Nat.zero_le _,rfl,Below.refl _ _⟩
 case round=>
  obtain ⟨k,hk,rfl,hbw⟩:=hrel;have hs:=hbw.size;by_cases hlt:k<n
  ·have P1:Hid (qa3 wr D1 h1 n ls b1 h):=O1.out.below hbw O1.out.le
   have P2:Hid (qa3 wr D2 h2 n ls b2 h):=O2.out.below hbw O2.out.le;have ck:=P1.out.cel k hlt;have dk:=P2.out.cel k hlt;have hlt':(k:Int)<(n:Int):=by omega
   go_wp2_with fail
   first|(go_region_with (go_at_call 149;refine (qg4 (b1 k) (b2 k) (ls k) (ls k) (ls k) (h k) wr.drew (HL.out k hlt) (zL (P1.out.bd k hlt).2 P1.out.le) (zL (P2.out.bd k hlt).2 P2.out.le) (P1.out.row k hlt) (P2.out.row k hlt)).mono ?_;rintro e w1 ⟨rfl,hq1⟩)) | fail
   all_goals
    go_wp2;go_roundw
    case rel=>exact ⟨k+1,by omega,by go_num,hbw.drew.trans (hq1.mono hs)⟩
    case measure=>simp [intOf];omega
  ·go_wp2
   go_ret;exact ⟨rfl,hbw⟩
theorem qjo (D hi n cap:Nat) (ls bs:Nat->Nat) (h:Nat->Nat->I2) (k:Int) (w:World) (hn:n<=1048576) (hl:sumL ls n<=1048576) (k0:0<=k) (k1:k<=50000000) (o:qa3 w D hi n ls bs h):
  Calls Tryz.prog 89 #[.slice (some ⟨D,0,none⟩) n cap,.int .i64 k] w fun e w'=>e=.returned (.int .i64 (k+2*(sumL ls n:Nat)))/\qaa (fun b=>D<b/\b<hi) w w':=by
 have hl':(n:Int)<=1048576:=by omega
 have O:Hid (qa3 w D hi n ls bs h):=o;have HL:Hid (sumL ls n<=1048576):=hl;clear o hl
 go_enter Tryz.func89,Tryz.ntmps89
 go_wp2_with fail
 go_loopw [1,5] (fun q i wr=>∃ j:Nat,j<=n/\i=.int .i64 j/\q=.int .i64 (k+2*(sumL ls j:Nat))/\Hid (qaa (fun b=>∃ t,t<j/\b=bs t) w wr)) (fun _ i _=>n - (intOf i).toNat)
 case atStart=>exact ⟨0,Nat.zero_le _,rfl,by simp [sumL],qaa.refl _ _⟩
 case round=>
  obtain ⟨j,hj,rfl,rfl,HT⟩:=hrel;by_cases hlt:j<n
  ·have hlt':(j:Int)<(n:Int):=by omega
   have dD:¬ ∃ t,t<j/\D=bs t:=by
    rintro ⟨t,ht,e⟩;have:=(O.out.bd t (by omega)).1;omega
   have dJ:¬ ∃ t,t<j/\bs j=bs t:=by
    rintro ⟨t,ht,e⟩;have:=O.out.up t j ht hlt;omega
   have bJ:=O.out.bd j hlt;have le:=O.out.le;have ck:wr.cell? ⟨D,j,none⟩=some (.slice (some ⟨bs j,0,none⟩) (ls j) (ls j)):=(HT.out.cell (zL O.out.lt le) dD j).trans (O.out.cel j hlt)
   have RM:Hid (qhg wr (bs j) (ls j)):=by
    have hb:wr.heap[bs j]? = w.heap[bs j]?:=HT.out.block (bs j) (by omega) dJ;have hrm:qhg w (bs j) (ls j):=qhg.of_it (O.out.row j hlt) (O.out.fr j hlt);exact ⟨fun i hi=>(hrm.1 i hi).elim fun u e=>⟨u,(zH hb).trans e⟩,fun i=>(zI hb).trans (hrm.2 i)⟩
   have hsl:=qbc ls hlt;have hS:=HL.out;have e1:k+2*(sumL ls j:Nat)+2*(ls j:Int)=k+2*(sumL ls (j+1):Nat):=by simp only [sumL];omega
   have HE:Hid (k+2*(sumL ls j:Nat)+2*(ls j:Int)=k+2*(sumL ls (j+1):Nat)):=e1;have e2:0<=k+2*(sumL ls j:Nat):=by omega
   have e3:k+2*(sumL ls j:Nat)<=100000000:=by omega
   have e4:ls j<=1048576:=by omega
   clear dD bJ le e1 hS hsl;go_wp2_with fail
   refine (qlj (bs j) (ls j) (ls j) _ wr e4 e2 e3 RM.out).mono ?_;rintro e w1 ⟨rfl,g1⟩;rw [HE.out];have HT1:Hid (qaa (fun b=>∃ t,t<j+1/\b=bs t) w w1):=(HT.out.mono fun b ⟨t,ht,e⟩=>⟨t,by omega,e⟩).trans (qaa.of_grown g1 fun b e=>⟨j,by omega,by simpa using e.symm⟩);clear HT dJ RM e2 e3 e4 g1;go_wp2;go_roundw
   case rel=>exact ⟨j+1,by omega,by go_num,rfl,HT1.out⟩
   case measure=>simp [intOf];omega
  ·have hkl:j=n:=by omega
   subst hkl
   have HT1:Hid (qaa (fun b=>D<b/\b<hi) w wr):=HT.out.mono fun b ⟨t,ht,e⟩=>by
    subst e;exact O.out.bd t ht
   clear HT;go_wp2;go_ret;exact ⟨rfl,HT1.out⟩
theorem qqf {H:Type} {enc:TypeId × Value->H} {w:World} {spare:Nat->Bool} {held:Bool} {base:Nat} {a0:Option Addr} {len cap:Nat} {d:DataW H} {p:List MemPlace}
  (h:DataW.Trod enc Tryz.prog w base spare held 24 (.slice a0 len cap) d p):
  len<=maxLen/\∃ aa ls cs,RowS w a0 len (fun i=>.slice (aa i) (ls i) (cs i))/\(∀ i,i<len->ls i<=maxLen)/\((∀ i,i<len->ls i<=1048576)->∃ hh,qj7 w a0 len aa ls cs hh):=by
 obtain ⟨hm,f,hrow,hf⟩:=qdg Tryz.underlying24 (el:=161) (by kernel_rfl) h;refine ⟨hm,?_⟩
 have hpart:∀ i,i<len->∃ x:Option Addr × Nat × Nat,f i=.slice x.1 x.2.1 x.2.2/\x.2.1<=maxLen/\(x.2.1<=1048576->∃ g,qka w x.1 x.2.1 x.2.2 g):=by
  intro i hi;obtain ⟨m,x,hx⟩:=hf i hi
  have hsl:∃ a l c,f i=.slice a l c:=by
   rcases Go.Deep.open_slice Tryz.underlying161 hx with ⟨hcs,_⟩ | ⟨a,len',cap',m,n,D,Pl,hcs,_⟩
   ·simp at hcs
    exact ⟨_,_,_,hcs⟩
   ·simp at hcs
    exact ⟨_,_,_,hcs⟩
  obtain ⟨a,l,c,e⟩:=hsl;rw [e] at hx;obtain ⟨h1,h2⟩:=qtl (d:=x.1) (p:=x.2) (a0:=a) (len:=l) (cap:=c) ⟨m,by simpa [Value.cells] using hx⟩;exact ⟨(a,l,c),e,h1,fun hs=>qsm hs h2⟩
 obtain ⟨g,hg⟩:=Go.Deep.choose_lt (α:=Option Addr × Nat × Nat) hpart;refine ⟨fun i=>(g i).1,fun i=>(g i).2.1,fun i=>(g i).2.2,?_,fun i hi=>(hg i hi).2.1,fun hs=>?_⟩
 ·rcases hrow with h0 | ⟨b,off,e,hlt,hc⟩
  ·exact .inl h0
  ·exact .inr ⟨b,off,e,hlt,fun i hi=>(hc i hi).trans (by rw [(hg i hi).1])⟩
 ·have hq:∀ i,i<len->∃ q:Nat->I2,qka w (g i).1 (g i).2.1 (g i).2.2 q:=fun i hi=>(hg i hi).2.2 (hs i hi)
  have inh:Inhabited (Nat->I2):=⟨fun _=>⟨false,0⟩⟩
  obtain ⟨hh,hhh⟩:=Go.Deep.choose_lt (α:=Nat->I2) hq;refine ⟨hh,?_,hhh⟩
  rcases hrow with h0 | ⟨b,off,e,hlt,hc⟩
  ·exact .inl h0
  ·exact .inr ⟨b,off,e,hlt,fun i hi=>(hc i hi).trans (by rw [(hg i hi).1])⟩
structure qaw (w:World) (D hi n:Nat) (ls:Nat->Nat) (bs:Nat->Nat) (h:Nat->Nat->E3):Prop where
 cel:∀ i,i<n->w.cell? ⟨D,i,none⟩=some (.slice (some ⟨bs i,0,none⟩) (ls i) (ls i))
 bd:∀ i,i<n->D<bs i/\bs i<hi
 row:∀ i,i<n->EvAt w (bs i) 0 (ls i) (h i)
 fr:∀ i,i<n->∀ j,w.frozen? ⟨bs i,j,none⟩=false
 up:∀ i j,i<j->j<n->bs i<bs j
 le:hi<=w.heap.size
 lt:D<hi
theorem qaw.below {w w':World} {D hi n B:Nat} {ls:Nat->Nat} {bs:Nat->Nat} {h:Nat->Nat->E3} (o:qaw w D hi n ls bs h) (hb:Below B w w') (hB:hi<=B):qaw w' D hi n ls bs h:=
 ⟨fun i hi'=>(hb.cell (p:=⟨D,i,none⟩) (zL o.lt hB)).trans (o.cel i hi'),o.bd,fun i hi'=>(o.row i hi').below hb (zL (o.bd i hi').2 hB),fun i hi' j=>(hb.frozen (p:=⟨bs i,j,none⟩) (zL (o.bd i hi').2 hB)).trans (o.fr i hi' j),o.up,zO o.le hb.size,o.lt⟩
theorem qaw.keep {w w':World} {D hi n:Nat} {ls:Nat->Nat} {bs:Nat->Nat} {h:Nat->Nat->E3} (o:qaw w D hi n ls bs h) (hs:w.heap.size<=w'.heap.size) (hb:∀ k,D<=k->k<hi->w'.heap[k]? = w.heap[k]?):qaw w' D hi n ls bs h:=by
 refine ⟨fun i hi'=>(zH (hb D (Nat.le_refl _) o.lt)).trans (o.cel i hi'),o.bd,fun i hi'=>?_,fun i hi' j=>(zI (hb _ (Nat.le_of_lt (o.bd i hi').1) (o.bd i hi').2)).trans (o.fr i hi' j),o.up,zO o.le hs,o.lt⟩;have hc:∀ j,w'.cell? ⟨bs i,j,none⟩=w.cell? ⟨bs i,j,none⟩:=fun j=>zH (hb _ (Nat.le_of_lt (o.bd i hi').1) (o.bd i hi').2);intro t ht;have:=o.row i hi' t ht;simp only [hc];exact this
theorem qi0 (a0:Option Addr) (n cap:Nat) (aa:Nat->Option Addr) (ls cs:Nat->Nat) (L:Int) (w:World) (hr:RowS w a0 n fun i=>.slice (aa i) (ls i) (cs i)) (h:(n:Int)+(sumL ls n:Nat)<=L) (hL:L<=1048576):
  Calls Tryz.prog 51 #[.slice a0 n cap,.int .i64 L] w fun e w'=>e=.returned (.int .i64 (L - n - (sumL ls n:Nat)))/\w'=w:=by
 have hn:(n:Int)<=1048576:=by omega
 have h0:0<=L:=by omega
 have hn0:¬ (L - (n:Int)<0):=by omega
 have HR:Hid (RowS w a0 n fun i=>.slice (aa i) (ls i) (cs i)):=hr;have HS:Hid ((n:Int)+(sumL ls n:Nat)<=L):=h;clear hr h
 go_enter Tryz.func51,Tryz.ntmps51
 go_wp2_with fail
 go_loopw [1,5] (fun q i wr=>∃ k:Nat,k<=n/\i=.int .i64 k/\q=.int .i64 (L - n - (sumL ls k:Nat))/\wr=w) (fun _ i _=>n - (intOf i).toNat)
 case atStart=>exact ⟨0,Nat.zero_le _,rfl,by simp [sumL],rfl⟩
 case round=>
  obtain ⟨k,hk,rfl,rfl,rfl⟩:=hrel;by_cases hlt:k<n
  ·have hlt':(k:Int)<(n:Int):=by omega
   obtain ⟨b,off,rfl,ck⟩:=HR.out.at hlt;have hsl:=qbc ls hlt;have hS:=HS.out;have e1:(L - n - (sumL ls k:Nat)) - (ls k:Int)=L - n - (sumL ls (k+1):Nat):=by simp only [sumL];omega
   have HE:Hid ((L - n - (sumL ls k:Nat)) - (ls k:Int)=L - n - (sumL ls (k+1):Nat)):=e1;have e2:(ls k:Int)<=L - n - (sumL ls k:Nat):=by omega
   have e3:¬ (L - n - (sumL ls (k+1):Nat)<0):=by omega
   have e4:L - n - (sumL ls k:Nat)<=1048576:=by omega
   clear e1 hS hsl;generalize hy:L - n - (sumL ls (k+1):Nat)=Y at *;go_wp2_with fail
   refine (qes _ _ _ _ _ e2 e4).mono ?_;rintro e w1 ⟨rfl,rfl⟩;rw [HE.out];clear e2 e4;go_wp2;go_roundw
   case rel=>exact ⟨k+1,by omega,by go_num,by rw [<- hy],by trivial⟩
   case measure=>simp [intOf];omega
  ·have hkl:k=n:=by omega
   subst hkl;go_wp2;go_ret;exact ⟨rfl,rfl⟩
theorem qiz (a0:Option Addr) (n cap:Nat) (aa:Nat->Option Addr) (ls cs:Nat->Nat) (L:Int) (w:World) (hr:RowS w a0 n fun i=>.slice (aa i) (ls i) (cs i)) (h:L<(n:Int)+(sumL ls n:Nat)) (h0:0<=L) (hL:L<=1048576) (hm:n<=maxLen) (hl:∀ i,i<n->ls i<=maxLen):
  Calls Tryz.prog 51 #[.slice a0 n cap,.int .i64 L] w fun e w'=>e=.returned (.int .i64 (-1))/\w'=w:=by
 have hm':(n:Int)<=9223372036854775807:=by unfold maxLen at hm;omega
 by_cases hn0:L - (n:Int)<0
 ·go_enter Tryz.func51,Tryz.ntmps51
  go_wp2;go_ret;exact ⟨rfl,rfl⟩
 have hn:(n:Int)<=1048576:=by omega
 have HR:Hid (RowS w a0 n fun i=>.slice (aa i) (ls i) (cs i)):=hr;have HS:Hid (L<(n:Int)+(sumL ls n:Nat)):=h;have HL:Hid (∀ i,i<n->ls i<=maxLen):=hl;clear hr h hl hm
 go_enter Tryz.func51,Tryz.ntmps51
 go_wp2_with fail
 go_loopw [1,5] (fun q i wr=>∃ k:Nat,k<=n/\i=.int .i64 k/\q=.int .i64 (L - n - (sumL ls k:Nat))/\0<=L - n - (sumL ls k:Nat)/\wr=w) (fun _ i _=>n - (intOf i).toNat)
 case atStart=>exact ⟨0,Nat.zero_le _,rfl,by simp [sumL],by simp only [sumL];omega,rfl⟩
 case round=>
  obtain ⟨k,hk,rfl,rfl,hp,rfl⟩:=hrel;by_cases hlt:k<n
  ·have hlt':(k:Int)<(n:Int):=by omega
   obtain ⟨b,off,rfl,ck⟩:=HR.out.at hlt;have hml:=HL.out k hlt;have e1:(L - n - (sumL ls k:Nat)) - (ls k:Int)=L - n - (sumL ls (k+1):Nat):=by simp only [sumL];omega
   have HE:Hid ((L - n - (sumL ls k:Nat)) - (ls k:Int)=L - n - (sumL ls (k+1):Nat)):=e1;have e4:L - n - (sumL ls k:Nat)<=1048576:=by omega
   clear e1;by_cases hb:(ls k:Int)<=L - n - (sumL ls k:Nat)
   ·have e3:0<=L - n - (sumL ls (k+1):Nat):=by have:=HE.out;omega
    have e3':¬ (L - n - (sumL ls (k+1):Nat)<0):=by omega
    generalize hy:L - n - (sumL ls (k+1):Nat)=Y at *;go_wp2_with fail
    refine (qes _ _ _ _ _ hb e4).mono ?_;rintro e w1 ⟨rfl,rfl⟩;rw [HE.out];clear hb e4 hml hp;go_wp2;go_roundw
    case rel=>exact ⟨k+1,by omega,by go_num,by rw [<- hy],by omega,by trivial⟩
    case measure=>simp [intOf];omega
   ·have hb':L - n - (sumL ls k:Nat)<(ls k:Int):=by omega
    go_wp2_with fail
    refine (qjv _ _ _ _ _ hb' hp e4 hml).mono ?_;rintro e w1 ⟨rfl,rfl⟩;clear hb hb' e4 hml hp HE;go_wp2;go_ret;exact ⟨rfl,rfl⟩
  ·have hkl:k=n:=by omega
   subst hkl;have:=HS.out;omega
theorem qs1:(Tryz.prog.info? 87).map (fun i=>(i.zero,i.size,i.bytes))=some (some (.slice none 0 0),1,24):=by kernel_rfl
theorem qis (n:Nat) (hn:n<=1048576) (w:World):
  (Instr.makeSlice 39 (.int .i64 (n:Int)) (.int .i64 (n:Int))).run Tryz.prog w=.ok (.slice (some ⟨w.heap.size,0,none⟩) n n) (w.alloc (.cells (madeCells #[.slice none 0 0] n) 87)):=by
 have hinfo:=qs1;cases hi:Tryz.prog.info? 87 with
 | none=>rw [hi] at hinfo;cases hinfo
 | some i=>
  rw [hi] at hinfo;simp only [Option.map_some,Option.some.injEq,Prod.mk.injEq] at hinfo;obtain ⟨hz,hs,hb⟩:=hinfo;have h:=run_make (P:=Tryz.prog) w 39 87 i _ Tryz.underlying39 hi hz .i64 .i64 (n:Int) (n:Int) (by omega) (Int.le_refl _) (by rw [hb];omega) (by omega);rw [hs] at h;simpa [Value.cells] using h
theorem qjj (w:World) (n:Nat):(w.alloc (.cells (madeCells #[.slice none 0 0] n) 87)).rowIs w.heap.size 87 n (fun _=>.slice none 0 0):=by
 refine ⟨_,blk_alloc_new _ _,size_madeCells _ _,fun i hi=>?_⟩;simp only [madeCells];rw [Array.getElem?_map,Array.getElem?_range,if_pos hi];have:i % 1=0:=Nat.mod_one i;exact congrArg some (by simp [this])
structure qdq (w:World) (D k:Nat) (f:Nat->Value) (ls:Nat->Nat) (bs:Nat->Nat) (h:Nat->Nat->E3):Prop where
 cel:∀ i,i<k->f i=.slice (some ⟨bs i,0,none⟩) (ls i) (ls i)
 bd:∀ i,i<k->D<bs i/\bs i<w.heap.size
 row:∀ i,i<k->EvAt w (bs i) 0 (ls i) (h i)
 fr:∀ i,i<k->∀ j,w.frozen? ⟨bs i,j,none⟩=false
 up:∀ i j,i<j->j<k->bs i<bs j
theorem qdq.step {w w1:World} {D k:Nat} {f:Nat->Value} {ls:Nat->Nat} {bs:Nat->Nat} {h:Nat->Nat->E3} (o:qdq w D k f ls bs h) (hb:Below w.heap.size w w1) (hD:D<w.heap.size) (hz:w.heap.size<w1.heap.size) (hr:EvAt w1 w.heap.size 0 (ls k) (h k)) (hf:∀ j,w1.frozen? ⟨w.heap.size,j,none⟩=false) (u:Value):
  qdq (w1.setCell ⟨D,k,none⟩ u) D (k+1) (fun i=>if i=k then .slice (some ⟨w.heap.size,0,none⟩) (ls k) (ls k) else f i) ls (fun i=>if i=k then w.heap.size else bs i) h:=by
 have hs:∀ b,b≠D->(w1.setCell ⟨D,k,none⟩ u).heap[b]? = w1.heap[b]?:=fun b hne=>zN _ _ _ _ hne
 have hat:∀ b n g,b≠D->EvAt w1 b 0 n g->EvAt (w1.setCell ⟨D,k,none⟩ u) b 0 n g:=fun b n g hne hg=>fun i hi=>by
  have hc:∀ j,(w1.setCell ⟨D,k,none⟩ u).cell? ⟨b,j,none⟩=w1.cell? ⟨b,j,none⟩:=fun j=>zH (hs b hne);have:=hg i hi;simp only [hc];exact this
 refine ⟨fun i hi=>?_,fun i hi=>?_,fun i hi=>?_,fun i hi j=>?_,fun i j hij hj=>?_⟩
 ·by_cases e:i=k
  ·subst e;simp
  ·simp only [if_neg e];exact o.cel i (by omega)
 ·by_cases e:i=k
  ·subst e;simp;omega
  ·simp only [if_neg e,World.size_setCell];have:=o.bd i (by omega);omega
 ·by_cases e:i=k
  ·subst e;simp only [if_true];exact hat _ _ _ (by omega) hr
  ·simp only [if_neg e];have hbd:=o.bd i (by omega);exact hat _ _ _ (by omega) ((o.row i (by omega)).below hb hbd.2)
 ·by_cases e:i=k
  ·subst e;simp only [if_true];rw [World.frozen?_setCell];exact hf j
  ·simp only [if_neg e];rw [World.frozen?_setCell];have hbd:=o.bd i (by omega);exact (hb.frozen (p:=⟨bs i,j,none⟩) hbd.2).trans (o.fr i (by omega) j)
 ·by_cases e:j=k
  ·have hi:i≠k:=by omega
   simp only [if_neg hi,if_pos e];exact (o.bd i (by omega)).2
  ·have hi:i≠k:=by omega
   simp only [if_neg hi,if_neg e];exact o.up i j hij (by omega)
structure qhs (W:World) (a0:Option Addr) (n:Nat) (aa:Nat->Option Addr) (ls cs:Nat->Nat) (h:Nat->Nat->E3):Prop where
 row:RowS W a0 n fun i=>.slice (aa i) (ls i) (cs i)
 cop:∀ i,i<n->qj8 W (aa i) (ls i) (cs i) (h i)
theorem ql7 (a0:Option Addr) (n cap:Nat) (aa:Nat->Option Addr) (ls cs:Nat->Nat) (h:Nat->Nat->E3) (W w:World) (hn:n<=1048576) (hA:qhs W a0 n aa ls cs h) (hW:Below W.heap.size W w):
  Calls Tryz.prog 60 #[.slice a0 n cap] w fun e w'=>e=.returned (.slice (some ⟨w.heap.size,0,none⟩) n n)/\(∃ bs,qaw w' w.heap.size w'.heap.size n ls bs h)/\Below w.heap.size w w':=by
 have hl':(n:Int)<=1048576:=by omega
 have hmk:=qis n hn;have HA:Hid (qhs W a0 n aa ls cs h):=hA;have HW:Hid (Below W.heap.size W w):=hW;clear hA hW
 go_enter Tryz.func60,Tryz.ntmps60
 go_wp2_with fail
 clear hmk
 go_loopw [4] (fun i wr=>∃ k:Nat,k<=n/\i=.int .i64 k/\(∃ f,wr.rowIs w.heap.size 87 n f/\Hid (∃ bs,qdq wr w.heap.size k f ls bs h))/\Below w.heap.size w wr) (fun i _=>n - (intOf i).toNat)
 case atStart=>exact ⟨0,Nat.zero_le _,rfl,⟨_,qjj w n,fun _=>0,fun i hi=>by omega,fun i hi=>by omega,fun i hi=>by omega,fun i hi=>by omega,fun i j hij hj=>by omega⟩,(Below.refl _ _).alloc (Nat.le_refl _) _⟩
 case round=>
  obtain ⟨k,hk,rfl,⟨f,hrow,HF⟩,hbw⟩:=hrel;have hs:=hrow.lt;by_cases hlt:k<n
  ·have hlt':(k:Int)<(n:Int):=by omega
   have HB:Hid (Below W.heap.size W wr):=HW.out.trans (hbw.mono HW.out.size);obtain ⟨b,off,rfl,ck⟩:=(HA.out.row.below HB.out).at hlt;have HR:Hid (wr.rowIs w.heap.size 87 n f):=hrow;clear hrow;go_wp2_with fail
   refine (HA.out.cop k hlt wr HB.out).mono ?_;rintro e w1 ⟨rfl,hi1,hz1,hb1,hf1⟩;have hr1:w1.rowIs w.heap.size 87 n f:=HR.out.of_block (hb1.block _ hs);have f0:=hr1.frozen k;have g0:=hr1.cell (i:=k) hlt;have HR1:Hid (w1.rowIs w.heap.size 87 n f):=hr1
   have HF1:Hid (∃ bs,qdq (w1.setCell ⟨w.heap.size,k,none⟩ (.slice (some ⟨wr.heap.size,0,none⟩) (ls k) (ls k))) w.heap.size (k+1) (fun i=>if i=k then .slice (some ⟨wr.heap.size,0,none⟩) (ls k) (ls k) else f i) ls bs h):=by
    obtain ⟨bs,o⟩:=HF.out;exact ⟨_,o.step hb1 hs hz1 hi1 hf1 _⟩
   clear hr1 hi1 HF HR hf1;go_wp2_with fail
   exact ⟨⟨k+1,by omega,by go_num,⟨_,HR1.out.set _ _,HF1.out⟩,(hbw.trans (hb1.mono (Nat.le_of_lt hs))).setCell (Nat.le_refl _) _⟩,by simp [intOf];omega⟩
  ·have hkl:k=n:=by omega
   have HO:Hid (∃ bs,qaw wr w.heap.size wr.heap.size n ls bs h):=by
    obtain ⟨bs,o⟩:=HF.out;rw [hkl] at o;exact ⟨bs,fun i hi=>by rw [hrow.cell hi,o.cel i hi],o.bd,o.row,o.fr,o.up,Nat.le_refl _,hs⟩
   clear hkl HF hrow;go_wp2;go_ret;exact ⟨rfl,HO.out,hbw⟩
theorem qi9 (D1 h1 D2 h2 n c1 c2:Nat) (ls b1 b2:Nat->Nat) (h:Nat->Nat->E3) (w:World) (hn:n<=1048576) (hl:∀ i,i<n->ls i<=1048576) (o1:qaw w D1 h1 n ls b1 h) (o2:qaw w D2 h2 n ls b2 h):
  Calls Tryz.prog 83 #[.slice (some ⟨D1,0,none⟩) n c1,.slice (some ⟨D2,0,none⟩) n c2] w fun e w'=>e=.returned (.bool true)/\Below w.heap.size w w':=by
 have hl':(n:Int)<=1048576:=by omega
 have O1:Hid (qaw w D1 h1 n ls b1 h):=o1;have O2:Hid (qaw w D2 h2 n ls b2 h):=o2;have HL:Hid (∀ i,i<n->ls i<=1048576):=hl;clear o1 o2 hl
 go_enter Tryz.func83,Tryz.ntmps83
 go_wp2_with fail
 go_loopw [5] (fun i wr=>∃ k:Nat,k<=n/\i=.int .i64 k/\Below w.heap.size w wr) (fun i _=>n - (intOf i).toNat)
 case atStart=>exact ⟨0,Nat.zero_le _,rfl,Below.refl _ _⟩
 case round=>
  obtain ⟨k,hk,rfl,hbw⟩:=hrel;have hs:=hbw.size;by_cases hlt:k<n
  ·have P1:Hid (qaw wr D1 h1 n ls b1 h):=O1.out.below hbw O1.out.le
   have P2:Hid (qaw wr D2 h2 n ls b2 h):=O2.out.below hbw O2.out.le;have ck:=P1.out.cel k hlt;have dk:=P2.out.cel k hlt;have hlt':(k:Int)<(n:Int):=by omega
   go_wp2_with fail
   first|(go_region_with (go_at_call 150;refine (qfh (b1 k) (b2 k) (ls k) (ls k) (ls k) (h k) wr.drew (HL.out k hlt) (zL (P1.out.bd k hlt).2 P1.out.le) (zL (P2.out.bd k hlt).2 P2.out.le) (P1.out.row k hlt) (P2.out.row k hlt)).mono ?_;rintro e w1 ⟨rfl,hq1⟩)) | fail
   all_goals
    go_wp2;go_roundw
    case rel=>exact ⟨k+1,by omega,by go_num,hbw.drew.trans (hq1.mono hs)⟩
    case measure=>simp [intOf];omega
  ·go_wp2
   go_ret;exact ⟨rfl,hbw⟩
theorem qik (D hi n cap:Nat) (ls bs:Nat->Nat) (h:Nat->Nat->E3) (k:Int) (w:World) (hn:n<=1048576) (hl:sumL ls n<=1048576) (k0:0<=k) (k1:k<=50000000) (o:qaw w D hi n ls bs h):
  Calls Tryz.prog 90 #[.slice (some ⟨D,0,none⟩) n cap,.int .i64 k] w fun e w'=>e=.returned (.int .i64 (k+3*(sumL ls n:Nat)))/\qaa (fun b=>D<b/\b<hi) w w':=by
 have hl':(n:Int)<=1048576:=by omega
 have O:Hid (qaw w D hi n ls bs h):=o;have HL:Hid (sumL ls n<=1048576):=hl;clear o hl
 go_enter Tryz.func90,Tryz.ntmps90
 go_wp2_with fail
 go_loopw [1,5] (fun q i wr=>∃ j:Nat,j<=n/\i=.int .i64 j/\q=.int .i64 (k+3*(sumL ls j:Nat))/\Hid (qaa (fun b=>∃ t,t<j/\b=bs t) w wr)) (fun _ i _=>n - (intOf i).toNat)
 case atStart=>exact ⟨0,Nat.zero_le _,rfl,by simp [sumL],qaa.refl _ _⟩
 case round=>
  obtain ⟨j,hj,rfl,rfl,HT⟩:=hrel;by_cases hlt:j<n
  ·have hlt':(j:Int)<(n:Int):=by omega
   have dD:¬ ∃ t,t<j/\D=bs t:=by
    rintro ⟨t,ht,e⟩;have:=(O.out.bd t (by omega)).1;omega
   have dJ:¬ ∃ t,t<j/\bs j=bs t:=by
    rintro ⟨t,ht,e⟩;have:=O.out.up t j ht hlt;omega
   have bJ:=O.out.bd j hlt;have le:=O.out.le;have ck:wr.cell? ⟨D,j,none⟩=some (.slice (some ⟨bs j,0,none⟩) (ls j) (ls j)):=(HT.out.cell (zL O.out.lt le) dD j).trans (O.out.cel j hlt)
   have RM:Hid (qhf wr (bs j) (ls j)):=by
    have hb:wr.heap[bs j]? = w.heap[bs j]?:=HT.out.block (bs j) (by omega) dJ;have hrm:qhf w (bs j) (ls j):=qhf.of_ev (O.out.row j hlt) (O.out.fr j hlt);exact ⟨fun i hi=>(hrm.1 i hi).elim fun u e=>⟨u,(zH hb).trans e⟩,fun i=>(zI hb).trans (hrm.2 i)⟩
   have hsl:=qbc ls hlt;have hS:=HL.out;have e1:k+3*(sumL ls j:Nat)+3*(ls j:Int)=k+3*(sumL ls (j+1):Nat):=by simp only [sumL];omega
   have HE:Hid (k+3*(sumL ls j:Nat)+3*(ls j:Int)=k+3*(sumL ls (j+1):Nat)):=e1;have e2:0<=k+3*(sumL ls j:Nat):=by omega
   have e3:k+3*(sumL ls j:Nat)<=100000000:=by omega
   have e4:ls j<=1048576:=by omega
   clear dD bJ le e1 hS hsl;go_wp2_with fail
   refine (qjl (bs j) (ls j) (ls j) _ wr e4 e2 e3 RM.out).mono ?_;rintro e w1 ⟨rfl,g1⟩;rw [HE.out];have HT1:Hid (qaa (fun b=>∃ t,t<j+1/\b=bs t) w w1):=(HT.out.mono fun b ⟨t,ht,e⟩=>⟨t,by omega,e⟩).trans (qaa.of_grown g1 fun b e=>⟨j,by omega,by simpa using e.symm⟩);clear HT dJ RM e2 e3 e4 g1;go_wp2;go_roundw
   case rel=>exact ⟨j+1,by omega,by go_num,rfl,HT1.out⟩
   case measure=>simp [intOf];omega
  ·have hkl:j=n:=by omega
   subst hkl
   have HT1:Hid (qaa (fun b=>D<b/\b<hi) w wr):=HT.out.mono fun b ⟨t,ht,e⟩=>by
    subst e;exact O.out.bd t ht
   clear HT;go_wp2;go_ret;exact ⟨rfl,HT1.out⟩
theorem qn1 {H:Type} {enc:TypeId × Value->H} {w:World} {spare:Nat->Bool} {held:Bool} {base:Nat} {a0:Option Addr} {len cap:Nat} {d:DataW H} {p:List MemPlace}
  (h:DataW.Trod enc Tryz.prog w base spare held 25 (.slice a0 len cap) d p):
  len<=maxLen/\∃ aa ls cs,RowS w a0 len (fun i=>.slice (aa i) (ls i) (cs i))/\(∀ i,i<len->ls i<=maxLen)/\((∀ i,i<len->ls i<=1048576)->∃ hh,qhs w a0 len aa ls cs hh):=by
 obtain ⟨hm,f,hrow,hf⟩:=qdg Tryz.underlying25 (el:=163) (by kernel_rfl) h;refine ⟨hm,?_⟩
 have hpart:∀ i,i<len->∃ x:Option Addr × Nat × Nat,f i=.slice x.1 x.2.1 x.2.2/\x.2.1<=maxLen/\(x.2.1<=1048576->∃ g,qj8 w x.1 x.2.1 x.2.2 g):=by
  intro i hi;obtain ⟨m,x,hx⟩:=hf i hi
  have hsl:∃ a l c,f i=.slice a l c:=by
   rcases Go.Deep.open_slice Tryz.underlying163 hx with ⟨hcs,_⟩ | ⟨a,len',cap',m,n,D,Pl,hcs,_⟩
   ·simp at hcs
    exact ⟨_,_,_,hcs⟩
   ·simp at hcs
    exact ⟨_,_,_,hcs⟩
  obtain ⟨a,l,c,e⟩:=hsl;rw [e] at hx;obtain ⟨h1,h2⟩:=qtk (d:=x.1) (p:=x.2) (a0:=a) (len:=l) (cap:=c) ⟨m,by simpa [Value.cells] using hx⟩;exact ⟨(a,l,c),e,h1,fun hs=>qsk hs h2⟩
 obtain ⟨g,hg⟩:=Go.Deep.choose_lt (α:=Option Addr × Nat × Nat) hpart;refine ⟨fun i=>(g i).1,fun i=>(g i).2.1,fun i=>(g i).2.2,?_,fun i hi=>(hg i hi).2.1,fun hs=>?_⟩
 ·rcases hrow with h0 | ⟨b,off,e,hlt,hc⟩
  ·exact .inl h0
  ·exact .inr ⟨b,off,e,hlt,fun i hi=>(hc i hi).trans (by rw [(hg i hi).1])⟩
 ·have hq:∀ i,i<len->∃ q:Nat->E3,qj8 w (g i).1 (g i).2.1 (g i).2.2 q:=fun i hi=>(hg i hi).2.2 (hs i hi)
  have inh:Inhabited (Nat->E3):=⟨fun _=>⟨0,0,0⟩⟩
  obtain ⟨hh,hhh⟩:=Go.Deep.choose_lt (α:=Nat->E3) hq;refine ⟨hh,?_,hhh⟩
  rcases hrow with h0 | ⟨b,off,e,hlt,hc⟩
  ·exact .inl h0
  ·exact .inr ⟨b,off,e,hlt,fun i hi=>(hc i hi).trans (by rw [(hg i hi).1])⟩
theorem qku (D1 h1 D2 h2 n c1 c2:Nat) (S:Nat->S4) (v1 v2:Nat->Value) (w:World) (hn:n<=1048576) (hl:∀ i,i<n->(S i).rs.length<=1048576/\(S i).os.length<=1048576) (o1:qau w D1 h1 n S v1) (o2:qau w D2 h2 n S v2):
  Calls Tryz.prog 81 #[.slice (some ⟨D1,0,none⟩) n c1,.slice (some ⟨D2,0,none⟩) n c2] w fun e w'=>e=.returned (.bool true)/\Below w.heap.size w w':=by
 have hl':(n:Int)<=1048576:=by omega
 have O1:Hid (qau w D1 h1 n S v1):=o1;have O2:Hid (qau w D2 h2 n S v2):=o2;have HL:Hid (∀ i,i<n->(S i).rs.length<=1048576/\(S i).os.length<=1048576):=hl;clear o1 o2 hl
 go_enter Tryz.func81,Tryz.ntmps81
 go_wp2_with fail
 go_loopw [5] (fun i wr=>∃ k:Nat,k<=n/\i=.int .i64 k/\Below w.heap.size w wr) (fun i _=>n - (intOf i).toNat)
 case atStart=>exact ⟨0,Nat.zero_le _,rfl,Below.refl _ _⟩
 case round=>
  obtain ⟨k,hk,rfl,hbw⟩:=hrel;have hs:=hbw.size;by_cases hlt:k<n
  ·have P1:Hid (qau wr D1 h1 n S v1):=O1.out.below hbw O1.out.le
   have P2:Hid (qau wr D2 h2 n S v2):=O2.out.below hbw O2.out.le;obtain ⟨ra,rc,oa,oc,e1,a0,a1,a2,a3⟩:=P1.out.cel k hlt;obtain ⟨ra',rc',oa',oc',e2,b0,b1,b2,b3⟩:=P2.out.cel k hlt
   have hsl1:Sl wr ra (S k).rs/\Sl wr oa (S k).os:=by
    obtain ⟨x1,x2,x3,x4,e,s1,s2⟩:=(P1.out.own k hlt).read;rw [e1] at e;simp only [Value.agg.injEq,Array.mk.injEq,List.cons.injEq,Value.slice.injEq,and_true,true_and] at e;obtain ⟨⟨rfl,rfl⟩,rfl,rfl⟩:=e;exact ⟨s1,s2⟩
   have hsl2:Sl wr ra' (S k).rs/\Sl wr oa' (S k).os:=by
    obtain ⟨x1,x2,x3,x4,e,s1,s2⟩:=(P2.out.own k hlt).read;rw [e2] at e;simp only [Value.agg.injEq,Array.mk.injEq,List.cons.injEq,Value.slice.injEq,and_true,true_and] at e;obtain ⟨⟨rfl,rfl⟩,rfl,rfl⟩:=e;exact ⟨s1,s2⟩
   have H1:Hid (Sl wr ra (S k).rs/\Sl wr oa (S k).os):=hsl1;have H2:Hid (Sl wr ra' (S k).rs/\Sl wr oa' (S k).os):=hsl2;have hlt':(k:Int)<(n:Int):=by omega
   clear hsl1 hsl2 e1 e2;go_wp2_with fail
   first|(go_region_with (go_at_call 148;refine (qg5 _ _ ra oa ra' oa' rc oc rc' oc' (S k).rs (S k).os wr.drew (HL.out k hlt).1 (HL.out k hlt).2 H1.1 H1.2 H2.1 H2.2).mono ?_;rintro e w1 ⟨rfl,hq1⟩)) | fail
   all_goals
    go_wp2;go_roundw
    case rel=>exact ⟨k+1,by omega,by go_num,hbw.drew.trans (hq1.mono hs)⟩
    case measure=>simp [intOf];omega
  ·go_wp2
   go_ret;exact ⟨rfl,hbw⟩
structure MkS (w wr:World) (D j:Nat) (vs:Nat->Value):Prop where
 tch:qaa (fun b=>b=D\/∃ t,t<j/\qae (vs t) b) w wr
 cel:∀ i,j*4<=i->wr.cell? ⟨D,i,none⟩=w.cell? ⟨D,i,none⟩
 fr:∀ i,wr.frozen? ⟨D,i,none⟩=false
theorem qjp (D hi n cap:Nat) (S:Nat->S4) (vs:Nat->Value) (k:Int) (w:World) (hn:n<=1048576) (hl:sumL (lenS S) n<=1048576) (k0:0<=k) (k1:k<=50000000) (o:qau w D hi n S vs):
  Calls Tryz.prog 88 #[.slice (some ⟨D,0,none⟩) n cap,.int .i64 k] w fun e w'=>e=.returned (.int .i64 (k+(2*n+sumL (lenS S) n:Nat)))/\qaa (fun b=>D<=b/\b<hi) w w':=by
 have hl':(n:Int)<=1048576:=by omega
 have O:Hid (qau w D hi n S vs):=o;have HL:Hid (sumL (lenS S) n<=1048576):=hl;clear o hl
 go_enter Tryz.func88,Tryz.ntmps88
 go_wp2_with fail
 go_loopw [1,5] (fun q i wr=>∃ j:Nat,j<=n/\i=.int .i64 j/\q=.int .i64 (k+(2*j+sumL (lenS S) j:Nat))/\Hid (MkS w wr D j vs)) (fun _ i _=>n - (intOf i).toNat)
 case atStart=>exact ⟨0,Nat.zero_le _,rfl,by simp [sumL],qaa.refl _ _,fun _ _=>rfl,O.out.fr⟩
 case round=>
  obtain ⟨j,hj,rfl,rfl,HT⟩:=hrel;by_cases hlt:j<n
  ·have hlt':(j:Int)<(n:Int):=by omega
   obtain ⟨ra,rc,oa,oc,ev,a0,a1,a2,a3⟩:=O.out.cel j hlt;have c0:=(HT.out.cel (j*4) (by omega)).trans a0;have c1:=(HT.out.cel (j*4+1) (by omega)).trans a1;have c2:=(HT.out.cel (j*4+2) (by omega)).trans a2;have c3:=(HT.out.cel (j*4+3) (by omega)).trans a3;have fz:=HT.out.fr;have hD:D<wr.heap.size:=zL O.out.lt (zO O.out.le HT.out.tch.size);have how:=O.out.own j hlt
   have howr : qag wr (D + 1) (vs j) (S j).p (S j).rs (S j).os (S j).c := how.blk fun b hb => HT.out.tch.block b (how.lt hb).2 (by
    rintro (e | ⟨t,ht,h1⟩)
    ·have:=(how.lt hb).1
     omega
    ·exact O.out.apart t j ht hlt b h1 hb)
   have hbd:∀ b,qae (vs j) b->D+1<=b:=fun b hb=>(how.lt hb).1;rw [ev] at howr hbd;obtain ⟨vr,vo,e,w1r,w1o,wap⟩:=howr;simp only [Value.agg.injEq,Array.mk.injEq,List.cons.injEq,and_true,true_and] at e;obtain ⟨rfl,rfl⟩:=e;have OR:Hid (OwnI wr (D+1) (.slice ra (S j).rs.length rc) (S j).rs):=w1r;have OO:Hid (OwnI wr (D+1) (.slice oa (S j).os.length oc) (S j).os):=w1o;have AP:Hid (∀ b,(Value.slice ra (S j).rs.length rc).ownBlock=some b->(Value.slice oa (S j).os.length oc).ownBlock≠some b):=wap;have HV:Hid (vs j=stV (S j).p ra (S j).rs.length rc oa (S j).os.length oc (S j).c):=ev;have hsl:=qbc (lenS S) hlt;have hS:=HL.out;have hlk:lenS S j=(S j).rs.length+(S j).os.length:=rfl;have r1:(S j).rs.length<=1048576:=by omega
   have r2:(S j).os.length<=1048576:=by omega
   generalize hx:k+(2*j+sumL (lenS S) j:Nat)=X at *;have x0:0<=X:=by omega
   have x1:X<=60000000:=by omega
   have HN:Hid (X+1+(S j).rs.length+(S j).os.length+1=k+(2*(j+1)+sumL (lenS S) (j+1):Nat)):=by
    show X+1+(S j).rs.length+(S j).os.length+1=k+(2*(j+1)+sumL (lenS S) (j+1):Nat);simp only [sumL];omega
   have rI:((S j).rs.length:Int)<=1048576:=by omega
   have oI:((S j).os.length:Int)<=1048576:=by omega
   clear a0 a1 a2 a3 ev wap w1r w1o how hsl hS hlk hx;go_wp2_with fail
   refine (qco ra rc (D+1) (S j).rs _ _ r1 (by omega) (by omega) (OR.out.setBelow (by simp) _)).mono ?_;rintro e w1 ⟨rfl,-,g1⟩
   have nR:some D≠(Value.slice ra (S j).rs.length rc).ownBlock:=fun e=>by
    have:=(OR.out.lt D e.symm).1;omega
   have nO:some D≠(Value.slice oa (S j).os.length oc).ownBlock:=fun e=>by
    have:=(OO.out.lt D e.symm).1;omega
   obtain ⟨d1,f1⟩:=qhj g1 (b:=D) (by simpa using hD) nR;have OO1:Hid (OwnI w1 (D+1) (.slice oa (S j).os.length oc) (S j).os):=qfo (OO.out.setBelow (by simp) _) g1 AP.out;have hD1:D<w1.heap.size:=by have:=g1.size;simp at this;omega
   have G1:Hid (World.grownBy (wr.setCell ⟨D,j*4,none⟩ (.int .i64 X)) w1 (Value.slice ra (S j).rs.length rc).ownBlock):=g1;clear g1;go_wp2_with fail
   refine (qco oa oc (D+1) (S j).os _ _ r2 (by omega) (by omega) OO1.out).mono ?_;rintro e w2 ⟨rfl,-,g2⟩;obtain ⟨d2,f2⟩:=qhj g2 (b:=D) hD1 nO
   have HT2:Hid (∀ u,MkS w (w2.setCell ⟨D,j*4+3,none⟩ u) D (j+1) vs):=by
    intro u
    have t0 : qaa (fun b => b = D ∨ ∃ t, t < j + 1 ∧ qae (vs t) b) w wr := HT.out.tch.mono (by
     rintro b (e | ⟨t,ht,h1⟩)
     ·exact .inl e
     ·exact .inr ⟨t,by omega,h1⟩)
    have t1:qaa (fun b=>b=D\/∃ t,t<j+1/\qae (vs t) b) wr (wr.setCell ⟨D,j*4,none⟩ (.int .i64 X)):=qaa.of_set _ (.inl rfl) _
    have t2 : qaa (fun b => b = D ∨ ∃ t, t < j + 1 ∧ qae (vs t) b) (wr.setCell ⟨D, j * 4, none⟩ (.int .i64 X)) w1 := qaa.of_grown G1.out fun b e => .inr ⟨j, by omega, by
     rw [HV.out]
     exact (qal _ _ _ _ _).2 (.inl e)⟩
    have t3 : qaa (fun b => b = D ∨ ∃ t, t < j + 1 ∧ qae (vs t) b) w1 w2 := qaa.of_grown g2 fun b e => .inr ⟨j, by omega, by
     rw [HV.out]
     exact (qal _ _ _ _ _).2 (.inr e)⟩
    refine ⟨(((t0.trans t1).trans t2).trans t3).trans (qaa.of_set _ (.inl rfl) _),fun i hi=>?_,fun i=>?_⟩
    ·have s1:∀ (W:World) (o:Nat) (u:Value),o≠i->(W.setCell ⟨D,o,none⟩ u).cell? ⟨D,i,none⟩=W.cell? ⟨D,i,none⟩:=fun W o u h=>World.cell?_setCell_other _ _ _ _ fun e=>h (by injection e)
     rw [s1 _ _ _ (by omega),d2,d1,s1 _ _ _ (by omega)];exact HT.out.cel i (by omega)
    ·rw [World.frozen?_setCell,f2,f1,World.frozen?_setCell]
     exact HT.out.fr i
   clear g2 G1 OO1 OO OR AP HV HT;go_wp2;go_roundw
   case rel=>exact ⟨j+1,by omega,by go_num,by rw [HN.out],HT2.out _⟩
   case measure=>simp [intOf];omega
  ·have hkl:j=n:=by omega
   subst hkl
   have HT1 : Hid (qaa (fun b => D ≤ b ∧ b < hi) w wr) := HT.out.tch.mono (by
    rintro b (e | ⟨t,ht,h1⟩)
    ·subst e
     exact ⟨Nat.le_refl _,O.out.lt⟩
    ·exact ⟨by have:=((O.out.own t ht).lt h1).1;omega,O.out.bd t ht b h1⟩)
   clear HT;go_wp2;go_ret;exact ⟨rfl,HT1.out⟩
theorem qin {H:Type} {enc:TypeId × Value->H} {w:World} {base fuel:Nat} {held:Bool} {c0 c1 c2 c3:Value} {x:DataW H × List MemPlace}
  (hf':DataW.trod enc Tryz.prog w base (fun _=>true) held fuel 159 [c0,c1,c2,c3]=some x):
  ∃ q:St8,(c0=.int .i64 q.p/\c1=.slice q.ra q.rs.length q.rc/\c2=.slice q.oa q.os.length q.oc/\c3=.int .i64 q.c)/\(q.rs.length<=maxLen/\q.os.length<=maxLen)/\Sl w q.ra q.rs/\Sl w q.oa q.os:=by
 obtain ⟨xs,m,-,-,-,hl,hx⟩:=DataW.trod_struct Tryz.underlying159 hf';have hl:xs.length=4:=hl;have q0:DataW.trod enc Tryz.prog w base (fun _=>true) held m 3 [c0]=xs[0]?:=by simpa [qb1] using hx 0 _ rfl
 have q1:DataW.trod enc Tryz.prog w base (fun _=>true) held m 28 [c1]=xs[1]?:=by simpa [qmx] using hx 1 _ rfl
 have q2:DataW.trod enc Tryz.prog w base (fun _=>true) held m 28 [c2]=xs[2]?:=by simpa [qmx] using hx 2 _ rfl
 have q3:DataW.trod enc Tryz.prog w base (fun _=>true) held m 3 [c3]=xs[3]?:=by simpa [qb1] using hx 3 _ rfl
 rw [List.getElem?_eq_getElem (by omega)] at q0 q1 q2 q3;obtain ⟨z0,e0,-,-⟩:=DataW.trod_int Tryz.underlying3 q0;obtain ⟨z3,e3,-,-⟩:=DataW.trod_int Tryz.underlying3 q3;obtain ⟨ra,rc,rs,rfl,hr,h1⟩:=qim q1;obtain ⟨oa,oc,os,rfl,ho,h2⟩:=qim q2;simp only [List.cons.injEq,and_true] at e0 e3;subst e0 e3;exact ⟨⟨z0,ra,rc,rs,oa,oc,os,z3⟩,⟨rfl,rfl,rfl,rfl⟩,⟨hr,ho⟩,h1,h2⟩
theorem qqg {H:Type} {enc:TypeId × Value->H} {w:World} {held:Bool} {base:Nat} {a0:Option Addr} {len cap:Nat} {d:DataW H} {p:List MemPlace}
  (h:DataW.Trod enc Tryz.prog w base (fun _=>true) held 23 (.slice a0 len cap) d p):
  len<=maxLen/\∃ q,qbd w a0 len q/\∀ i,i<len->(q i).rs.length<=maxLen/\(q i).os.length<=maxLen:=by
 obtain ⟨fuel,hf⟩:=h;have inh:Inhabited St8:=⟨⟨0,none,0,[],none,0,[],0⟩⟩
 rcases Go.Deep.open_slice Tryz.underlying23 hf with ⟨hcs,_⟩ | ⟨a,len',cap',m,n,D,Pl,hcs,_,hl,hm,hmm,_,hx⟩
 ·simp [Value.cells] at hcs
  obtain ⟨_,rfl,_⟩:=hcs;exact ⟨Nat.zero_le _,fun _=>default,⟨.inl rfl,fun i hi=>by omega⟩,fun i hi=>by omega⟩
 ·simp [Value.cells] at hcs
  obtain ⟨rfl,rfl,rfl⟩:=hcs;refine ⟨zO hl hm,?_⟩;have hle:len<=m:=by rw [hmm];split <;> omega
  rw [qkj] at hx;obtain ⟨b,off,spot⟩:=a
  have hcell:∀ i,i<len->∃ q:St8,(w.cell? (Addr.add (Addr.add ⟨b,off,spot⟩ (i*4)) 0)=some (.int .i64 q.p)/\w.cell? (Addr.add (Addr.add ⟨b,off,spot⟩ (i*4)) 1)=some (.slice q.ra q.rs.length q.rc)/\w.cell? (Addr.add (Addr.add ⟨b,off,spot⟩ (i*4)) 2)=some (.slice q.oa q.os.length q.oc)/\w.cell? (Addr.add (Addr.add ⟨b,off,spot⟩ (i*4)) 3)=some (.int .i64 q.c))/\(q.rs.length<=maxLen/\q.os.length<=maxLen)/\Sl w q.ra q.rs/\Sl w q.oa q.os:=by
   intro i hi;obtain ⟨cs',h1,h2⟩:=hx i (by omega);obtain ⟨_,hlen,hc⟩:=World.cells?_some h1
   match cs',hlen with
   | [c0,c1,c2,c3],_=>
    obtain ⟨q,⟨rfl,rfl,rfl,rfl⟩,hb,hs⟩:=qin h2;exact ⟨q,⟨hc 0 (by omega),hc 1 (by omega),hc 2 (by omega),hc 3 (by omega)⟩,hb,hs⟩
  obtain ⟨g,hg⟩:=Go.Deep.choose_lt (α:=St8) hcell;refine ⟨g,⟨?_,fun i hi=>(hg i hi).2.2⟩,fun i hi=>(hg i hi).2.1⟩;by_cases h0:len=0
  ·exact .inl h0
  have hspot:spot=none:=by
   have hx0:=(hg 0 (by omega)).1.1;simpa [Addr.add] using World.cell?_spot hx0
  subst hspot
  have hI:∀ i,i<len->w.cell? ⟨b,off+i*4,none⟩=some (.int .i64 (g i).p)/\w.cell? ⟨b,off+i*4+1,none⟩=some (.slice (g i).ra (g i).rs.length (g i).rc)/\w.cell? ⟨b,off+i*4+2,none⟩=some (.slice (g i).oa (g i).os.length (g i).oc)/\w.cell? ⟨b,off+i*4+3,none⟩=some (.int .i64 (g i).c):=by
   intro i hi;obtain ⟨⟨q0,q1,q2,q3⟩,-⟩:=hg i hi;rw [qb0,qb0] at q0 q1 q2 q3;exact ⟨q0,q1,q2,q3⟩
  exact .inr ⟨b,off,rfl,qga (hI 0 (by omega)).1,hI⟩
structure SysIn where
 pa:Option Addr
 pn:Nat
 pc:Nat
 pA:Nat->Option Addr
 pL:Nat->Nat
 pC:Nat->Nat
 pH:Nat->Nat->I5
 sa:Option Addr
 sn:Nat
 sc:Nat
 sQ:Nat->St8
 wa:Option Addr
 wn:Nat
 wc:Nat
 wA:Nat->Option Addr
 wL:Nat->Nat
 wC:Nat->Nat
 wH:Nat->Nat->I2
 ha:Option Addr
 hn:Nat
 hc:Nat
 hA:Nat->Option Addr
 hL:Nat->Nat
 hC:Nat->Nat
 hH:Nat->Nat->E3
abbrev SysIn.oX (x:SysIn):Obj:=oQ4 x.pa x.pn x.pc x.sa x.sn x.sc x.wa x.wn x.wc x.ha x.hn x.hc
abbrev SysIn.bX (x:SysIn) (w:World) (N:Nat):Prop:=BoxC w N (.slice x.pa x.pn x.pc) (.slice x.sa x.sn x.sc) (.slice x.wa x.wn x.wc) (.slice x.ha x.hn x.hc)
def SysIn.sS (x:SysIn):Nat->S4:=fun i=>(x.sQ i).s
def SysIn.size (x:SysIn):Nat:=x.pn+sumL x.pL x.pn+(x.sn+sumL (lenS x.sS) x.sn)+(x.wn+sumL x.wL x.wn)+(x.hn+sumL x.hL x.hn)
abbrev sysV (pa:Option Addr) (pn pc:Nat) (sa:Option Addr) (sn sc:Nat) (wa:Option Addr) (wn wc:Nat) (ha:Option Addr) (hn hc:Nat):Value:=.agg #[.slice pa pn pc,.slice sa sn sc,.slice wa wn wc,.slice ha hn hc]
structure SysIn.Row (W:World) (x:SysIn):Prop where
 p:RowS W x.pa x.pn fun i=>.slice (x.pA i) (x.pL i) (x.pC i)
 s:qbd W x.sa x.sn x.sQ
 w:RowS W x.wa x.wn fun i=>.slice (x.wA i) (x.wL i) (x.wC i)
 h:RowS W x.ha x.hn fun i=>.slice (x.hA i) (x.hL i) (x.hC i)
structure SysIn.Max (x:SysIn):Prop where
 p:x.pn<=maxLen/\∀ i,i<x.pn->x.pL i<=maxLen
 s:x.sn<=maxLen/\∀ i,i<x.sn->(x.sQ i).rs.length<=maxLen/\(x.sQ i).os.length<=maxLen
 w:x.wn<=maxLen/\∀ i,i<x.wn->x.wL i<=maxLen
 h:x.hn<=maxLen/\∀ i,i<x.hn->x.hL i<=maxLen
structure SysIn.Ok (W:World) (x:SysIn):Prop where
 p:qq4 W x.pa x.pn x.pA x.pL x.pC x.pH
 s:qbd W x.sa x.sn x.sQ
 w:qj7 W x.wa x.wn x.wA x.wL x.wC x.wH
 h:qhs W x.ha x.hn x.hA x.hL x.hC x.hH
theorem SysIn.Ok.row {W:World} {x:SysIn} (h:x.Ok W):x.Row W:=⟨h.p.row,h.s,h.w.row,h.h.row⟩
theorem SysIn.Row.below {W w:World} {x:SysIn} (h:x.Row W) (hb:Below W.heap.size W w):x.Row w:=⟨h.p.below hb,h.s.below hb,h.w.below hb,h.h.below hb⟩
theorem qi1 (x:SysIn) (w:World) (hr:x.Row w) (h:x.size<=1048576):
  Calls Tryz.prog 17 #[sysV x.pa x.pn x.pc x.sa x.sn x.sc x.wa x.wn x.wc x.ha x.hn x.hc,.int .i64 1048576] w fun e w'=>e=.returned (.int .i64 (1048576 - (x.size:Nat)))/\Below w.heap.size w w':=by
 have HR:Hid (x.Row w):=hr;have hh:x.size=x.pn+sumL x.pL x.pn+(x.sn+sumL (lenS x.sS) x.sn)+(x.wn+sumL x.wL x.wn)+(x.hn+sumL x.hL x.hn):=rfl;generalize e1:(1048576:Int) - x.pn - (sumL x.pL x.pn:Nat)=L1;generalize e2:L1 - x.sn - (sumL (lenS x.sS) x.sn:Nat)=L2;generalize e3:L2 - x.wn - (sumL x.wL x.wn:Nat)=L3;have n1:¬ L1<0:=by omega
 have n2:¬ L2<0:=by omega
 have n3:¬ L3<0:=by omega
 have n4:¬ L3 - x.hn - (sumL x.hL x.hn:Nat)<0:=by omega
 have q1:((x.pn:Int)+(sumL x.pL x.pn:Nat)<=1048576):=by omega
 have q2:((x.sn:Int)+(sumL (lenS x.sS) x.sn:Nat)<=L1)/\L1<=1048576:=by omega
 have q3:((x.wn:Int)+(sumL x.wL x.wn:Nat)<=L2)/\L2<=1048576:=by omega
 have q4:((x.hn:Int)+(sumL x.hL x.hn:Nat)<=L3)/\L3<=1048576:=by omega
 have e4:L3 - x.hn - (sumL x.hL x.hn:Nat)=1048576 - (x.size:Nat):=by omega
 have E1:Hid ((1048576:Int) - x.pn - (sumL x.pL x.pn:Nat)=L1):=e1;have E2:Hid (L1 - x.sn - (sumL (lenS x.sS) x.sn:Nat)=L2):=e2;have E3:Hid (L2 - x.wn - (sumL x.wL x.wn:Nat)=L3):=e3;have E4:Hid (L3 - x.hn - (sumL x.hL x.hn:Nat)=1048576 - (x.size:Nat)):=e4;have Q:Hid (((x.pn:Int)+(sumL x.pL x.pn:Nat)<=1048576)/\(((x.sn:Int)+(sumL (lenS x.sS) x.sn:Nat)<=L1)/\L1<=1048576)/\(((x.wn:Int)+(sumL x.wL x.wn:Nat)<=L2)/\L2<=1048576)/\(((x.hn:Int)+(sumL x.hL x.hn:Nat)<=L3)/\L3<=1048576)):=⟨q1,q2,q3,q4⟩
 rw [e4] at n4;clear hr h hh e1 e2 e3 e4 q1 q2 q3 q4
 go_enter Tryz.func17,Tryz.ntmps17
 go_wp2_with fail
 refine (qcv _ _ _ _ x.pL _ _ _ (HR.out.p.below (by go_grown)) Q.1 (Int.le_refl _)).mono ?_;rintro e w1 ⟨rfl,rfl⟩;rw [E1.out];go_wp2_with fail
 refine (qc7 _ _ _ x.sQ _ _ (HR.out.s.below (by go_grown)) Q.2.1.1 Q.2.1.2).mono ?_;rintro e w2 ⟨rfl,b2⟩;rw [show ((sumL (lenS fun i=>(x.sQ i).s) x.sn:Nat):Int)=(sumL (lenS x.sS) x.sn:Nat) from rfl,E2.out];have B2:Hid (Below w.heap.size w w2):=qai (by go_grown) b2 (by simp);have hw2:=b2.size;obtain ⟨hc2,hf2⟩:=qap b2;clear b2;go_wp2_with fail
 refine (qet _ _ _ _ x.wL _ _ _ (HR.out.w.below B2.out) Q.2.2.1.1 Q.2.2.1.2).mono ?_;rintro e w3 ⟨rfl,rfl⟩;rw [E3.out];go_wp2_with fail
 refine (qi0 _ _ _ _ x.hL _ _ _ (HR.out.h.below B2.out) Q.2.2.2.1 Q.2.2.2.2).mono ?_;rintro e w4 ⟨rfl,rfl⟩;rw [E4.out];go_wp2;go_ret;exact ⟨rfl,B2.out⟩
theorem qqv (x:SysIn) (w:World) (hr:x.Row w) (hm:x.Max) (h:1048576<x.size):
  Calls Tryz.prog 17 #[sysV x.pa x.pn x.pc x.sa x.sn x.sc x.wa x.wn x.wc x.ha x.hn x.hc,.int .i64 1048576] w fun e w'=>e=.returned (.int .i64 (-1))/\Below w.heap.size w w':=by
 have HR:Hid (x.Row w):=hr;have HM:Hid x.Max:=hm;have hh:x.size=x.pn+sumL x.pL x.pn+(x.sn+sumL (lenS x.sS) x.sn)+(x.wn+sumL x.wL x.wn)+(x.hn+sumL x.hL x.hn):=rfl;have HH:Hid (1048576<x.pn+sumL x.pL x.pn+(x.sn+sumL (lenS x.sS) x.sn)+(x.wn+sumL x.wL x.wn)+(x.hn+sumL x.hL x.hn)):=hh ▸ h;clear hr h hh hm;by_cases q1:(x.pn:Int)+(sumL x.pL x.pn:Nat)<=1048576
 case neg=>
  have Q1:Hid (1048576<(x.pn:Int)+(sumL x.pL x.pn:Nat)):=by show 1048576<_;omega
  clear q1
  go_enter Tryz.func17,Tryz.ntmps17
  go_wp2_with fail
  refine (ql1 _ _ _ _ x.pL _ _ _ (HR.out.p.below (by go_grown)) Q1.out (by omega) (Int.le_refl _) HM.out.p.1 HM.out.p.2).mono ?_;rintro e w1 ⟨rfl,rfl⟩;go_wp2;go_ret;exact ⟨rfl,by go_grown⟩
 generalize e1:(1048576:Int) - x.pn - (sumL x.pL x.pn:Nat)=L1;have E1:Hid ((1048576:Int) - x.pn - (sumL x.pL x.pn:Nat)=L1):=e1;have n1:¬ L1<0:=by omega
 have n1':0<=L1/\L1<=1048576:=by omega
 have N1:Hid (0<=L1/\L1<=1048576):=n1';have Q1:Hid ((x.pn:Int)+(sumL x.pL x.pn:Nat)<=1048576):=q1;by_cases q2:(x.sn:Int)+(sumL (lenS x.sS) x.sn:Nat)<=L1
 case neg=>
  have Q2:Hid (L1<(x.sn:Int)+(sumL (lenS x.sS) x.sn:Nat)):=by show L1<_;omega
  clear q1 q2 e1 n1'
  go_enter Tryz.func17,Tryz.ntmps17
  go_wp2_with fail
  refine (qcv _ _ _ _ x.pL _ _ _ (HR.out.p.below (by go_grown)) Q1.out (Int.le_refl _)).mono ?_;rintro e w1 ⟨rfl,rfl⟩;rw [E1.out];go_wp2_with fail
  refine (qjx _ _ _ x.sQ _ _ (HR.out.s.below (by go_grown)) Q2.out N1.1 N1.2 HM.out.s.1 HM.out.s.2).mono ?_;rintro e w2 ⟨rfl,b2⟩;have B2:Hid (Below w.heap.size w w2):=qai (by go_grown) b2 (by simp);go_wp2;go_ret;exact ⟨rfl,B2.out⟩
 generalize e2:L1 - x.sn - (sumL (lenS x.sS) x.sn:Nat)=L2;have E2:Hid (L1 - x.sn - (sumL (lenS x.sS) x.sn:Nat)=L2):=e2;have n2:¬ L2<0:=by omega
 have n2':0<=L2/\L2<=1048576:=by omega
 have N2:Hid (0<=L2/\L2<=1048576):=n2';have Q2:Hid ((x.sn:Int)+(sumL (lenS x.sS) x.sn:Nat)<=L1):=q2;by_cases q3:(x.wn:Int)+(sumL x.wL x.wn:Nat)<=L2
 case neg=>
  have Q3:Hid (L2<(x.wn:Int)+(sumL x.wL x.wn:Nat)):=by show L2<_;omega
  clear q1 q2 q3 e1 e2 n1' n2'
  go_enter Tryz.func17,Tryz.ntmps17
  go_wp2_with fail
  refine (qcv _ _ _ _ x.pL _ _ _ (HR.out.p.below (by go_grown)) Q1.out (Int.le_refl _)).mono ?_;rintro e w1 ⟨rfl,rfl⟩;rw [E1.out];go_wp2_with fail
  refine (qc7 _ _ _ x.sQ _ _ (HR.out.s.below (by go_grown)) Q2.out N1.2).mono ?_;rintro e w2 ⟨rfl,b2⟩;rw [show ((sumL (lenS fun i=>(x.sQ i).s) x.sn:Nat):Int)=(sumL (lenS x.sS) x.sn:Nat) from rfl,E2.out];have B2:Hid (Below w.heap.size w w2):=qai (by go_grown) b2 (by simp);have hw2:=b2.size;obtain ⟨hc2,hf2⟩:=qap b2;clear b2;go_wp2_with fail
  refine (qjw _ _ _ _ x.wL _ _ _ (HR.out.w.below B2.out) Q3.out N2.1 N2.2 HM.out.w.1 HM.out.w.2).mono ?_;rintro e w3 ⟨rfl,rfl⟩;go_wp2;go_ret;exact ⟨rfl,B2.out⟩
 generalize e3:L2 - x.wn - (sumL x.wL x.wn:Nat)=L3;have E3:Hid (L2 - x.wn - (sumL x.wL x.wn:Nat)=L3):=e3;have n3:¬ L3<0:=by omega
 have n3':0<=L3/\L3<=1048576:=by omega
 have N3:Hid (0<=L3/\L3<=1048576):=n3';have Q3:Hid ((x.wn:Int)+(sumL x.wL x.wn:Nat)<=L2):=q3
 have Q4:Hid (L3<(x.hn:Int)+(sumL x.hL x.hn:Nat)):=by
  show L3<_;have:=HH.out;omega
 clear q1 q2 q3 e1 e2 e3 n1' n2' n3' HH
 go_enter Tryz.func17,Tryz.ntmps17
 go_wp2_with fail
 refine (qcv _ _ _ _ x.pL _ _ _ (HR.out.p.below (by go_grown)) Q1.out (Int.le_refl _)).mono ?_;rintro e w1 ⟨rfl,rfl⟩;rw [E1.out];go_wp2_with fail
 refine (qc7 _ _ _ x.sQ _ _ (HR.out.s.below (by go_grown)) Q2.out N1.2).mono ?_;rintro e w2 ⟨rfl,b2⟩;rw [show ((sumL (lenS fun i=>(x.sQ i).s) x.sn:Nat):Int)=(sumL (lenS x.sS) x.sn:Nat) from rfl,E2.out];have B2:Hid (Below w.heap.size w w2):=qai (by go_grown) b2 (by simp);have hw2:=b2.size;obtain ⟨hc2,hf2⟩:=qap b2;clear b2;go_wp2_with fail
 refine (qet _ _ _ _ x.wL _ _ _ (HR.out.w.below B2.out) Q3.out N2.2).mono ?_;rintro e w3 ⟨rfl,rfl⟩;rw [E3.out];go_wp2_with fail
 refine (qiz _ _ _ _ x.hL _ _ _ (HR.out.h.below B2.out) Q4.out N3.1 N3.2 HM.out.h.1 HM.out.h.2).mono ?_;rintro e w4 ⟨rfl,rfl⟩;go_wp2;go_ret;exact ⟨rfl,B2.out⟩
structure qq6 (w:World) (lo hi:Nat) (x:SysIn) (v:Value) (D1 D2 D3 D4:Nat) (b1:Nat->Nat) (vs:Nat->Value) (b3 b4:Nat->Nat) (h1 h2 h3:Nat):Prop where
 val:v=sysV (some ⟨D1,0,none⟩) x.pn x.pn (some ⟨D2,0,none⟩) x.sn x.sn (some ⟨D3,0,none⟩) x.wn x.wn (some ⟨D4,0,none⟩) x.hn x.hn
 pp:qbk w D1 h1 x.pn x.pL b1 x.pH
 ss:qau w D2 h2 x.sn x.sS vs
 ww:qa3 w D3 h3 x.wn x.wL b3 x.wH
 hh:qaw w D4 hi x.hn x.hL b4 x.hH
 lo:lo<=D1
 o1:h1<=D2
 o2:h2<=D3
 o3:h3<=D4
def qcf (w:World) (lo hi:Nat) (x:SysIn) (v:Value):Prop:=∃ D1 D2 D3 D4 b1 vs b3 b4 h1 h2 h3,qq6 w lo hi x v D1 D2 D3 D4 b1 vs b3 b4 h1 h2 h3
theorem qq6.hi {w:World} {lo hi:Nat} {x:SysIn} {v:Value} {D1 D2 D3 D4:Nat} {b1:Nat->Nat} {vs:Nat->Value} {b3 b4:Nat->Nat} {h1 h2 h3:Nat} (o:qq6 w lo hi x v D1 D2 D3 D4 b1 vs b3 b4 h1 h2 h3):h1<=hi/\h2<=hi/\h3<=hi/\hi<=w.heap.size/\lo<hi:=by
 have:=o.pp.lt;have:=o.ss.lt;have:=o.ww.lt;have:=o.hh.lt;have:=o.lo;have:=o.o1;have:=o.o2;have:=o.o3;have:=o.hh.le;omega
theorem qcf.below {w w':World} {lo hi:Nat} {x:SysIn} {v:Value} {B:Nat} (o:qcf w lo hi x v) (hb:Below B w w') (hB:hi<=B):qcf w' lo hi x v:=by
 obtain ⟨D1,D2,D3,D4,b1,vs,b3,b4,h1,h2,h3,o⟩:=o;obtain ⟨q1,q2,q3,-,-⟩:=o.hi;exact ⟨D1,D2,D3,D4,b1,vs,b3,b4,h1,h2,h3,o.val,o.pp.below hb (by omega),o.ss.below hb (by omega),o.ww.below hb (by omega),o.hh.below hb hB,o.lo,o.o1,o.o2,o.o3⟩
def numL (h:Nat->I2):Nat->List Int
 | 0=>[]
 | n+1=>if (h n).m=true then numL h n else numL h n ++ [(h n).v]
theorem qgj (h:Nat->I2):∀ n,(numL h n).length<=n
 | 0=>Nat.le_refl _
 | n+1=>by
  unfold numL;have:=qgj h n
  split
  ·omega
  ·simp;omega
theorem qhv {h:Nat->I2} {n:Nat} (hh:(h n).m=false):numL h (n+1)=numL h n ++ [(h n).v]:=by
 rw [numL,if_neg (by rw [hh];decide)]
theorem qrt {h:Nat->I2} {n:Nat} (hh:(h n).m=true):numL h (n+1)=numL h n:=by
 rw [numL,if_pos hh]
theorem zT {w:World} {B:Nat} {e:TypeId} {sz:Nat} {v:Value} {n:Nat} {xs:List Value} (h:w.ownsRow B e sz v n xs):∃ a c,v=.slice a n c:=by
 rcases h.2 with ⟨rfl,rfl⟩ | ⟨g,cap,cur,rfl,_⟩
 ·exact ⟨none,0,rfl⟩
 ·exact ⟨_,_,rfl⟩
theorem qnm (a0:Option Addr) (n cap:Nat) (A:Nat->Option Addr) (L C:Nat->Nat) (H:Nat->Nat->I5) (w:World) (hn:n<=1048576) (hL:∀ i,i<n->L i<=1048576) (hr:RowS w a0 n fun i=>.slice (A i) (L i) (C i)) (hI:∀ i,i<n->Src w (A i) (fI (H i) (L i))):
  Calls Tryz.prog 106 #[.slice a0 n cap] w fun e w'=>∃ v u,e=.returned v/\LI true w' (fun k=>w.heap.size<=k/\k<w'.heap.size) v n u L H/\Below w.heap.size w w':=by
 have hn':(n:Int)<=1048576:=by omega
 have HR:Hid (RowS w a0 n fun i=>.slice (A i) (L i) (C i)):=hr;have HI:Hid (∀ i,i<n->Src w (A i) (fI (H i) (L i))):=hI;have HL:Hid (∀ i,i<n->L i<=1048576):=hL;clear hr hI hL
 go_enter Tryz.func106,Tryz.ntmps106
 go_wp2_with fail
 go_loopw [3,4] (fun v i wr=>∃ k:Nat,k<=n/\i=.int .i64 k/\Hid ((∃ u,LI true wr (fun b=>w.heap.size<=b/\b<wr.heap.size) v k u L H)/\Below w.heap.size w wr)) (fun _ i _=>n - (intOf i).toNat)
 case atStart=>exact ⟨0,Nat.zero_le _,rfl,⟨fun _=>.slice none 0 0,LL.new _ _ _ w _ (by simp) _ _ _⟩,zP _ _⟩
 case round=>
  obtain ⟨k,hk,rfl,HZ⟩:=hrel;by_cases hlt:k<n
  ·have hlt':(k:Int)<(n:Int):=by omega
   obtain ⟨b,off,rfl,ck⟩:=(HR.out.below HZ.2).at hlt;have hbl:b<wr.heap.size:=zJ wr _ ck;have HS:Hid (Src wr (A k) (fI (H k) (L k))):=(HI.out k hlt).below HZ.2;have HLk:Hid (L k<=1048576):=HL.out k hlt;have hk2:Hid (k<=2000000):=by show k<=2000000;omega
   obtain ⟨⟨u,oz⟩,bz⟩:=HZ.out;have OZ:Hid (LI true wr (fun b=>w.heap.size<=b/\b<wr.heap.size) u3 k u L H):=oz;have BZ:Hid (Below w.heap.size w wr):=bz;clear oz bz HZ
   go_wp2_with (first
    | (at_builtin;refine qa9 kndI wr rfl rfl _ _ rfl (A k) (L k) (C k) (fI (H k) (L k)) rfl rfl (qxi _ _) HS.out (qxj _ _) (zO HLk.out (by omega)) ?_;intro v4 w4 o4 b4 n4;obtain ⟨a4,c4,rfl⟩:=zT o4;have F4:Hid (w4.ownsRow wr.heap.size 184 5 (.slice a4 (L k) c4) (L k) (fI (H k) (L k))/\Below wr.heap.size wr w4/\Value.slice a4 (L k) c4≠.slice none 0 0):=⟨o4,b4,n4⟩;clear o4 b4 n4)
    | (at_builtin;refine qat qya w4 rfl rfl _ _ rfl 0 u3 k _ rfl (OZ.out.below F4.2.1).row #[.slice a4 (L k) c4] rfl rfl (by intro u hu;simp at hu;subst hu;rfl) hk2.out (Nat.zero_le _) ?_;intro v5 w5 o5 g5 q5 n5;have F5:Hid (LI true w5 (fun b=>w.heap.size<=b/\b<w5.heap.size) v5 (k+1) (fun j=>if j=k then .slice a4 (L k) c4 else u j) L H/\Below w.heap.size w w5):=⟨OZ.out.push F4.2.1 F4.1 (fun _=>F4.2.2) o5 g5 q5 (fun j hj _=>⟨hj.1,zL hj.2 (zO F4.2.1.size g5.size)⟩) (fun j hj hj'=>⟨zO BZ.out.size hj,hj'⟩),Below.grown (BZ.out.trans (F4.2.1.mono BZ.out.size)) g5 (zO BZ.out.size F4.2.1.size) (fun j hj=>(OZ.out.rb j hj).1)⟩;clear o5 g5 q5 n5))
   go_roundw
   case rel=>exact ⟨k+1,by omega,by go_num,⟨_,F5.1⟩,F5.2⟩
   case measure=>simp [intOf];omega
  ·have hkn:k=n:=by omega
   subst hkn;go_wp2;go_ret;obtain ⟨⟨u,oz⟩,bz⟩:=HZ.out;exact ⟨_,u,rfl,oz,bz⟩
theorem qdw (a0:Option Addr) (n cap:Nat) (A:Nat->Option Addr) (L C:Nat->Nat) (H:Nat->Nat->E3) (w:World) (hn:n<=1048576) (hL:∀ i,i<n->L i<=1048576) (hr:RowS w a0 n fun i=>.slice (A i) (L i) (C i)) (hI:∀ i,i<n->Src w (A i) (fE (H i) (L i))):
  Calls Tryz.prog 107 #[.slice a0 n cap] w fun e w'=>∃ v u,e=.returned v/\LE true w' (fun k=>w.heap.size<=k/\k<w'.heap.size) v n u L H/\Below w.heap.size w w':=by
 have hn':(n:Int)<=1048576:=by omega
 have HR:Hid (RowS w a0 n fun i=>.slice (A i) (L i) (C i)):=hr;have HI:Hid (∀ i,i<n->Src w (A i) (fE (H i) (L i))):=hI;have HL:Hid (∀ i,i<n->L i<=1048576):=hL;clear hr hI hL
 go_enter Tryz.func107,Tryz.ntmps107
 go_wp2_with fail
 go_loopw [3,4] (fun v i wr=>∃ k:Nat,k<=n/\i=.int .i64 k/\Hid ((∃ u,LE true wr (fun b=>w.heap.size<=b/\b<wr.heap.size) v k u L H)/\Below w.heap.size w wr)) (fun _ i _=>n - (intOf i).toNat)
 case atStart=>exact ⟨0,Nat.zero_le _,rfl,⟨fun _=>.slice none 0 0,LL.new _ _ _ w _ (by simp) _ _ _⟩,zP _ _⟩
 case round=>
  obtain ⟨k,hk,rfl,HZ⟩:=hrel;by_cases hlt:k<n
  ·have hlt':(k:Int)<(n:Int):=by omega
   obtain ⟨b,off,rfl,ck⟩:=(HR.out.below HZ.2).at hlt;have hbl:b<wr.heap.size:=zJ wr _ ck;have HS:Hid (Src wr (A k) (fE (H k) (L k))):=(HI.out k hlt).below HZ.2;have HLk:Hid (L k<=1048576):=HL.out k hlt;have hk2:Hid (k<=2000000):=by show k<=2000000;omega
   obtain ⟨⟨u,oz⟩,bz⟩:=HZ.out;have OZ:Hid (LE true wr (fun b=>w.heap.size<=b/\b<wr.heap.size) u3 k u L H):=oz;have BZ:Hid (Below w.heap.size w wr):=bz;clear oz bz HZ
   go_wp2_with (first
    | (at_builtin;refine qa9 kndE wr rfl rfl _ _ rfl (A k) (L k) (C k) (fE (H k) (L k)) rfl rfl (qxg _ _) HS.out (qxh _ _) (zO HLk.out (by omega)) ?_;intro v4 w4 o4 b4 n4;obtain ⟨a4,c4,rfl⟩:=zT o4;have F4:Hid (w4.ownsRow wr.heap.size 86 3 (.slice a4 (L k) c4) (L k) (fE (H k) (L k))/\Below wr.heap.size wr w4/\Value.slice a4 (L k) c4≠.slice none 0 0):=⟨o4,b4,n4⟩;clear o4 b4 n4)
    | (at_builtin;refine qat qwk w4 rfl rfl _ _ rfl 0 u3 k _ rfl (OZ.out.below F4.2.1).row #[.slice a4 (L k) c4] rfl rfl (by intro u hu;simp at hu;subst hu;rfl) hk2.out (Nat.zero_le _) ?_;intro v5 w5 o5 g5 q5 n5;have F5:Hid (LE true w5 (fun b=>w.heap.size<=b/\b<w5.heap.size) v5 (k+1) (fun j=>if j=k then .slice a4 (L k) c4 else u j) L H/\Below w.heap.size w w5):=⟨OZ.out.push F4.2.1 F4.1 (fun _=>F4.2.2) o5 g5 q5 (fun j hj _=>⟨hj.1,zL hj.2 (zO F4.2.1.size g5.size)⟩) (fun j hj hj'=>⟨zO BZ.out.size hj,hj'⟩),Below.grown (BZ.out.trans (F4.2.1.mono BZ.out.size)) g5 (zO BZ.out.size F4.2.1.size) (fun j hj=>(OZ.out.rb j hj).1)⟩;clear o5 g5 q5 n5))
   go_roundw
   case rel=>exact ⟨k+1,by omega,by go_num,⟨_,F5.1⟩,F5.2⟩
   case measure=>simp [intOf];omega
  ·have hkn:k=n:=by omega
   subst hkn;go_wp2;go_ret;obtain ⟨⟨u,oz⟩,bz⟩:=HZ.out;exact ⟨_,u,rfl,oz,bz⟩
theorem qb3 {ops:Array Oper} {o:Oper} {a:Act} {K:Act->World->Prop} {Q:Exit->Act->World->Prop} {E:Prop} {t e:TypeId} {size bytes:Nat} (KK:Kind t e size bytes) (w:World) (hg:o.guard=none) (s x:Operand)
  (ho:o.op=.call { callee:=.builtin .append,args:=#[s,x],argTypes:=#[t,t] })
  (B:Nat) (v:Value) (n:Nat) (xs:List Value) (hs:a.eval s=v) (hown:w.ownsRow B e size v n xs) (a0:Option Addr) (m c:Nat) (news:List Value) (hx:a.eval x=.slice a0 m c) (hl:news.length=m*size) (hsrc:Src w a0 news) (h1:∀ u ∈ news,u.oneCell'=true) (hnm:n+m<=4000000) (hB:B<=w.heap.size)
  (h:∀ v' w',w'.ownsRow B e size v' (n+m) (xs ++ news)->w.grownBy w' v.ownBlock->(v'.ownBlock=v.ownBlock\/v'.ownBlock=some w.heap.size)->(v≠.slice none 0 0\/0<m->v'≠.slice none 0 0)->K (a.put o.dst v') w'):
  if Region.wanted o (yielded ops a.tmps)=true then Oper.wp Tryz.prog o a w K Q else E:=by
 obtain ⟨v',w',r1,r2,r3,r4,r5⟩:=qep KK w o.type B v n xs hown a0 m c news hl hsrc h1 hnm hB;have hw:Region.wanted o (yielded ops a.tmps)=true:=by simp [Region.wanted,hg]
 rw [if_pos hw];unfold Oper.wp execOp;simp only [ho,resolve,invoke,builtin,Sem.run_bind,Sem.run_pure,Result.andThen_ok,List.map_toArray,List.map_cons,List.map_nil,hs,hx,r1];exact h v' w' r2 r3 r4 r5
theorem qdh {ops:Array Oper} {o:Oper} {a:Act} {K:Act->World->Prop} {Q:Exit->Act->World->Prop} {E:Prop} {t e:TypeId} {size bytes:Nat} (KK:Kind t e size bytes) (w:World) {N:Nat} (hN:N=w.heap.size) (hg:o.guard=none) (s x:Operand)
  (ho:o.op=.call { callee:=.builtin .append,args:=#[s,x],argTypes:=#[t,t] })
  (a0:Option Addr) (m c:Nat) (news:List Value) (hs:a.eval s=.slice (some ⟨N,0,none⟩) 0 0) (hx:a.eval x=.slice a0 m c) (hl:news.length=m*size) (hsrc:Src w a0 news) (h1:∀ u ∈ news,u.oneCell'=true) (hnm:m<=4000000)
  (h:∀ v' w',w'.ownsRow w.heap.size e size v' m news->Below w.heap.size w w'->v'≠.slice none 0 0->K (a.put o.dst v') w'):
  if Region.wanted o (yielded ops a.tmps)=true then Oper.wp Tryz.prog o a (w.alloc (.cells #[] e)) K Q else E:=by
 subst hN;have hb:Below w.heap.size w (w.alloc (.cells #[] e)):=zP _ _;refine qb3 KK _ hg s x ho w.heap.size (.slice (some ⟨w.heap.size,0,none⟩) 0 0) 0 [] hs (World.ownsRow_made (base:=w.heap.size) (e:=e) (size:=size) w #[] 0 (Nat.le_refl _) (by unfold maxLen;omega) (by simp)) a0 m c news hx hl (hsrc.below hb) h1 (by omega) (by simp) ?_;intro v' w' o g _ hne;rw [Nat.zero_add,List.nil_append] at o;exact h v' w' o (hb.grown g (by simp) (fun k hk=>by cases hk;exact Nat.le_refl _)) (hne (.inl (by simp)))
theorem qb4 {ops:Array Oper} {o:Oper} {a:Act} {K:Act->World->Prop} {Q:Exit->Act->World->Prop} {E:Prop} {t e:TypeId} {size bytes:Nat} (KK:Kind t e size bytes) (w:World) {N:Nat} (hN:N=w.heap.size) (hg:o.guard=none) (s x:Operand)
  (ho:o.op=.call { callee:=.builtin .append,args:=#[s,x],argTypes:=#[t,t] })
  (B:Nat) (v:Value) (n:Nat) (xs:List Value) (hs:a.eval s=v) (hown:w.ownsRow B e size v n xs) (cs:Array Value) (hx:a.eval x=.slice (some ⟨N,0,none⟩) 1 1) (hl:cs.size=size) (h1:∀ u ∈ cs.toList,u.oneCell'=true) (hn:n<=2000000) (hB:B<=w.heap.size)
  (h:∀ v' w',w'.ownsRow B e size v' (n+1) (xs ++ cs.toList)->w.grownBy w' v.ownBlock->(∀ j,v'.ownBlock=some j->v.ownBlock=some j\/w.heap.size<=j)->v'≠.slice none 0 0->K (a.put o.dst v') w'):
  if Region.wanted o (yielded ops a.tmps)=true then Oper.wp Tryz.prog o a (w.alloc (.cells cs e)) K Q else E:=by
 subst hN;have hb:Below w.heap.size w (w.alloc (.cells cs e)):=zP _ _;refine qb3 KK _ hg s x ho B v n xs hs (hown.alloc _) (some ⟨w.heap.size,0,none⟩) 1 1 cs.toList hx (by simp [hl]) (.inr ⟨w.heap.size,0,rfl,by simp,fun j u hj=>?_⟩) h1 (by omega) (by simp;omega) ?_
 ·rw [Nat.zero_add,zV _ _ _ j rfl]
  simpa using hj
 ·intro v' w' o g hbk hne
  refine h v' w' o ⟨g.os,g.tape,g.output,zO hb.size g.size,fun j hj hne=>(g.block j (zL hj hb.size) hne).trans (hb.block j hj)⟩ (fun j hj=>?_) (hne (.inr (by omega)))
  rcases hbk with a | a
  ·exact .inl (a.symm.trans hj)
  ·rw [hj] at a
   simp only [Option.some.injEq] at a;right;rw [a];simp
theorem qav {ops:Array Oper} {o:Oper} {a:Act} {w:World} {K:Act->World->Prop} {Q:Exit->Act->World->Prop} {E:Prop} (hg:o.guard=none) (f:FuncId) (args:Array Operand) (ts:Array TypeId)
  (ho:o.op=.call { callee:=.value (.func f),args:=args,argTypes:=ts }) (vals:Array Value) (hv:args.map a.eval=vals) (hen:∀ vs wx,(callFunc f vs).run Tryz.prog wx=.ok (.enter f vs) wx) {post:Ending->World->Prop} (hc:Calls Tryz.prog f vals w post)
  (h:∀ e w',post e w'->∃ v,e=.returned v/\K (a.put o.dst v) w'):
  if Region.wanted o (yielded ops a.tmps)=true then Oper.wp Tryz.prog o a w K Q else E:=by
 have hw:Region.wanted o (yielded ops a.tmps)=true:=by simp [Region.wanted,hg]
 rw [if_pos hw]
 have hr:(execOp a.eval o).run Tryz.prog w=.ok (.enter f vals) w:=by
  unfold execOp;simp [ho,resolve,invoke,hv,hen,Act.eval,Deferred.ofValue]
 unfold Oper.wp;rw [hr,Oper.upon_enter];refine hc.mono fun e w' hp=>?_;obtain ⟨v,rfl,hk⟩:=h e w' hp;exact hk
theorem Tryz.et : Tryz.prog.globalNamed "errors.errorType" = some 0 := by kernel_rfl
theorem Tryz.rt : (Tryz.prog.cutTypes.find? (·.1 == "internal/reflectlite.rtype")).map (·.2) = some 300 := by kernel_rfl
theorem Tryz.oneRow:((List.range 343).filter fun t=>Tryz.prog.rowNamed t [101,114,114,111,114])=[269]:=by kernel_rfl
theorem Tryz.tsize:Tryz.prog.types.size=343:=by kernel_rfl
theorem qja {W : World} (h : laidMetH Tryz.prog [("errors.errorType", Rows.laid_errors_errorType)] W) : W.cell? ⟨0, 0, none⟩ = some (.iface 300 (.agg #[.pointer (some ⟨1, 269, none⟩)])) := by
 have h' : laidMet Tryz.prog [] W /\ handlesMet Tryz.prog [("errors.errorType", Rows.laid_errors_errorType)] W := h
 obtain ⟨name,u,ty,e1,e2,e3,e4,e5⟩:=h'.2 _ (List.mem_singleton.2 rfl);have en:name=[101,114,114,111,114]:=(Option.some.inj e1).symm;subst en;obtain rfl:=Option.some.inj (Tryz.rt.symm.trans e2);have hm:ty ∈ (List.range 343).filter fun t=>Tryz.prog.rowNamed t [101,114,114,111,114]:=List.mem_filter.2 ⟨List.mem_range.2 (by rw [<- Tryz.tsize];exact e3),e4⟩;rw [Tryz.oneRow] at hm;obtain rfl:=List.mem_singleton.1 hm;have hh:typeHandle Tryz.prog 269=.pointer (some ⟨1,269,none⟩):=by kernel_rfl
 rw [hh] at e5;simpa using World.var?_cell Tryz.et e5 0
noncomputable def qnn (os:Os):World:=
 let w0:=World.holding Tryz.prog os ⟨#[],#[],[]⟩
 { w0 with heap := w0.heap.modify 0 fun
   | .cells _ t frozen=>.cells #[.iface 300 (.agg #[.pointer (some ⟨1,269,none⟩)])] t frozen
   | o=>o }
theorem qlc (os : Os) (args : Array Value) : laidMetH Tryz.prog [("errors.errorType", Rows.laid_errors_errorType)] ((qnn os).forCall (fun _ _ => 0) ⟨#[], args, []⟩).memory :=
 laidMetH_of_parts (laidMet_nil _ _) (by kernel_rfl)
