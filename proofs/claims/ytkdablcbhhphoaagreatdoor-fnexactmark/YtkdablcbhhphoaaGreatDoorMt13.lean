import Derived.Test.YtkdablcbhhphoaaGreatDoorMt10
import Derived.Test.YtkdablcbhhphoaaGreatDoorMt12
import Derived.Test.YtkdablcbhhphoaaGreatDoorTie
namespace Go.Proofs.YtkdablcbhhphoaaGreatDoor
open Go.Proofs.Tryz
set_option maxRecDepth 100000
set_option maxHeartbeats 2000000
open Go.ChangeShapes Go.WideShapes Go.ChangeAt Go.RowKit Go.Deep
theorem zP (w:World) (o:Obj):Below w.heap.size w (w.alloc o):=(nE _ _).alloc (nA _) _
def Src (w:World) (a0:Option Addr) (cs:List Value):Prop:=cs=[]\/∃ b off,a0=some ⟨b,off,none⟩/\b<w.heap.size/\∀ j u,cs[j]? = some u->w.cell? ⟨b,off+j,none⟩=some u
theorem Src.bw {w w':World} {a0:Option Addr} {cs:List Value} (h:Src w a0 cs) (hb:Below w.heap.size w w'):Src w' a0 cs:=by
 rcases h with h | ⟨b,off,e,hlt,hc⟩
 ·exact .inl h
 ·exact .inr ⟨b,off,e,zL hlt hb.size,fun j u hj=>(hb.cell (p:=⟨b,off+j,none⟩) hlt).trans (hc j u hj)⟩
structure Kind (t e:TypeId) (size bytes:Nat):Prop where
 und:prog.underlying t=some (.slice e)
 inf:∃ i z,prog.info? e=some i/\i.zero=some z/\i.size=size/\i.bytes=bytes/\z.cells.size=size
 pos:0<size
 sml:bytes<=128
theorem qev {t e:TypeId} {size bytes:Nat} (K:Kind t e size bytes) (w:World) (ty:TypeId) (B:Nat) (v:Value) (n:Nat) (xs:List Value) (hown:w.ownsRow B e size v n xs) (a0:Option Addr) (m c:Nat) (news:List Value) (hl:news.length=m*size) (hsrc:Src w a0 news) (h1:∀ u ∈ news,u.oneCell'=true) (hnm:n+m<=4000000) (hB:B<=w.heap.size):
  ∃ v' w',(Builtin.append_ #[t,t] ty #[v,.slice a0 m c]).run prog w=.ok v' w'/\w'.ownsRow B e size v' (n+m) (xs ++ news)/\w.grownBy w' v.ownBlock/\(v'.ownBlock=v.ownBlock\/v'.ownBlock=some w.heap.size)/\(v≠.slice none 0 0\/0<m->v'≠nS):=by
 obtain ⟨i,z,hi,hz,hs,hb,hzs⟩:=K.inf;have hby:(n+m)*bytes<=140737488355328:=zO (Nat.mul_le_mul hnm K.sml) (by omega);cases a0 with
 | none=>
  have hn0:news=[]:=by
   rcases hsrc with h | ⟨b,off,e,_⟩
   ·exact h
   ·cases e
  subst hn0
  have hm:m=0:=by
   have:=K.pos;simp only [List.length_nil] at hl
   rcases Nat.eq_zero_or_pos m with h | h
   ·exact h
   ·have:=Nat.mul_pos h K.pos
    omega
  subst hm;refine ⟨v,w,?_,by simpa using hown,World.grownBy.refl _ _,.inl rfl,fun h=>h.elim id fun h=>by omega⟩
  rcases hown.2 with ⟨rfl,_⟩ | ⟨g,cap,cur,rfl,_,_,hnc,_⟩
  ·simp [Builtin.append_,run_underlying K.und,sizeOf,typeInfo,hi,Builtin.lenOf,Builtin.firstCells]
  ·simp [Builtin.append_,run_underlying K.und,sizeOf,typeInfo,hi,Builtin.lenOf,Builtin.firstCells,hnc,storeCells]
 | some a=>
  have hnews:∀ j u,news[j]? = some u->w.cell? (a.add j)=some u:=by
   rcases hsrc with h0 | ⟨b,off,e,hlt,hc⟩
   ·subst h0
    intro j u hj;simp at hj
   ·cases e
    intro j u hj;have ha:Addr.add ⟨b,off,none⟩ j=⟨b,off+j,none⟩:=by unfold Addr.add;split <;> simp_all
    rw [ha];exact hc j u hj
  obtain ⟨v',w',r1,r2,r3,r4,r5⟩:=run_append_own_at (P:=prog) w B t ty e i z size bytes K.und hi hz hs hb hzs K.pos v n xs hown a m c news hl hnews h1 (by unfold maxLen;omega) hby hB;exact ⟨v',w',r1,r2,r3,r5,fun h e=>h.elim (fun h=>h (r4.1 e).1) fun h=>by have:=(r4.1 e).2;omega⟩
theorem qcg {ops:Array Oper} {rest:List Oper} {op:Oper} {act:Act} {Q:Exit->Act->World->Prop} {t e:TypeId} {size bytes:Nat} (K:Kind t e size bytes) (w:World) (hgd:op.guard=none) (s x:Operand)
  (ho:op.op=.call { callee:=.builtin .append,args:=#[s,x],argTypes:=#[t,t] })
  (B:Nat) (v:Value) (n:Nat) (xs:List Value) (hs:act.eval s=v) (hown:w.ownsRow B e size v n xs) (a0:Option Addr) (m c:Nat) (news:List Value) (hx:act.eval x=.slice a0 m c) (hl:news.length=m*size) (hsrc:Src w a0 news) (h1:∀ u ∈ news,u.oneCell'=true) (hnm:n+m<=4000000) (hB:B<=w.heap.size)
  (h:∀ v' w',w'.ownsRow B e size v' (n+m) (xs ++ news)->w.grownBy w' v.ownBlock->(v'.ownBlock=v.ownBlock\/v'.ownBlock=some w.heap.size)->(v≠.slice none 0 0\/0<m->v'≠nS)->wpList prog ops Q rest (act.put op.dst v') w'):
  wpList prog ops Q (op :: rest) act w:=by
 obtain ⟨v',w',r1,r2,r3,r4,r5⟩:=qev K w op.type B v n xs hown a0 m c news hl hsrc h1 hnm hB;refine wpList_plain hgd fun K hK=>?_;unfold Oper.wp execOp;simp only [ho,resolve,invoke,builtin,Sem.run_bind,Sem.run_pure,Result.andThen_ok,List.map_toArray,List.map_cons,List.map_nil,hs,hx,r1];exact hK _ _ (h v' w' r2 r3 r4 r5)
theorem qbc {ops:Array Oper} {rest:List Oper} {op:Oper} {act:Act} {Q:Exit->Act->World->Prop} {t e:TypeId} {size bytes:Nat} (K:Kind t e size bytes) (w:World) {N:Nat} (hN:N=w.heap.size) (hgd:op.guard=none) (s x:Operand)
  (ho:op.op=.call { callee:=.builtin .append,args:=#[s,x],argTypes:=#[t,t] })
  (a0:Option Addr) (m c:Nat) (news:List Value) (hs:act.eval s=.slice (some ⟨N,0,none⟩) 0 0) (hx:act.eval x=.slice a0 m c) (hl:news.length=m*size) (hsrc:Src w a0 news) (h1:∀ u ∈ news,u.oneCell'=true) (hnm:m<=4000000)
  (h:∀ v' w',w'.ownsRow w.heap.size e size v' m news->Below w.heap.size w w'->v'≠.slice none 0 0->wpList prog ops Q rest (act.put op.dst v') w'):
  wpList prog ops Q (op :: rest) act (w.alloc (.cells #[] e)):=by
 subst hN;have hb:Below w.heap.size w (w.alloc (.cells #[] e)):=zP _ _;refine qcg K _ hgd s x ho w.heap.size (sG w.heap.size 0 0) 0 [] hs (World.ownsRow_made (base:=w.heap.size) (e:=e) (size:=size) w #[] 0 (nA _) (by unfold maxLen;omega) (by simp)) a0 m c news hx hl (hsrc.bw hb) h1 (by omega) (by simp) ?_;intro v' w' o g _ hne;rw [nL,List.nil_append] at o;exact h v' w' o (hb.grown g (by simp) (fun k hk=>by cases hk;exact nA _)) (hne (.inl (by simp)))
theorem qau {ops:Array Oper} {rest:List Oper} {op:Oper} {act:Act} {Q:Exit->Act->World->Prop} {t e:TypeId} {size bytes:Nat} (K:Kind t e size bytes) (w:World) {N:Nat} (hN:N=w.heap.size) (hgd:op.guard=none) (s x:Operand)
  (ho:op.op=.call { callee:=.builtin .append,args:=#[s,x],argTypes:=#[t,t] })
  (B:Nat) (v:Value) (n:Nat) (xs:List Value) (hs:act.eval s=v) (hown:w.ownsRow B e size v n xs) (cs:Array Value) (hx:act.eval x=.slice (some ⟨N,0,none⟩) 1 1) (hl:cs.size=size) (h1:∀ u ∈ cs.toList,u.oneCell'=true) (hn:n<=2000000) (hB:B<=w.heap.size)
  (h:∀ v' w',w'.ownsRow B e size v' (n+1) (xs ++ cs.toList)->w.grownBy w' v.ownBlock->(∀ j,v'.ownBlock=some j->v.ownBlock=some j\/w.heap.size<=j)->v'≠.slice none 0 0->wpList prog ops Q rest (act.put op.dst v') w'):
  wpList prog ops Q (op :: rest) act (w.alloc (.cells cs e)):=by
 subst hN;have hb:Below w.heap.size w (w.alloc (.cells cs e)):=zP _ _;refine qcg K _ hgd s x ho B v n xs hs (hown.alloc _) (some ⟨w.heap.size,0,none⟩) 1 1 cs.toList hx (by simp [hl]) (.inr ⟨w.heap.size,0,rfl,by simp,fun j u hj=>?_⟩) h1 (by omega) (by simp;omega) ?_
 ·rw [nL,zV _ _ _ j rfl]
  simpa using hj
 ·intro v' w' o g hbk hne
  refine h v' w' o ⟨g.os,g.tape,g.output,zO hb.size g.size,fun j hj hne=>(g.block j (zL hj hb.size) hne).trans (hb.block j hj)⟩ (fun j hj=>?_) (hne (.inr (by omega)))
  rcases hbk with a | a
  ·exact .inl (a.symm.trans hj)
  ·rw [hj] at a
   simp only [nG] at a;right;rw [a];simp
def Nz (z:Bool) (e:TypeId):Prop:=z=true\/e=184
theorem nzI {z:Bool}:Nz z 184:=.inr rfl
theorem nzT (e:TypeId):Nz true e:=.inl rfl
structure LL (z:Bool) (e:TypeId) (sz:Nat) (E:TypeId) (w:World) (P:Nat->Prop) (v:Value) (n:Nat) (u:Nat->Value) (L:Nat->Nat) (c:Nat->List Value):Prop where
 row:w.ownsRow 0 E 1 v n ((List.range n).map u)
 own:∀ i,i<n->w.ownsRow 0 e sz (u i) (L i) (c i)
 rb:∀ k,v.ownBlock=some k->P k
 ob:∀ i,i<n->∀ k,(u i).ownBlock=some k->P k
 ra:∀ i,i<n->∀ k,(u i).ownBlock=some k->v.ownBlock≠some k
 oa:∀ i j,i<n->j<n->i≠j->∀ k,(u i).ownBlock=some k->(u j).ownBlock≠some k
 nn:Nz z e->∀ i,i<n->u i≠nS
theorem qab {w w':World} {B size n:Nat} {e:TypeId} {v:Value} {xs:List Value} (h:w.ownsRow B e size v n xs) (hb:∀ k,v.ownBlock=some k->w'.heap[k]? = w.heap[k]?):w'.ownsRow B e size v n xs:=by
 refine ⟨h.1,?_⟩
 rcases h.2 with hn | ⟨g,cap,cur,rfl,hB,hg,hr⟩
 ·exact .inl hn
 ·exact .inr ⟨g,cap,cur,rfl,hB,(hb g rfl).trans hg,hr⟩
theorem qlv {w:World} {B size n:Nat} {e:TypeId} {v:Value} {xs:List Value} (h:w.ownsRow B e size v n xs):w.ownsRow 0 e size v n xs:=h.mono (nD _)
section
variable {z:Bool} {e:TypeId} {sz:Nat} {E:TypeId} {w:World} {P:Nat->Prop} {v:Value} {n:Nat} {u:Nat->Value} {L:Nat->Nat} {c:Nat->List Value}
theorem LL.keep (o:LL z e sz E w P v n u L c) {w':World} (hb:∀ k,P k->k<w.heap.size->w'.heap[k]? = w.heap[k]?):LL z e sz E w' P v n u L c:=
 ⟨qab o.row fun k hk=>hb k (o.rb k hk) (o.row.lt k hk).2,fun i hi=>qab (o.own i hi) fun k hk=>hb k (o.ob i hi k hk) ((o.own i hi).lt k hk).2,o.rb,o.ob,o.ra,o.oa,o.nn⟩
theorem LL.bw (o:LL z e sz E w P v n u L c) {w':World} (hb:Below w.heap.size w w'):LL z e sz E w' P v n u L c:=o.keep fun k _ hk=>hb.block k hk
theorem LL.mono (o:LL z e sz E w P v n u L c) {P':Nat->Prop} (h:∀ k,P k->k<w.heap.size->P' k):LL z e sz E w P' v n u L c:=
 ⟨o.row,o.own,fun k hk=>h k (o.rb k hk) (o.row.lt k hk).2,fun i hi k hk=>h k (o.ob i hi k hk) ((o.own i hi).lt k hk).2,o.ra,o.oa,o.nn⟩
theorem LL.pushG (o:LL z e sz E w P v n u L c) {w1 w2:World} {u' v':Value} (hsz:w.heap.size<=w1.heap.size) (hb:∀ k,P k->k<w.heap.size->w1.heap[k]? = w.heap[k]?) (hu:w1.ownsRow w.heap.size e sz u' (L n) (c n)) (hne:Nz z e->u'≠nS) (hv:w2.ownsRow 0 E 1 v' (n+1) ((List.range n).map u ++ [u'])) (g:w1.grownBy w2 v.ownBlock)
  (hv':∀ j,v'.ownBlock=some j->v.ownBlock=some j\/w1.heap.size<=j) {P':Nat->Prop} (hP:∀ k,P k->k<w.heap.size->P' k) (hP':∀ k,w.heap.size<=k->k<w2.heap.size->P' k):LL z e sz E w2 P' v' (n+1) (fun j=>if j=n then u' else u j) L c:=by
 have hvlt:∀ k,v.ownBlock=some k->k<w.heap.size:=fun k hk=>(o.row.lt k hk).2
 have hu2 : w2.ownsRow w.heap.size e sz u' (L n) (c n) := hu.kept g (by
  cases hk:u'.ownBlock with
  | none=>exact .inl rfl
  | some k=>
   refine .inr fun e=>?_;have q1:=(hu.lt k hk).1;have q2:=hvlt k e.symm
   omega)
 have ho2:∀ i,i<n->w2.ownsRow 0 e sz (u i) (L i) (c i):=fun i hi=>qab (o.own i hi) fun k hk=>(g.block k (zL ((o.own i hi).lt k hk).2 hsz) fun e=>o.ra i hi k hk e.symm).trans (hb k (o.ob i hi k hk) ((o.own i hi).lt k hk).2);have lts:∀ i,i<n->∀ k,(u i).ownBlock=some k->k<w.heap.size:=fun i hi k hk=>((o.own i hi).lt k hk).2;refine ⟨?_,fun i hi=>?_,fun k hk=>?_,fun i hi k hk=>?_,fun i hi k hk=>?_,fun i j hi hj hij k hk=>?_,fun hz i hi=>?_⟩
 ·have e:(List.range (n+1)).map (fun j=>if j=n then u' else u j)=(List.range n).map u ++ [u']:=by
   rw [List.range_succ,List.map_append];simp only [List.map_cons,List.map_nil,nQ]
   congr 1
   exact List.map_congr_left fun j hj=>by
    rw [nB];have:=List.mem_range.1 hj;omega
  rw [e];exact hv
 ·by_cases ei:i=n
  ·subst ei
   rw [nC rfl];exact qlv hu2
  ·rw [nB ei]
   exact ho2 i (by omega)
 ·rcases hv' k hk with h | h
  ·exact hP k (o.rb k h) (hvlt k h)
  ·exact hP' k (zO hsz h) (hv.lt k hk).2
 ·by_cases ei:i=n
  ·simp only [nC ei] at hk
   exact hP' k (hu.lt k hk).1 (hu2.lt k hk).2
  ·simp only [nB ei] at hk
   exact hP k (o.ob i (by omega) k hk) (lts i (by omega) k hk)
 ·intro hvk
  by_cases ei:i=n
  ·simp only [nC ei] at hk
   rcases hv' k hvk with h | h
   ·have:=hvlt k h
    have:=(hu.lt k hk).1;omega
   ·have:=(hu.lt k hk).2
    omega
  ·simp only [nB ei] at hk
   rcases hv' k hvk with h | h
   ·exact o.ra i (by omega) k hk h
   ·have:=lts i (by omega) k hk
    omega
 ·intro hjk
  by_cases ei:i=n
  ·have ej:j≠n:=fun e=>hij (by omega)
   simp only [nC ei] at hk;simp only [nB ej] at hjk;have:=lts j (by omega) k hjk;have:=(hu.lt k hk).1;omega
  ·simp only [nB ei] at hk
   by_cases ej:j=n
   ·simp only [nC ej] at hjk
    have:=lts i (by omega) k hk;have:=(hu.lt k hjk).1;omega
   ·simp only [nB ej] at hjk
    exact o.oa i j (by omega) (by omega) hij k hk hjk
 ·by_cases ei:i=n
  ·rw [nC ei]
   exact hne hz
  ·rw [nB ei]
   exact o.nn hz i (by omega)
theorem LL.push (o:LL z e sz E w P v n u L c) {w1 w2:World} {u' v':Value} (b1:Below w.heap.size w w1) (hu:w1.ownsRow w.heap.size e sz u' (L n) (c n)) (hne:Nz z e->u'≠nS) (hv:w2.ownsRow 0 E 1 v' (n+1) ((List.range n).map u ++ [u'])) (g:w1.grownBy w2 v.ownBlock)
  (hv':∀ j,v'.ownBlock=some j->v.ownBlock=some j\/w1.heap.size<=j) {P':Nat->Prop} (hP:∀ k,P k->k<w.heap.size->P' k) (hP':∀ k,w.heap.size<=k->k<w2.heap.size->P' k):LL z e sz E w2 P' v' (n+1) (fun j=>if j=n then u' else u j) L c:=
 o.pushG b1.size (fun k _ hk=>b1.block k hk) hu hne hv g hv' hP hP'
theorem LL.nil (e:TypeId) (sz:Nat) (E:TypeId) (w:World) (P:Nat->Prop) (u:Nat->Value) (L:Nat->Nat) (c:Nat->List Value):LL z e sz E w P nS 0 u L c:=
 ⟨World.ownsRow_nil _ _ _ _,fun i hi=>(by omega),fun k hk=>(by cases hk),fun i hi=>(by omega),fun i hi=>(by omega),fun i j hi=>(by omega),fun _ i hi=>by omega⟩
theorem LL.new (e:TypeId) (sz:Nat) (E:TypeId) (w:World) (P:Nat->Prop) (hP:P w.heap.size) (u:Nat->Value) (L:Nat->Nat) (c:Nat->List Value):LL z e sz E (w.alloc (.cells #[] E)) P (sG w.heap.size 0 0) 0 u L c:=
 ⟨World.ownsRow_made (base:=0) (e:=E) (size:=1) w #[] 0 (nD _) (by unfold maxLen;omega) rfl,fun i hi=>(by omega),fun k hk=>(by cases hk;exact hP),fun i hi=>(by omega),fun i hi=>(by omega),fun i j hi=>(by omega),fun _ i hi=>by omega⟩
theorem LL.cell (o:LL z e sz E w P v n u L c) {i:Nat} (hi:i<n):∃ g cap,v=.slice (some ⟨g,0,none⟩) n cap/\P g/\g<w.heap.size/\w.cell? ⟨g,i,none⟩=some (u i)/\∀ j,w.frozen? ⟨g,j,none⟩=false:=by
 rcases o.row.2 with ⟨_,h0⟩ | ⟨g,cap,cur,rfl,hb,hg,hr⟩
 ·omega
 ·refine ⟨g,cap,rfl,o.rb g rfl,(o.row.lt g rfl).2,?_,fun j=>o.row.frozenAt j⟩
  rw [o.row.cellAt i (by omega)];simp [hi]
theorem LL.put {g cap:Nat} (o:LL z e sz E w P (sG g n cap) n u L c) {i:Nat} (hi:i<n) {w1:World} {u':Value} {m:Nat} {c':List Value} (_hs:w.heap.size<=w1.heap.size) (g1:∀ k,k<w.heap.size->(u i).ownBlock≠some k->w1.heap[k]? = w.heap[k]?)
  (hu:w1.ownsRow 0 e sz u' m c') (hne:Nz z e->u'≠nS) (hb:∀ k,u'.ownBlock=some k->(u i).ownBlock=some k\/w.heap.size<=k) {P':Nat->Prop} (hP:∀ k,P k->k<w.heap.size->P' k) (hP':∀ k,w.heap.size<=k->k<w1.heap.size->P' k):
  LL z e sz E (w1.setCell ⟨g,i,none⟩ u') P' (sG g n cap) n (fun j=>if j=i then u' else u j) (fun j=>if j=i then m else L j) (fun j=>if j=i then c' else c j):=by
 have hg:g<w.heap.size:=(o.row.lt g rfl).2;have hgi:(u i).ownBlock≠some g:=fun e=>o.ra i hi g e rfl
 have row1:w1.ownsRow 0 E 1 (sG g n cap) n ((List.range n).map u):=qab o.row fun k hk=>by
  cases hk;exact g1 g hg hgi
 have hu'g:u'.ownBlock≠some g:=fun e=>by
  rcases hb g e with h | h
  ·exact hgi h
  ·omega
 have lts:∀ j,j<n->∀ k,(u j).ownBlock=some k->k<w.heap.size:=fun j hj k hk=>((o.own j hj).lt k hk).2;refine ⟨?_,fun j hj=>?_,fun k hk=>?_,fun j hj k hk=>?_,fun j hj k hk=>?_,fun a b ha hb' hab k hk=>?_,fun hz j hj=>?_⟩
 ·have h:=(World.ownsRow.stored row1 i u').1
  have e:(List.range n).map (fun j=>if j=i then u' else u j)=((List.range n).map u).set i u':=by
   apply List.ext_getElem (by simp);intro j h1 h2;simp only [List.getElem_map,List.getElem_range,List.getElem_set];by_cases q:j=i
   ·rw [nC q,nC q.symm]
   ·rw [nB q,nB fun e=>q e.symm]
  rw [e];exact h
 ·by_cases ej:j=i
  ·subst ej
   simp only [nQ];exact ownsRow_setCell_other hu hu'g _
  ·simp only [nB ej]
   refine ownsRow_setCell_other (qab (o.own j hj) fun k hk=>g1 k (lts j hj k hk) fun e=>o.oa j i hj hi ej k hk e) (fun e=>o.ra j hj g e rfl) _
 ·cases hk
  exact hP g (o.rb g rfl) hg
 ·by_cases ej:j=i
  ·simp only [nC ej] at hk
   rcases hb k hk with h | h
   ·exact hP k (o.ob i hi k h) (lts i hi k h)
   ·exact hP' k h (hu.lt k hk).2
  ·simp only [nB ej] at hk
   exact hP k (o.ob j hj k hk) (lts j hj k hk)
 ·intro hvk
  cases hvk;by_cases ej:j=i
  ·simp only [nC ej] at hk
   exact hu'g hk
  ·simp only [nB ej] at hk
   exact o.ra j hj g hk rfl
 ·intro hbk
  by_cases ea:a=i
  ·have eb:b≠i:=fun e=>hab (by omega)
   simp only [nC ea] at hk;simp only [nB eb] at hbk
   rcases hb k hk with h | h
   ·exact o.oa b i hb' hi eb k hbk h
   ·have:=lts b hb' k hbk
    omega
  ·simp only [nB ea] at hk
   by_cases eb:b=i
   ·simp only [nC eb] at hbk
    rcases hb k hbk with h | h
    ·exact o.oa a i ha hi ea k hk h
    ·have:=lts a ha k hk
     omega
   ·simp only [nB eb] at hbk
    exact o.oa a b ha hb' hab k hk hbk
 ·by_cases ej:j=i
  ·simp only [nC ej]
   exact hne hz
  ·simp only [nB ej]
   exact o.nn hz j hj
end
def flat (f:Nat->List Value):Nat->List Value
 | 0=>[]
 | n+1=>flat f n ++ f n
theorem qbh {f:Nat->List Value} {sz:Nat}:∀ {n:Nat},(∀ i,i<n->(f i).length=sz)->(flat f n).length=n*sz
 | 0,_=>by simp [flat]
 | n+1,h=>by
  rw [flat,List.length_append,qbh (fun i hi=>h i (by omega)),h n (by omega),Nat.add_mul,Nat.one_mul]
theorem qbp {f:Nat->List Value} {sz:Nat}:∀ {n:Nat},(∀ i,i<n->(f i).length=sz)->∀ {i j:Nat},i<n->j<sz->(flat f n)[i*sz+j]? = (f i)[j]?
 | 0,_,i,j,hi,_=>by omega
 | n+1,h,i,j,hi,hj=>by
  have hl:=qbh (f:=f) (sz:=sz) (n:=n) fun i hi=>h i (by omega);by_cases e:i=n
  ·subst e
   rw [flat,List.getElem?_append_right (by omega),hl]
   congr 1
   omega
  ·have:i*sz+sz<=n*sz:=by
    have:=Nat.mul_le_mul_right sz (show i+1<=n by omega);rw [Nat.add_mul,Nat.one_mul] at this;exact this
   rw [flat,List.getElem?_append_left (by omega)];exact qbp (fun i hi=>h i (by omega)) (by omega) hj
theorem qhx {f:Nat->List Value}:∀ {n:Nat},(∀ i,i<n->∀ u ∈ f i,u.oneCell'=true)->∀ u ∈ flat f n,u.oneCell'=true
 | 0,_,u,hu=>by simp [flat] at hu
 | n+1,h,u,hu=>by
  rw [flat,List.mem_append] at hu
  rcases hu with hu | hu
  ·exact qhx (fun i hi=>h i (by omega)) u hu
  ·exact h n (by omega) u hu
theorem qa2 {f g:Nat->List Value}:∀ {n:Nat},(∀ i,i<n->f i=g i)->flat f n=flat g n
 | 0,_=>rfl
 | n+1,h=>by rw [flat,flat,qa2 fun i hi=>h i (by omega),h n (by omega)]
theorem quw {f:Nat->List Value} {n i:Nat} (hl:∀ j,j<n->(f j).length=4) (hi:i<n) (a b c d:Value):
  flat (fun j=>if j=i then [a,b,c,d] else f j) n=((((flat f n).set (i*4) a).set (i*4+1) b).set (i*4+2) c).set (i*4+3) d:=by
 have hl':∀ j,j<n->((fun j=>if j=i then [a,b,c,d] else f j) j).length=4:=fun j hj=>by
  by_cases e:j=i
  ·simp [e]
  ·simp [e,hl j hj]
 have n1:=qbh hl;have n2:=qbh hl';apply List.ext_getElem?;intro q;by_cases hq:q<n*4
 ·have hk:q / 4<n:=by omega
  have hr:q % 4<4:=by omega
  have e:q=q / 4*4+q % 4:=by omega
  have e1:=qbp hl' hk hr;have e2:=qbp hl hk hr;rw [<- e] at e1 e2;rw [e1];by_cases ei:q / 4=i
  ·simp only [nC ei]
   have hr4:q % 4=0\/q % 4=1\/q % 4=2\/q % 4=3:=by omega
   rcases hr4 with h | h | h | h <;> rw [h] <;>
    (simp only [List.getElem?_set, List.length_set, n1]
     have:i<n:=hi
     repeat (first | rw [nC (by omega)] | rw [nB (by omega)])
     simp)
  ·simp only [nB ei]
   simp only [List.getElem?_set,List.length_set,n1];rw [nB (by omega),nB (by omega),nB (by omega),nB (by omega),e2]
 ·rw [List.getElem?_eq_none (by omega),List.getElem?_eq_none (by simp only [List.length_set];omega)]
def cellsL:Value->List Value
 | .agg a=>a.toList
 | _=>[]
theorem qag.cellsL {w:World} {B:Nat} {v:Value} {p code:Int} {rs os:List Int} (h:qag w B v p rs os code):(cellsL v).length=4/\∀ u ∈ cellsL v,u.oneCell'=true:=by
 obtain ⟨vr,vo,rfl,h1,h2,-⟩:=h;obtain ⟨a1,c1,rfl,-⟩:=h1.form;obtain ⟨a2,c2,rfl,-⟩:=h2.form;refine ⟨rfl,fun u hu=>?_⟩;simp [Go.Proofs.YtkdablcbhhphoaaGreatDoor.cellsL] at hu
 rcases hu with rfl | rfl | rfl | rfl <;> rfl
structure LS (w:World) (P:Nat->Prop) (v:Value) (n:Nat) (vs:Nat->Value) (S:Nat->S4):Prop where
 row:w.ownsRow 0 142 4 v n (flat (fun i=>cellsL (vs i)) n)
 own:∀ i,i<n->qag w 0 (vs i) (S i).p (S i).rs (S i).os (S i).c
 rb:∀ k,v.ownBlock=some k->P k
 ob:∀ i,i<n->∀ k,qae (vs i) k->P k
 ra:∀ i,i<n->∀ k,qae (vs i) k->v.ownBlock≠some k
 oa:∀ i j,i<n->j<n->i≠j->∀ k,qae (vs i) k->¬ qae (vs j) k
section
variable {w:World} {P:Nat->Prop} {v:Value} {n:Nat} {vs:Nat->Value} {S:Nat->S4}
theorem LS.keep (o:LS w P v n vs S) {w':World} (hb:∀ k,P k->k<w.heap.size->w'.heap[k]? = w.heap[k]?):LS w' P v n vs S:=
 ⟨qab o.row fun k hk=>hb k (o.rb k hk) (o.row.lt k hk).2,fun i hi=>(o.own i hi).blk fun k hk=>hb k (o.ob i hi k hk) ((o.own i hi).lt hk).2,o.rb,o.ob,o.ra,o.oa⟩
theorem LS.bw (o:LS w P v n vs S) {w':World} (hb:Below w.heap.size w w'):LS w' P v n vs S:=o.keep fun k _ hk=>hb.block k hk
theorem LS.mono (o:LS w P v n vs S) {P':Nat->Prop} (h:∀ k,P k->k<w.heap.size->P' k):LS w P' v n vs S:=
 ⟨o.row,o.own,fun k hk=>h k (o.rb k hk) (o.row.lt k hk).2,fun i hi k hk=>h k (o.ob i hi k hk) ((o.own i hi).lt hk).2,o.ra,o.oa⟩
theorem LS.nil (w:World) (P:Nat->Prop) (vs:Nat->Value) (S:Nat->S4):LS w P nS 0 vs S:=
 ⟨World.ownsRow_nil _ _ _ _,fun i hi=>(by omega),fun k hk=>(by cases hk),fun i hi=>(by omega),fun i hi=>(by omega),fun i j hi=>(by omega)⟩
theorem LS.push (o:LS w P v n vs S) {w1 w2:World} {u' v':Value} (b1:Below w.heap.size w w1) (hu:qag w1 w.heap.size u' (S n).p (S n).rs (S n).os (S n).c) (hv:w2.ownsRow 0 142 4 v' (n+1) (flat (fun i=>cellsL (vs i)) n ++ cellsL u')) (g:w1.grownBy w2 v.ownBlock)
  (hv':∀ j,v'.ownBlock=some j->v.ownBlock=some j\/w1.heap.size<=j) {P':Nat->Prop} (hP:∀ k,P k->k<w.heap.size->P' k) (hP':∀ k,w.heap.size<=k->k<w2.heap.size->P' k):LS w2 P' v' (n+1) (fun j=>if j=n then u' else vs j) S:=by
 have hvlt:∀ k,v.ownBlock=some k->k<w.heap.size:=fun k hk=>(o.row.lt k hk).2;have lts:∀ i,i<n->∀ k,qae (vs i) k->k<w.heap.size:=fun i hi k hk=>((o.own i hi).lt hk).2
 have hu2:qag w2 w.heap.size u' (S n).p (S n).rs (S n).os (S n).c:=hu.blk fun k hk=>g.block k (hu.lt hk).2 fun e=>by
  have q1:=(hu.lt hk).1;have q2:=hvlt k e.symm;omega
 have ho2:∀ i,i<n->qag w2 0 (vs i) (S i).p (S i).rs (S i).os (S i).c:=fun i hi=>(o.own i hi).blk fun k hk=>(g.block k (zL (lts i hi k hk) b1.size) fun e=>o.ra i hi k hk e.symm).trans (b1.block k (lts i hi k hk));refine ⟨?_,fun i hi=>?_,fun k hk=>?_,fun i hi k hk=>?_,fun i hi k hk=>?_,fun i j hi hj hij k hk=>?_⟩
 ·have e:flat (fun i=>cellsL (if i=n then u' else vs i)) (n+1)=flat (fun i=>cellsL (vs i)) n ++ cellsL u':=by
   rw [flat,nC rfl]
   congr 1
   exact qa2 fun i hi=>by rw [nB (by omega)]
  rw [e];exact hv
 ·by_cases ei:i=n
  ·subst ei
   simp only [nQ];exact hu2.mono (nD _)
  ·simp only [nB ei]
   exact ho2 i (by omega)
 ·rcases hv' k hk with h | h
  ·exact hP k (o.rb k h) (hvlt k h)
  ·exact hP' k (zO b1.size h) (hv.lt k hk).2
 ·by_cases ei:i=n
  ·simp only [nC ei] at hk
   exact hP' k (hu.lt hk).1 (hu2.lt hk).2
  ·simp only [nB ei] at hk
   exact hP k (o.ob i (by omega) k hk) (lts i (by omega) k hk)
 ·intro hvk
  by_cases ei:i=n
  ·simp only [nC ei] at hk
   rcases hv' k hvk with h | h
   ·have:=hvlt k h
    have:=(hu.lt hk).1;omega
   ·have:=(hu.lt hk).2
    omega
  ·simp only [nB ei] at hk
   rcases hv' k hvk with h | h
   ·exact o.ra i (by omega) k hk h
   ·have:=lts i (by omega) k hk
    have:=b1.size;omega
 ·intro hjk
  by_cases ei:i=n
  ·have ej:j≠n:=fun e=>hij (by omega)
   simp only [nC ei] at hk;simp only [nB ej] at hjk;have:=lts j (by omega) k hjk;have:=(hu.lt hk).1;omega
  ·simp only [nB ei] at hk
   by_cases ej:j=n
   ·simp only [nC ej] at hjk
    have:=lts i (by omega) k hk;have:=(hu.lt hjk).1;omega
   ·simp only [nB ej] at hjk
    exact o.oa i j (by omega) (by omega) hij k hk hjk
theorem LS.cell (o:LS w P v n vs S) {i:Nat} (hi:i<n):∃ g cap,v=.slice (some ⟨g,0,none⟩) n cap/\P g/\g<w.heap.size/\Cel4 w g (i*4) (S i) (vs i)/\∀ j,w.frozen? ⟨g,j,none⟩=false:=by
 have hr:=o.row
 rcases hr.2 with ⟨_,h0⟩ | ⟨g,cap,cur,rfl,hb,hg,hcap,_⟩
 ·omega
 ·refine ⟨g,cap,rfl,o.rb g rfl,(o.row.lt g rfl).2,?_,fun j=>o.row.frozenAt j⟩
  have hl:∀ j,j<n->(cellsL (vs j)).length=4:=fun j hj=>(o.own j hj).cellsL.1
  have hc:∀ j,j<4->w.cell? ⟨g,i*4+j,none⟩=(cellsL (vs i))[j]?:=fun j hj=>by
   rw [o.row.cellAt (i*4+j) (by omega)];exact qbp hl hi hj
  obtain ⟨vr,vo,e,h1,h2,-⟩:=o.own i hi;obtain ⟨a1,c1,rfl,-⟩:=h1.form;obtain ⟨a2,c2,rfl,-⟩:=h2.form;rw [e] at hc;exact ⟨a1,c1,a2,c2,e,hc 0 (by omega),hc 1 (by omega),hc 2 (by omega),hc 3 (by omega)⟩
theorem LS.put {g cap:Nat} (o:LS w P (sG g n cap) n vs S) {i:Nat} (hi:i<n) {w1:World} {ra oa:Option Addr} {rn rc on oc:Nat} {p code:Int} {T:S4} (b1:Below w.heap.size w w1) (hu:qag w1 w.heap.size (stV p ra rn rc oa on oc code) T.p T.rs T.os T.c)
  {P':Nat->Prop} (hP:∀ k,P k->k<w.heap.size->P' k) (hP':∀ k,w.heap.size<=k->k<w1.heap.size->P' k):
  LS ((((w1.setCell ⟨g,i*4,none⟩ (.int .i64 p)).setCell ⟨g,i*4+1,none⟩ (.slice ra rn rc)).setCell ⟨g,i*4+2,none⟩ (.slice oa on oc)).setCell ⟨g,i*4+3,none⟩ (.int .i64 code)) P' (sG g n cap) n (fun j=>if j=i then stV p ra rn rc oa on oc code else vs j) (fun j=>if j=i then T else S j):=by
 have hg:g<w.heap.size:=(o.row.lt g rfl).2;have lts:∀ j,j<n->∀ k,qae (vs j) k->k<w.heap.size:=fun j hj k hk=>((o.own j hj).lt hk).2;have hbk:∀ k,k≠g->((((w1.setCell ⟨g,i*4,none⟩ (.int .i64 p)).setCell ⟨g,i*4+1,none⟩ (.slice ra rn rc)).setCell ⟨g,i*4+2,none⟩ (.slice oa on oc)).setCell ⟨g,i*4+3,none⟩ (.int .i64 code)).heap[k]? = w1.heap[k]?:=fun k hne=>(zN _ _ _ _ hne).trans ((zN _ _ _ _ hne).trans ((zN _ _ _ _ hne).trans (zN _ _ _ _ hne)));refine ⟨?_,fun j hj=>?_,fun k hk=>?_,fun j hj k hk=>?_,fun j hj k hk=>?_,fun a b ha hb hab k hk=>?_⟩
 ·have hl:∀ j,j<n->(cellsL (vs j)).length=4:=fun j hj=>(o.own j hj).cellsL.1
  have e:flat (fun j=>cellsL (if j=i then stV p ra rn rc oa on oc code else vs j)) n=flat (fun j=>if j=i then [.int .i64 p,.slice ra rn rc,.slice oa on oc,.int .i64 code] else cellsL (vs j)) n:=qa2 fun j _=>by
   by_cases ej:j=i
   ·rw [nC ej,nC ej];rfl
   ·rw [nB ej,nB ej]
  rw [e,quw hl hi];exact (World.ownsRow.stored (World.ownsRow.stored (World.ownsRow.stored (World.ownsRow.stored (qab o.row fun k hk=>by cases hk;exact b1.block g hg) _ _).1 _ _).1 _ _).1 _ _).1
 ·by_cases ej:j=i
  ·subst ej
   simp only [nQ];refine (hu.mono (nD _)).blk fun k hk=>hbk k ?_;have:=(hu.lt hk).1;omega
  ·simp only [nB ej]
   refine (o.own j hj).blk fun k hk=>(hbk k fun e=>?_).trans (b1.block k (lts j hj k hk));exact o.ra j hj k hk (by rw [e];rfl)
 ·cases hk
  exact hP g (o.rb g rfl) hg
 ·by_cases ej:j=i
  ·simp only [nC ej] at hk
   exact hP' k (hu.lt hk).1 (hu.lt hk).2
  ·simp only [nB ej] at hk
   exact hP k (o.ob j hj k hk) (lts j hj k hk)
 ·intro hvk
  by_cases ej:j=i
  ·simp only [nC ej] at hk
   have:=(hu.lt hk).1;have hkg:g=k:=by simpa [Value.ownBlock] using hvk
   omega
  ·simp only [nB ej] at hk
   exact o.ra j hj k hk hvk
 ·intro hbk'
  by_cases ea:a=i
  ·have eb:b≠i:=fun e=>hab (by omega)
   simp only [nC ea] at hk;simp only [nB eb] at hbk';have:=lts b hb k hbk';have:=(hu.lt hk).1;omega
  ·simp only [nB ea] at hk
   by_cases eb:b=i
   ·simp only [nC eb] at hbk'
    have:=lts a ha k hk;have:=(hu.lt hbk').1;omega
   ·simp only [nB eb] at hbk'
    exact o.oa a b ha hb hab k hk hbk'
end
def ItL (w:World) (a:Option Addr) (len:Nat) (h:Nat->I2):Prop:=len=0\/∃ b off,a=some ⟨b,off,none⟩/\b<w.heap.size/\ItAt w b off len h
theorem ItL.bw {w w':World} {a:Option Addr} {len:Nat} {h:Nat->I2} (hh:ItL w a len h) (hb:Below w.heap.size w w'):ItL w' a len h:=by
 rcases hh with e | ⟨b,off,e,hlt,hc⟩
 ·exact .inl e
 ·exact .inr ⟨b,off,e,zL hlt hb.size,hc.bw hb hlt⟩
theorem ItL.at {w:World} {a:Option Addr} {len:Nat} {h:Nat->I2} (hh:ItL w a len h) {k:Nat} (hk:k<len):∃ b off,a=some ⟨b,off,none⟩/\b<w.heap.size/\w.cell? ⟨b,off+k*2,none⟩=some (.bool (h k).m)/\w.cell? ⟨b,off+k*2+1,none⟩=some (.int .i64 (h k).v):=by
 rcases hh with rfl | ⟨b,off,e,hlt,hc⟩
 ·omega
 ·exact ⟨b,off,e,hlt,hc k hk⟩
def cI (h:I5):List Value:=[.int .i64 h.o,.int .i64 h.r,.int .i64 h.a,.int .i64 h.b,.int .i64 h.n]
def cT (h:I2):List Value:=[.bool h.m,.int .i64 h.v]
def cE (h:E3):List Value:=[.int .i64 h.k,.int .i64 h.q,.int .i64 h.v]
def fI (h:Nat->I5) (n:Nat):List Value:=flat (fun i=>cI (h i)) n
def fT (h:Nat->I2) (n:Nat):List Value:=flat (fun i=>cT (h i)) n
def fE (h:Nat->E3) (n:Nat):List Value:=flat (fun i=>cE (h i)) n
theorem qxt (h:Nat->I5) (n:Nat):(fI h n).length=n*5:=qbh fun _ _=>rfl
theorem qrp (h:Nat->I2) (n:Nat):(fT h n).length=n*2:=qbh fun _ _=>rfl
theorem qxr (h:Nat->E3) (n:Nat):(fE h n).length=n*3:=qbh fun _ _=>rfl
theorem qxu (h:Nat->I5) (n:Nat):∀ u ∈ fI h n,u.oneCell'=true:=qhx fun i _ u hu=>by
 simp [cI] at hu
 rcases hu with rfl | rfl | rfl | rfl | rfl <;> rfl
theorem qrq (h:Nat->I2) (n:Nat):∀ u ∈ fT h n,u.oneCell'=true:=qhx fun i _ u hu=>by
 simp [cT] at hu
 rcases hu with rfl | rfl <;> rfl
theorem qxs (h:Nat->E3) (n:Nat):∀ u ∈ fE h n,u.oneCell'=true:=qhx fun i _ u hu=>by
 simp [cE] at hu
 rcases hu with rfl | rfl | rfl <;> rfl
theorem kndI:Kind 144 184 5 40:=by
 refine ⟨Tryz.underlying144,?_,by omega,by omega⟩;have hinfo:(prog.info? 184).map (fun i=>(i.zero,i.size,i.bytes))=some (some (.agg #[.int .i64 0,.int .i64 0,.int .i64 0,.int .i64 0,.int .i64 0]),5,40):=by kernel_rfl
 cases hi:prog.info? 184 with
 | none=>rw [hi] at hinfo;cases hinfo
 | some i=>
  rw [hi] at hinfo;simp only [Option.map_some,nG,Prod.mk.injEq] at hinfo;exact ⟨i,_,rfl,hinfo.1,hinfo.2.1,hinfo.2.2,rfl⟩
theorem kndT:Kind 72 74 2 16:=by
 refine ⟨Tryz.underlying72,?_,by omega,by omega⟩;have hinfo:(prog.info? 74).map (fun i=>(i.zero,i.size,i.bytes))=some (some (.agg #[.bool false,.int .i64 0]),2,16):=by kernel_rfl
 cases hi:prog.info? 74 with
 | none=>rw [hi] at hinfo;cases hinfo
 | some i=>
  rw [hi] at hinfo;simp only [Option.map_some,nG,Prod.mk.injEq] at hinfo;exact ⟨i,_,rfl,hinfo.1,hinfo.2.1,hinfo.2.2,rfl⟩
theorem kndE:Kind 87 86 3 24:=by
 refine ⟨Tryz.underlying87,?_,by omega,by omega⟩;have hinfo:(prog.info? 86).map (fun i=>(i.zero,i.size,i.bytes))=some (some (.agg #[.int .i64 0,.int .i64 0,.int .i64 0]),3,24):=by kernel_rfl
 cases hi:prog.info? 86 with
 | none=>rw [hi] at hinfo;cases hinfo
 | some i=>
  rw [hi] at hinfo;simp only [Option.map_some,nG,Prod.mk.injEq] at hinfo;exact ⟨i,_,rfl,hinfo.1,hinfo.2.1,hinfo.2.2,rfl⟩
theorem kndS:Kind 37 142 4 64:=by
 refine ⟨Tryz.underlying37,?_,by omega,by omega⟩;have hinfo:=qu1;cases hi:prog.info? 142 with
 | none=>rw [hi] at hinfo;cases hinfo
 | some i=>
  rw [hi] at hinfo;simp only [Option.map_some,nG,Prod.mk.injEq] at hinfo;exact ⟨i,_,rfl,hinfo.1,hinfo.2.1,hinfo.2.2,rfl⟩
theorem qyl:Kind 36 144 1 24:=by
 refine ⟨Tryz.underlying36,?_,by omega,by omega⟩;have hinfo:(prog.info? 144).map (fun i=>(i.zero,i.size,i.bytes))=some (some nS,1,24):=by kernel_rfl
 cases hi:prog.info? 144 with
 | none=>rw [hi] at hinfo;cases hinfo
 | some i=>
  rw [hi] at hinfo;simp only [Option.map_some,nG,Prod.mk.injEq] at hinfo;exact ⟨i,_,rfl,hinfo.1,hinfo.2.1,hinfo.2.2,rfl⟩
theorem qwu:Kind 38 72 1 24:=by
 refine ⟨Tryz.underlying38,?_,by omega,by omega⟩;have hinfo:(prog.info? 72).map (fun i=>(i.zero,i.size,i.bytes))=some (some nS,1,24):=by kernel_rfl
 cases hi:prog.info? 72 with
 | none=>rw [hi] at hinfo;cases hinfo
 | some i=>
  rw [hi] at hinfo;simp only [Option.map_some,nG,Prod.mk.injEq] at hinfo;exact ⟨i,_,rfl,hinfo.1,hinfo.2.1,hinfo.2.2,rfl⟩
theorem qwt:Kind 39 87 1 24:=by
 refine ⟨Tryz.underlying39,?_,by omega,by omega⟩;have hinfo:(prog.info? 87).map (fun i=>(i.zero,i.size,i.bytes))=some (some nS,1,24):=by kernel_rfl
 cases hi:prog.info? 87 with
 | none=>rw [hi] at hinfo;cases hinfo
 | some i=>
  rw [hi] at hinfo;simp only [Option.map_some,nG,Prod.mk.injEq] at hinfo;exact ⟨i,_,rfl,hinfo.1,hinfo.2.1,hinfo.2.2,rfl⟩
theorem qvu {w:World} {b off sz n:Nat} {f:Nat->List Value} (hb:b<w.heap.size) (hsz:0<sz) (hl:∀ i,i<n->(f i).length=sz) (hc:∀ i,i<n->∀ j,j<sz->w.cell? ⟨b,off+(i*sz+j),none⟩=(f i)[j]?):Src w (some ⟨b,off,none⟩) (flat f n):=by
 refine .inr ⟨b,off,rfl,hb,fun q u hq=>?_⟩;have hlen:=qbh hl
 have hq':q<n*sz:=by
  rcases Nat.lt_or_ge q (n*sz) with h | h
  ·exact h
  ·rw [List.getElem?_eq_none (by omega)] at hq
   cases hq
 have hk:q / sz<n:=Nat.div_lt_of_lt_mul (by rw [Nat.mul_comm];exact hq');have hr:q % sz<sz:=Nat.mod_lt _ hsz;have e:q / sz*sz+q % sz=q:=by rw [Nat.mul_comm];exact Nat.div_add_mod q sz
 have h1:=hc (q / sz) hk (q % sz) hr;have h2:=qbp hl hk hr;rw [e] at h1 h2;rw [h1,<- h2,hq]
theorem srcI {w:World} {b off len:Nat} {g:Nat->I5} (hb:b<w.heap.size) (h:qao w b off len g):Src w (some ⟨b,off,none⟩) (fI g len):=qvu (sz:=5) hb (by omega) (fun _ _=>rfl) fun i hi j hj=>by
 obtain ⟨h0,h1,h2,h3,h4⟩:=h i hi
 match j,hj with
 | 0,_=>exact h0
 | 1,_=>exact h1
 | 2,_=>exact h2
 | 3,_=>exact h3
 | 4,_=>exact h4
theorem srcT {w:World} {a:Option Addr} {len:Nat} {g:Nat->I2} (h:ItL w a len g):Src w a (fT g len):=by
 rcases h with rfl | ⟨b,off,rfl,hb,h⟩
 ·exact .inl rfl
 ·refine qvu (sz:=2) hb (by omega) (fun _ _=>rfl) fun i hi j hj=>?_
  obtain ⟨h0,h1⟩:=h i hi
  match j,hj with
  | 0,_=>exact h0
  | 1,_=>exact h1
theorem srcE {w:World} {a:Option Addr} {len:Nat} {g:Nat->E3} (h:EvL w a len g):Src w a (fE g len):=by
 rcases h with rfl | ⟨b,off,rfl,hb,h⟩
 ·exact .inl rfl
 ·refine qvu (sz:=3) hb (by omega) (fun _ _=>rfl) fun i hi j hj=>?_
  obtain ⟨h0,h1,h2⟩:=h i hi
  match j,hj with
  | 0,_=>exact h0
  | 1,_=>exact h1
  | 2,_=>exact h2
theorem atI {w:World} {B:Nat} {u:Value} {n:Nat} {g:Nat->I5} (o:w.ownsRow B 184 5 u n (fI g n)) (hne:u≠nS):∃ b cap,u=.slice (some ⟨b,0,none⟩) n cap/\b<w.heap.size/\qao w b 0 n g/\n<=cap:=by
 rcases o.2 with ⟨e,_⟩ | ⟨b,cap,cur,rfl,hb,hg,hcap,_⟩
 ·exact absurd e hne
 ·refine ⟨b,cap,rfl,(o.lt b rfl).2,fun i hi=>?_,hcap⟩
  have hc:∀ j,j<5->w.cell? ⟨b,0+(i*5+j),none⟩=(cI (g i))[j]?:=fun j hj=>by
   rw [nL,o.cellAt _ (by omega)];exact qbp (sz:=5) (fun _ _=>rfl) hi hj
  exact ⟨hc 0 (by omega),hc 1 (by omega),hc 2 (by omega),hc 3 (by omega),hc 4 (by omega)⟩
theorem atT {w:World} {B:Nat} {u:Value} {n:Nat} {g:Nat->I2} (o:w.ownsRow B 74 2 u n (fT g n)) (hne:u≠nS):∃ b cap,u=.slice (some ⟨b,0,none⟩) n cap/\b<w.heap.size/\ItAt w b 0 n g/\n<=cap:=by
 rcases o.2 with ⟨e,_⟩ | ⟨b,cap,cur,rfl,hb,hg,hcap,_⟩
 ·exact absurd e hne
 ·refine ⟨b,cap,rfl,(o.lt b rfl).2,fun i hi=>?_,hcap⟩
  have hc:∀ j,j<2->w.cell? ⟨b,0+(i*2+j),none⟩=(cT (g i))[j]?:=fun j hj=>by
   rw [nL,o.cellAt _ (by omega)];exact qbp (sz:=2) (fun _ _=>rfl) hi hj
  exact ⟨hc 0 (by omega),hc 1 (by omega)⟩
theorem atE {w:World} {B:Nat} {u:Value} {n:Nat} {g:Nat->E3} (o:w.ownsRow B 86 3 u n (fE g n)) (hne:u≠nS):∃ b cap,u=.slice (some ⟨b,0,none⟩) n cap/\b<w.heap.size/\EvAt w b 0 n g/\n<=cap:=by
 rcases o.2 with ⟨e,_⟩ | ⟨b,cap,cur,rfl,hb,hg,hcap,_⟩
 ·exact absurd e hne
 ·refine ⟨b,cap,rfl,(o.lt b rfl).2,fun i hi=>?_,hcap⟩
  have hc:∀ j,j<3->w.cell? ⟨b,0+(i*3+j),none⟩=(cE (g i))[j]?:=fun j hj=>by
   rw [nL,o.cellAt _ (by omega)];exact qbp (sz:=3) (fun _ _=>rfl) hi hj
  exact ⟨hc 0 (by omega),hc 1 (by omega),hc 2 (by omega)⟩
def Cl (B:Nat) (c:Nat->Nat) (i:Nat):Nat->Prop:=fun k=>B<=k/\c k=i
abbrev LI (z:Bool) (w:World) (P:Nat->Prop) (v:Value) (n:Nat) (u:Nat->Value) (L:Nat->Nat) (H:Nat->Nat->I5):Prop:=LL z 184 5 144 w P v n u L fun i=>fI (H i) (L i)
abbrev LT (z:Bool) (w:World) (P:Nat->Prop) (v:Value) (n:Nat) (u:Nat->Value) (L:Nat->Nat) (H:Nat->Nat->I2):Prop:=LL z 74 2 72 w P v n u L fun i=>fT (H i) (L i)
abbrev LE (z:Bool) (w:World) (P:Nat->Prop) (v:Value) (n:Nat) (u:Nat->Value) (L:Nat->Nat) (H:Nat->Nat->E3):Prop:=LL z 86 3 87 w P v n u L fun i=>fE (H i) (L i)
structure qa6 (w:World) (D hi n:Nat) (ls:Nat->Nat) (bs:Nat->Nat) (h:Nat->Nat->I2):Prop where
 cel:∀ i,i<n->w.cell? ⟨D,i,none⟩=some (.slice (some ⟨bs i,0,none⟩) (ls i) (ls i))
 bd:∀ i,i<n->D<bs i/\bs i<hi
 row:∀ i,i<n->ItAt w (bs i) 0 (ls i) (h i)
 fr:∀ i,i<n->∀ j,w.frozen? ⟨bs i,j,none⟩=false
 up:∀ i j,i<j->j<n->bs i<bs j
 le:hi<=w.heap.size
 lt:D<hi
theorem qa6.bw {w w':World} {D hi n B:Nat} {ls:Nat->Nat} {bs:Nat->Nat} {h:Nat->Nat->I2} (o:qa6 w D hi n ls bs h) (hb:Below B w w') (hB:hi<=B):qa6 w' D hi n ls bs h:=
 ⟨fun i hi'=>(hb.cell (p:=⟨D,i,none⟩) (zL o.lt hB)).trans (o.cel i hi'),o.bd,fun i hi'=>(o.row i hi').bw hb (zL (o.bd i hi').2 hB),fun i hi' j=>(hb.frozen (p:=⟨bs i,j,none⟩) (zL (o.bd i hi').2 hB)).trans (o.fr i hi' j),o.up,zO o.le hb.size,o.lt⟩
theorem qa6.keep {w w':World} {D hi n:Nat} {ls:Nat->Nat} {bs:Nat->Nat} {h:Nat->Nat->I2} (o:qa6 w D hi n ls bs h) (hs:w.heap.size<=w'.heap.size) (hb:∀ k,D<=k->k<hi->w'.heap[k]? = w.heap[k]?):qa6 w' D hi n ls bs h:=by
 refine ⟨fun i hi'=>(zH (hb D (nA _) o.lt)).trans (o.cel i hi'),o.bd,fun i hi'=>?_,fun i hi' j=>(zI (hb _ (nJ (o.bd i hi').1) (o.bd i hi').2)).trans (o.fr i hi' j),o.up,zO o.le hs,o.lt⟩;have hc:∀ j,w'.cell? ⟨bs i,j,none⟩=w.cell? ⟨bs i,j,none⟩:=fun j=>zH (hb _ (nJ (o.bd i hi').1) (o.bd i hi').2);intro t ht;have:=o.row i hi' t ht;simp only [hc];exact this
theorem qez (a0:Option Addr) (n cap:Nat) (aa:Nat->Option Addr) (ls cs:Nat->Nat) (L:Int) (w:World) (hr:RowS w a0 n fun i=>.slice (aa i) (ls i) (cs i)) (h:(n:Int)+(sumL ls n:Nat)<=L) (hL:L<=1048576):
  Calls prog 50 #[.slice a0 n cap,.int .i64 L] w fun e w'=>e=.returned (.int .i64 (L - n - (sumL ls n:Nat)))/\w'=w:=by
 have hn:(n:Int)<=1048576:=by omega
 have h0:0<=L:=by omega
 have hn0:¬ (L - (n:Int)<0):=by omega
 have HR:Hid (RowS w a0 n fun i=>.slice (aa i) (ls i) (cs i)):=hr;have HS:Hid ((n:Int)+(sumL ls n:Nat)<=L):=h;clear hr h
 go_enter func50,ntmps50
 go_wp2_with fail
 go_loopw [1,5] (fun q i wr=>∃ k:Nat,k<=n/\i=.int .i64 k/\q=.int .i64 (L - n - (sumL ls k:Nat))/\wr=w) (fun _ i _=>n - (intOf i).toNat)
 case atStart=>exact ⟨0,nD _,rfl,by simp [sumL],rfl⟩
 case round=>
  obtain ⟨k,hk,rfl,rfl,rfl⟩:=hrel;by_cases hlt:k<n
  ·have hlt':(k:Int)<(n:Int):=by omega
   obtain ⟨b,off,rfl,ck⟩:=HR.at hlt;have hsl:=qbf ls hlt;have hS:=HS.out;have e1:(L - n - (sumL ls k:Nat)) - (ls k:Int)=L - n - (sumL ls (k+1):Nat):=by simp only [sumL];omega
   have HE:Hid ((L - n - (sumL ls k:Nat)) - (ls k:Int)=L - n - (sumL ls (k+1):Nat)):=e1;have e2:(ls k:Int)<=L - n - (sumL ls k:Nat):=by omega
   have e3:¬ (L - n - (sumL ls (k+1):Nat)<0):=by omega
   have e4:L - n - (sumL ls k:Nat)<=1048576:=by omega
   clear e1 hS hsl;generalize hy:L - n - (sumL ls (k+1):Nat)=Y at *;go_wp2_with fail
   refine (qf8 _ _ _ _ _ e2 e4).mono ?_;rintro e w1 ⟨rfl,rfl⟩;rw [HE.out];clear e2 e4;go_wp2;go_roundw
   case rel=>exact ⟨k+1,by omega,by go_num,by rw [<- hy],by trivial⟩
   case measure=>simp [intOf];omega
  ·have hkl:k=n:=by omega
   subst hkl;go_wp2;go_ret;exact ⟨rfl,rfl⟩
theorem qjy (a0:Option Addr) (n cap:Nat) (aa:Nat->Option Addr) (ls cs:Nat->Nat) (L:Int) (w:World) (hr:RowS w a0 n fun i=>.slice (aa i) (ls i) (cs i)) (h:L<(n:Int)+(sumL ls n:Nat)) (h0:0<=L) (hL:L<=1048576) (hm:n<=maxLen) (hl:∀ i,i<n->ls i<=maxLen):
  Calls prog 50 #[.slice a0 n cap,.int .i64 L] w fun e w'=>e=.returned (.int .i64 (-1))/\w'=w:=by
 have hm':(n:Int)<=9223372036854775807:=by unfold maxLen at hm;omega
 by_cases hn0:L - (n:Int)<0
 ·go_enter func50,ntmps50
  go_wp2;go_ret;exact ⟨rfl,rfl⟩
 have hn:(n:Int)<=1048576:=by omega
 have HR:Hid (RowS w a0 n fun i=>.slice (aa i) (ls i) (cs i)):=hr;have HS:Hid (L<(n:Int)+(sumL ls n:Nat)):=h;have HL:Hid (∀ i,i<n->ls i<=maxLen):=hl;clear hr h hl hm
 go_enter func50,ntmps50
 go_wp2_with fail
 go_loopw [1,5] (fun q i wr=>∃ k:Nat,k<=n/\i=.int .i64 k/\q=.int .i64 (L - n - (sumL ls k:Nat))/\0<=L - n - (sumL ls k:Nat)/\wr=w) (fun _ i _=>n - (intOf i).toNat)
 case atStart=>exact ⟨0,nD _,rfl,by simp [sumL],by simp only [sumL];omega,rfl⟩
 case round=>
  obtain ⟨k,hk,rfl,rfl,hp,rfl⟩:=hrel;by_cases hlt:k<n
  ·have hlt':(k:Int)<(n:Int):=by omega
   obtain ⟨b,off,rfl,ck⟩:=HR.at hlt;have hml:=HL.out k hlt;have e1:(L - n - (sumL ls k:Nat)) - (ls k:Int)=L - n - (sumL ls (k+1):Nat):=by simp only [sumL];omega
   have HE:Hid ((L - n - (sumL ls k:Nat)) - (ls k:Int)=L - n - (sumL ls (k+1):Nat)):=e1;have e4:L - n - (sumL ls k:Nat)<=1048576:=by omega
   clear e1;by_cases hb:(ls k:Int)<=L - n - (sumL ls k:Nat)
   ·have e3:0<=L - n - (sumL ls (k+1):Nat):=by have:=HE.out;omega
    have e3':¬ (L - n - (sumL ls (k+1):Nat)<0):=by omega
    generalize hy:L - n - (sumL ls (k+1):Nat)=Y at *;go_wp2_with fail
    refine (qf8 _ _ _ _ _ hb e4).mono ?_;rintro e w1 ⟨rfl,rfl⟩;rw [HE.out];clear hb e4 hml hp;go_wp2;go_roundw
    case rel=>exact ⟨k+1,by omega,by go_num,by rw [<- hy],by omega,by trivial⟩
    case measure=>simp [intOf];omega
   ·have hb':L - n - (sumL ls k:Nat)<(ls k:Int):=by omega
    go_wp2_with fail
    refine (ql9 _ _ _ _ _ hb' hp e4 hml).mono ?_;rintro e w1 ⟨rfl,rfl⟩;clear hb hb' e4 hml hp HE;go_wp2;go_ret;exact ⟨rfl,rfl⟩
  ·have hkl:k=n:=by omega
   subst hkl;have:=HS.out;omega
theorem qu0:(prog.info? 72).map (fun i=>(i.zero,i.size,i.bytes))=some (some nS,1,24):=by kernel_rfl
theorem qjt (n:Nat) (hn:n<=1048576) (w:World):
  (Instr.makeSlice 38 (.int .i64 (n:Int)) (.int .i64 (n:Int))).run prog w=.ok (sG w.heap.size n n) (w.alloc (.cells (madeCells #[nS] n) 72)):=by
 have hinfo:=qu0;cases hi:prog.info? 72 with
 | none=>rw [hi] at hinfo;cases hinfo
 | some i=>
  rw [hi] at hinfo;simp only [Option.map_some,nG,Prod.mk.injEq] at hinfo;obtain ⟨hz,hs,hb⟩:=hinfo;have h:=run_make (P:=prog) w 38 72 i _ Tryz.underlying38 hi hz .i64 .i64 (n:Int) (n:Int) (by omega) (Int.le_refl _) (by rw [hb];omega) (by omega);rw [hs] at h;simpa [Value.cells] using h
theorem qlg (w:World) (n:Nat):(w.alloc (.cells (madeCells #[nS] n) 72)).rowIs w.heap.size 72 n (fun _=>.slice none 0 0):=by
 refine ⟨_,blk_alloc_new _ _,size_madeCells _ _,fun i hi=>?_⟩;simp only [madeCells];rw [Array.getElem?_map,Array.getElem?_range,nC hi];have:i % 1=0:=Nat.mod_one i;exact congrArg some (by simp [this])
structure qfd (w:World) (D k:Nat) (f:Nat->Value) (ls:Nat->Nat) (bs:Nat->Nat) (h:Nat->Nat->I2):Prop where
 cel:∀ i,i<k->f i=.slice (some ⟨bs i,0,none⟩) (ls i) (ls i)
 bd:∀ i,i<k->D<bs i/\bs i<w.heap.size
 row:∀ i,i<k->ItAt w (bs i) 0 (ls i) (h i)
 fr:∀ i,i<k->∀ j,w.frozen? ⟨bs i,j,none⟩=false
 up:∀ i j,i<j->j<k->bs i<bs j
theorem qfd.step {w w1:World} {D k:Nat} {f:Nat->Value} {ls:Nat->Nat} {bs:Nat->Nat} {h:Nat->Nat->I2} (o:qfd w D k f ls bs h) (hb:Below w.heap.size w w1) (hD:D<w.heap.size) (hz:w.heap.size<w1.heap.size) (hr:ItAt w1 w.heap.size 0 (ls k) (h k)) (hf:∀ j,w1.frozen? ⟨w.heap.size,j,none⟩=false) (u:Value):
  qfd (w1.setCell ⟨D,k,none⟩ u) D (k+1) (fun i=>if i=k then .slice (some ⟨w.heap.size,0,none⟩) (ls k) (ls k) else f i) ls (fun i=>if i=k then w.heap.size else bs i) h:=by
 have hs:∀ b,b≠D->(w1.setCell ⟨D,k,none⟩ u).heap[b]? = w1.heap[b]?:=fun b hne=>zN _ _ _ _ hne
 have hat:∀ b n g,b≠D->ItAt w1 b 0 n g->ItAt (w1.setCell ⟨D,k,none⟩ u) b 0 n g:=fun b n g hne hg=>fun i hi=>by
  have hc:∀ j,(w1.setCell ⟨D,k,none⟩ u).cell? ⟨b,j,none⟩=w1.cell? ⟨b,j,none⟩:=fun j=>zH (hs b hne);have:=hg i hi;simp only [hc];exact this
 refine ⟨fun i hi=>?_,fun i hi=>?_,fun i hi=>?_,fun i hi j=>?_,fun i j hij hj=>?_⟩
 ·by_cases e:i=k
  ·subst e;simp
  ·simp only [nB e];exact o.cel i (by omega)
 ·by_cases e:i=k
  ·subst e;simp;omega
  ·simp only [nB e,World.size_setCell];have:=o.bd i (by omega);omega
 ·by_cases e:i=k
  ·subst e;simp only [nQ];exact hat _ _ _ (by omega) hr
  ·simp only [nB e];have hbd:=o.bd i (by omega);exact hat _ _ _ (by omega) ((o.row i (by omega)).bw hb hbd.2)
 ·by_cases e:i=k
  ·subst e;simp only [nQ];rw [World.frozen?_setCell];exact hf j
  ·simp only [nB e];rw [World.frozen?_setCell];have hbd:=o.bd i (by omega);exact (hb.frozen (p:=⟨bs i,j,none⟩) hbd.2).trans (o.fr i (by omega) j)
 ·by_cases e:j=k
  ·have hi:i≠k:=by omega
   simp only [nB hi,nC e];exact (o.bd i (by omega)).2
  ·have hi:i≠k:=by omega
   simp only [nB hi,nB e];exact o.up i j hij (by omega)
structure qka (W:World) (a0:Option Addr) (n:Nat) (aa:Nat->Option Addr) (ls cs:Nat->Nat) (h:Nat->Nat->I2):Prop where
 row:RowS W a0 n fun i=>.slice (aa i) (ls i) (cs i)
 cop:∀ i,i<n->qkd W (aa i) (ls i) (cs i) (h i)
theorem qo0 (a0:Option Addr) (n cap:Nat) (aa:Nat->Option Addr) (ls cs:Nat->Nat) (h:Nat->Nat->I2) (W w:World) (hn:n<=1048576) (hA:qka W a0 n aa ls cs h) (hW:Below W.heap.size W w):
  Calls prog 59 #[.slice a0 n cap] w fun e w'=>e=.returned (sG w.heap.size n n)/\(∃ bs,qa6 w' w.heap.size w'.heap.size n ls bs h)/\Below w.heap.size w w':=by
 have hl':(n:Int)<=1048576:=by omega
 have hmk:=qjt n hn;have HA:Hid (qka W a0 n aa ls cs h):=hA;have HW:Hid (Below W.heap.size W w):=hW;clear hA hW
 go_enter func59,ntmps59
 go_wp2_with fail
 clear hmk
 go_loopw [4] (fun i wr=>∃ k:Nat,k<=n/\i=.int .i64 k/\(∃ f,wr.rowIs w.heap.size 72 n f/\Hid (∃ bs,qfd wr w.heap.size k f ls bs h))/\Below w.heap.size w wr) (fun i _=>n - (intOf i).toNat)
 case atStart=>exact ⟨0,nD _,rfl,⟨_,qlg w n,fun _=>0,fun i hi=>by omega,fun i hi=>by omega,fun i hi=>by omega,fun i hi=>by omega,fun i j hij hj=>by omega⟩,(nE _ _).alloc (nA _) _⟩
 case round=>
  obtain ⟨k,hk,rfl,⟨f,hrow,HF⟩,hbw⟩:=hrel;have hs:=hrow.lt;by_cases hlt:k<n
  ·have hlt':(k:Int)<(n:Int):=by omega
   have HB:Hid (Below W.heap.size W wr):=HW.trans (hbw.mono HW.size);obtain ⟨b,off,rfl,ck⟩:=(HA.row.bw HB.out).at hlt;have HR:Hid (wr.rowIs w.heap.size 72 n f):=hrow;clear hrow;go_wp2_with fail
   refine (HA.cop k hlt wr HB.out).mono ?_;rintro e w1 ⟨rfl,hi1,hz1,hb1,hf1⟩;have hr1:w1.rowIs w.heap.size 72 n f:=HR.of_block (hb1.block _ hs);have f0:=hr1.frozen k;have g0:=hr1.cell (i:=k) hlt;have HR1:Hid (w1.rowIs w.heap.size 72 n f):=hr1
   have HF1:Hid (∃ bs,qfd (w1.setCell ⟨w.heap.size,k,none⟩ (.slice (some ⟨wr.heap.size,0,none⟩) (ls k) (ls k))) w.heap.size (k+1) (fun i=>if i=k then .slice (some ⟨wr.heap.size,0,none⟩) (ls k) (ls k) else f i) ls bs h):=by
    obtain ⟨bs,o⟩:=HF.out;exact ⟨_,o.step hb1 hs hz1 hi1 hf1 _⟩
   clear hr1 hi1 HF HR hf1;go_wp2_with fail
   exact ⟨⟨k+1,by omega,by go_num,⟨_,HR1.set _ _,HF1.out⟩,(hbw.trans (hb1.mono (nJ hs))).setCell (nA _) _⟩,by simp [intOf];omega⟩
  ·have hkl:k=n:=by omega
   have HO:Hid (∃ bs,qa6 wr w.heap.size wr.heap.size n ls bs h):=by
    obtain ⟨bs,o⟩:=HF.out;rw [hkl] at o;exact ⟨bs,fun i hi=>by rw [hrow.cell hi,o.cel i hi],o.bd,o.row,o.fr,o.up,nA _,hs⟩
   clear hkl HF hrow;go_wp2;go_ret;exact ⟨rfl,HO.out,hbw⟩
theorem qku (D1 h1 D2 h2 n c1 c2:Nat) (ls b1 b2:Nat->Nat) (h:Nat->Nat->I2) (w:World) (hn:n<=1048576) (hl:∀ i,i<n->ls i<=1048576) (o1:qa6 w D1 h1 n ls b1 h) (o2:qa6 w D2 h2 n ls b2 h):
  Calls prog 82 #[.slice (some ⟨D1,0,none⟩) n c1,.slice (some ⟨D2,0,none⟩) n c2] w (rB w (.bool true)):=by
 have hl':(n:Int)<=1048576:=by omega
 have O1:Hid (qa6 w D1 h1 n ls b1 h):=o1;have O2:Hid (qa6 w D2 h2 n ls b2 h):=o2;have HL:Hid (∀ i,i<n->ls i<=1048576):=hl;clear o1 o2 hl
 go_enter func82,ntmps82
 go_wp2_with fail
 go_loopw [5] (fun i wr=>∃ k:Nat,k<=n/\i=.int .i64 k/\Below w.heap.size w wr) (fun i _=>n - (intOf i).toNat)
 case atStart=>exact ⟨0,nD _,rfl,nE _ _⟩
 case round=>
  obtain ⟨k,hk,rfl,hbw⟩:=hrel;have hs:=hbw.size;by_cases hlt:k<n
  ·have P1:Hid (qa6 wr D1 h1 n ls b1 h):=O1.bw hbw O1.le
   have P2:Hid (qa6 wr D2 h2 n ls b2 h):=O2.bw hbw O2.le;have ck:=P1.cel k hlt;have dk:=P2.cel k hlt;have hlt':(k:Int)<(n:Int):=by omega
   go_wp2_with fail
   first|(go_region_with (go_at_call 149;refine (qg9 (b1 k) (b2 k) (ls k) (ls k) (ls k) (h k) wr.drew (HL.out k hlt) (zL (P1.bd k hlt).2 P1.le) (zL (P2.bd k hlt).2 P2.le) (P1.row k hlt) (P2.row k hlt)).mono ?_;rintro e w1 ⟨rfl,hq1⟩)) | fail
   all_goals
    go_wp2;go_roundw
    case rel=>exact ⟨k+1,by omega,by go_num,hbw.drew.trans (hq1.mono hs)⟩
    case measure=>simp [intOf];omega
  ·go_wp2
   go_ret;exact ⟨rfl,hbw⟩
theorem qjq (D hi n cap:Nat) (ls bs:Nat->Nat) (h:Nat->Nat->I2) (k:Int) (w:World) (hn:n<=1048576) (hl:sumL ls n<=1048576) (k0:0<=k) (k1:k<=50000000) (o:qa6 w D hi n ls bs h):
  Calls prog 89 #[.slice (some ⟨D,0,none⟩) n cap,.int .i64 k] w fun e w'=>e=.returned (.int .i64 (k+2*(sumL ls n:Nat)))/\qaa (fun b=>D<b/\b<hi) w w':=by
 have hl':(n:Int)<=1048576:=by omega
 have O:Hid (qa6 w D hi n ls bs h):=o;have HL:Hid (sumL ls n<=1048576):=hl;clear o hl
 go_enter func89,ntmps89
 go_wp2_with fail
 go_loopw [1,5] (fun q i wr=>∃ j:Nat,j<=n/\i=.int .i64 j/\q=.int .i64 (k+2*(sumL ls j:Nat))/\Hid (qaa (fun b=>∃ t,t<j/\b=bs t) w wr)) (fun _ i _=>n - (intOf i).toNat)
 case atStart=>exact ⟨0,nD _,rfl,by simp [sumL],qaa.refl _ _⟩
 case round=>
  obtain ⟨j,hj,rfl,rfl,HT⟩:=hrel;by_cases hlt:j<n
  ·have hlt':(j:Int)<(n:Int):=by omega
   have dD:¬ ∃ t,t<j/\D=bs t:=by
    rintro ⟨t,ht,e⟩;have:=(O.bd t (by omega)).1;omega
   have dJ:¬ ∃ t,t<j/\bs j=bs t:=by
    rintro ⟨t,ht,e⟩;have:=O.up t j ht hlt;omega
   have bJ:=O.bd j hlt;have le:=O.le;have ck:wr.cell? ⟨D,j,none⟩=some (.slice (some ⟨bs j,0,none⟩) (ls j) (ls j)):=(HT.cell (zL O.lt le) dD j).trans (O.cel j hlt)
   have RM:Hid (qhk wr (bs j) (ls j)):=by
    have hb:wr.heap[bs j]? = w.heap[bs j]?:=HT.block (bs j) (by omega) dJ;have hrm:qhk w (bs j) (ls j):=qhk.of_it (O.row j hlt) (O.fr j hlt);exact ⟨fun i hi=>(hrm.1 i hi).elim fun u e=>⟨u,(zH hb).trans e⟩,fun i=>(zI hb).trans (hrm.2 i)⟩
   have hsl:=qbf ls hlt;have hS:=HL.out;have e1:k+2*(sumL ls j:Nat)+2*(ls j:Int)=k+2*(sumL ls (j+1):Nat):=by simp only [sumL];omega
   have HE:Hid (k+2*(sumL ls j:Nat)+2*(ls j:Int)=k+2*(sumL ls (j+1):Nat)):=e1;have e2:0<=k+2*(sumL ls j:Nat):=by omega
   have e3:k+2*(sumL ls j:Nat)<=100000000:=by omega
   have e4:ls j<=1048576:=by omega
   clear dD bJ le e1 hS hsl;go_wp2_with fail
   refine (qlm (bs j) (ls j) (ls j) _ wr e4 e2 e3 RM.out).mono ?_;rintro e w1 ⟨rfl,g1⟩;rw [HE.out];have HT1:Hid (qaa (fun b=>∃ t,t<j+1/\b=bs t) w w1):=(HT.mono fun b ⟨t,ht,e⟩=>⟨t,by omega,e⟩).trans (qaa.of_grown g1 fun b e=>⟨j,by omega,by simpa using e.symm⟩);clear HT dJ RM e2 e3 e4 g1;go_wp2;go_roundw
   case rel=>exact ⟨j+1,by omega,by go_num,rfl,HT1.out⟩
   case measure=>simp [intOf];omega
  ·have hkl:j=n:=by omega
   subst hkl
   have HT1:Hid (qaa (fun b=>D<b/\b<hi) w wr):=HT.mono fun b ⟨t,ht,e⟩=>by
    subst e;exact O.bd t ht
   clear HT;go_wp2;go_ret;exact ⟨rfl,HT1.out⟩
theorem qqk {H:Type} {enc:TypeId × Value->H} {w:World} {spare:Nat->Bool} {held:Bool} {base:Nat} {a0:Option Addr} {len cap:Nat} {d:DataW H} {p:List MemPlace}
  (h:DataW.Trod enc prog w base spare held 24 (.slice a0 len cap) d p):
  len<=maxLen/\∃ aa ls cs,RowS w a0 len (fun i=>.slice (aa i) (ls i) (cs i))/\(∀ i,i<len->ls i<=maxLen)/\((∀ i,i<len->ls i<=1048576)->∃ hh,qka w a0 len aa ls cs hh):=by
 obtain ⟨hm,f,hrow,hf⟩:=qdk Tryz.underlying24 (el:=161) (by kernel_rfl) h;refine ⟨hm,?_⟩
 have hpart:∀ i,i<len->∃ x:Option Addr × Nat × Nat,f i=.slice x.1 x.2.1 x.2.2/\x.2.1<=maxLen/\(x.2.1<=1048576->∃ g,qkd w x.1 x.2.1 x.2.2 g):=by
  intro i hi;obtain ⟨m,x,hx⟩:=hf i hi
  have hsl:∃ a l c,f i=.slice a l c:=by
   rcases Go.Deep.open_slice Tryz.underlying161 hx with ⟨hcs,_⟩ | ⟨a,len',cap',m,n,D,Pl,hcs,_⟩
   ·simp at hcs
    exact ⟨_,_,_,hcs⟩
   ·simp at hcs
    exact ⟨_,_,_,hcs⟩
  obtain ⟨a,l,c,e⟩:=hsl;rw [e] at hx;obtain ⟨h1,h2⟩:=qtu (d:=x.1) (p:=x.2) (a0:=a) (len:=l) (cap:=c) ⟨m,by simpa [Value.cells] using hx⟩;exact ⟨(a,l,c),e,h1,fun hs=>qst hs h2⟩
 obtain ⟨g,hg⟩:=Go.Deep.choose_lt (α:=Option Addr × Nat × Nat) hpart;refine ⟨fun i=>(g i).1,fun i=>(g i).2.1,fun i=>(g i).2.2,?_,fun i hi=>(hg i hi).2.1,fun hs=>?_⟩
 ·rcases hrow with h0 | ⟨b,off,e,hlt,hc⟩
  ·exact .inl h0
  ·exact .inr ⟨b,off,e,hlt,fun i hi=>(hc i hi).trans (by rw [(hg i hi).1])⟩
 ·have hq:∀ i,i<len->∃ q:Nat->I2,qkd w (g i).1 (g i).2.1 (g i).2.2 q:=fun i hi=>(hg i hi).2.2 (hs i hi)
  have inh:Inhabited (Nat->I2):=⟨fun _=>⟨false,0⟩⟩
  obtain ⟨hh,hhh⟩:=Go.Deep.choose_lt (α:=Nat->I2) hq;refine ⟨hh,?_,hhh⟩
  rcases hrow with h0 | ⟨b,off,e,hlt,hc⟩
  ·exact .inl h0
  ·exact .inr ⟨b,off,e,hlt,fun i hi=>(hc i hi).trans (by rw [(hg i hi).1])⟩
structure qay (w:World) (D hi n:Nat) (ls:Nat->Nat) (bs:Nat->Nat) (h:Nat->Nat->E3):Prop where
 cel:∀ i,i<n->w.cell? ⟨D,i,none⟩=some (.slice (some ⟨bs i,0,none⟩) (ls i) (ls i))
 bd:∀ i,i<n->D<bs i/\bs i<hi
 row:∀ i,i<n->EvAt w (bs i) 0 (ls i) (h i)
 fr:∀ i,i<n->∀ j,w.frozen? ⟨bs i,j,none⟩=false
 up:∀ i j,i<j->j<n->bs i<bs j
 le:hi<=w.heap.size
 lt:D<hi
theorem qay.bw {w w':World} {D hi n B:Nat} {ls:Nat->Nat} {bs:Nat->Nat} {h:Nat->Nat->E3} (o:qay w D hi n ls bs h) (hb:Below B w w') (hB:hi<=B):qay w' D hi n ls bs h:=
 ⟨fun i hi'=>(hb.cell (p:=⟨D,i,none⟩) (zL o.lt hB)).trans (o.cel i hi'),o.bd,fun i hi'=>(o.row i hi').bw hb (zL (o.bd i hi').2 hB),fun i hi' j=>(hb.frozen (p:=⟨bs i,j,none⟩) (zL (o.bd i hi').2 hB)).trans (o.fr i hi' j),o.up,zO o.le hb.size,o.lt⟩
theorem qay.keep {w w':World} {D hi n:Nat} {ls:Nat->Nat} {bs:Nat->Nat} {h:Nat->Nat->E3} (o:qay w D hi n ls bs h) (hs:w.heap.size<=w'.heap.size) (hb:∀ k,D<=k->k<hi->w'.heap[k]? = w.heap[k]?):qay w' D hi n ls bs h:=by
 refine ⟨fun i hi'=>(zH (hb D (nA _) o.lt)).trans (o.cel i hi'),o.bd,fun i hi'=>?_,fun i hi' j=>(zI (hb _ (nJ (o.bd i hi').1) (o.bd i hi').2)).trans (o.fr i hi' j),o.up,zO o.le hs,o.lt⟩;have hc:∀ j,w'.cell? ⟨bs i,j,none⟩=w.cell? ⟨bs i,j,none⟩:=fun j=>zH (hb _ (nJ (o.bd i hi').1) (o.bd i hi').2);intro t ht;have:=o.row i hi' t ht;simp only [hc];exact this
theorem qi5 (a0:Option Addr) (n cap:Nat) (aa:Nat->Option Addr) (ls cs:Nat->Nat) (L:Int) (w:World) (hr:RowS w a0 n fun i=>.slice (aa i) (ls i) (cs i)) (h:(n:Int)+(sumL ls n:Nat)<=L) (hL:L<=1048576):
  Calls prog 51 #[.slice a0 n cap,.int .i64 L] w fun e w'=>e=.returned (.int .i64 (L - n - (sumL ls n:Nat)))/\w'=w:=by
 have hn:(n:Int)<=1048576:=by omega
 have h0:0<=L:=by omega
 have hn0:¬ (L - (n:Int)<0):=by omega
 have HR:Hid (RowS w a0 n fun i=>.slice (aa i) (ls i) (cs i)):=hr;have HS:Hid ((n:Int)+(sumL ls n:Nat)<=L):=h;clear hr h
 go_enter func51,ntmps51
 go_wp2_with fail
 go_loopw [1,5] (fun q i wr=>∃ k:Nat,k<=n/\i=.int .i64 k/\q=.int .i64 (L - n - (sumL ls k:Nat))/\wr=w) (fun _ i _=>n - (intOf i).toNat)
 case atStart=>exact ⟨0,nD _,rfl,by simp [sumL],rfl⟩
 case round=>
  obtain ⟨k,hk,rfl,rfl,rfl⟩:=hrel;by_cases hlt:k<n
  ·have hlt':(k:Int)<(n:Int):=by omega
   obtain ⟨b,off,rfl,ck⟩:=HR.at hlt;have hsl:=qbf ls hlt;have hS:=HS.out;have e1:(L - n - (sumL ls k:Nat)) - (ls k:Int)=L - n - (sumL ls (k+1):Nat):=by simp only [sumL];omega
   have HE:Hid ((L - n - (sumL ls k:Nat)) - (ls k:Int)=L - n - (sumL ls (k+1):Nat)):=e1;have e2:(ls k:Int)<=L - n - (sumL ls k:Nat):=by omega
   have e3:¬ (L - n - (sumL ls (k+1):Nat)<0):=by omega
   have e4:L - n - (sumL ls k:Nat)<=1048576:=by omega
   clear e1 hS hsl;generalize hy:L - n - (sumL ls (k+1):Nat)=Y at *;go_wp2_with fail
   refine (qey _ _ _ _ _ e2 e4).mono ?_;rintro e w1 ⟨rfl,rfl⟩;rw [HE.out];clear e2 e4;go_wp2;go_roundw
   case rel=>exact ⟨k+1,by omega,by go_num,by rw [<- hy],by trivial⟩
   case measure=>simp [intOf];omega
  ·have hkl:k=n:=by omega
   subst hkl;go_wp2;go_ret;exact ⟨rfl,rfl⟩
theorem qi4 (a0:Option Addr) (n cap:Nat) (aa:Nat->Option Addr) (ls cs:Nat->Nat) (L:Int) (w:World) (hr:RowS w a0 n fun i=>.slice (aa i) (ls i) (cs i)) (h:L<(n:Int)+(sumL ls n:Nat)) (h0:0<=L) (hL:L<=1048576) (hm:n<=maxLen) (hl:∀ i,i<n->ls i<=maxLen):
  Calls prog 51 #[.slice a0 n cap,.int .i64 L] w fun e w'=>e=.returned (.int .i64 (-1))/\w'=w:=by
 have hm':(n:Int)<=9223372036854775807:=by unfold maxLen at hm;omega
 by_cases hn0:L - (n:Int)<0
 ·go_enter func51,ntmps51
  go_wp2;go_ret;exact ⟨rfl,rfl⟩
 have hn:(n:Int)<=1048576:=by omega
 have HR:Hid (RowS w a0 n fun i=>.slice (aa i) (ls i) (cs i)):=hr;have HS:Hid (L<(n:Int)+(sumL ls n:Nat)):=h;have HL:Hid (∀ i,i<n->ls i<=maxLen):=hl;clear hr h hl hm
 go_enter func51,ntmps51
 go_wp2_with fail
 go_loopw [1,5] (fun q i wr=>∃ k:Nat,k<=n/\i=.int .i64 k/\q=.int .i64 (L - n - (sumL ls k:Nat))/\0<=L - n - (sumL ls k:Nat)/\wr=w) (fun _ i _=>n - (intOf i).toNat)
 case atStart=>exact ⟨0,nD _,rfl,by simp [sumL],by simp only [sumL];omega,rfl⟩
 case round=>
  obtain ⟨k,hk,rfl,rfl,hp,rfl⟩:=hrel;by_cases hlt:k<n
  ·have hlt':(k:Int)<(n:Int):=by omega
   obtain ⟨b,off,rfl,ck⟩:=HR.at hlt;have hml:=HL.out k hlt;have e1:(L - n - (sumL ls k:Nat)) - (ls k:Int)=L - n - (sumL ls (k+1):Nat):=by simp only [sumL];omega
   have HE:Hid ((L - n - (sumL ls k:Nat)) - (ls k:Int)=L - n - (sumL ls (k+1):Nat)):=e1;have e4:L - n - (sumL ls k:Nat)<=1048576:=by omega
   clear e1;by_cases hb:(ls k:Int)<=L - n - (sumL ls k:Nat)
   ·have e3:0<=L - n - (sumL ls (k+1):Nat):=by have:=HE.out;omega
    have e3':¬ (L - n - (sumL ls (k+1):Nat)<0):=by omega
    generalize hy:L - n - (sumL ls (k+1):Nat)=Y at *;go_wp2_with fail
    refine (qey _ _ _ _ _ hb e4).mono ?_;rintro e w1 ⟨rfl,rfl⟩;rw [HE.out];clear hb e4 hml hp;go_wp2;go_roundw
    case rel=>exact ⟨k+1,by omega,by go_num,by rw [<- hy],by omega,by trivial⟩
    case measure=>simp [intOf];omega
   ·have hb':L - n - (sumL ls k:Nat)<(ls k:Int):=by omega
    go_wp2_with fail
    refine (qjx _ _ _ _ _ hb' hp e4 hml).mono ?_;rintro e w1 ⟨rfl,rfl⟩;clear hb hb' e4 hml hp HE;go_wp2;go_ret;exact ⟨rfl,rfl⟩
  ·have hkl:k=n:=by omega
   subst hkl;have:=HS.out;omega
theorem qs8:(prog.info? 87).map (fun i=>(i.zero,i.size,i.bytes))=some (some nS,1,24):=by kernel_rfl
theorem qix (n:Nat) (hn:n<=1048576) (w:World):
  (Instr.makeSlice 39 (.int .i64 (n:Int)) (.int .i64 (n:Int))).run prog w=.ok (sG w.heap.size n n) (w.alloc (.cells (madeCells #[nS] n) 87)):=by
 have hinfo:=qs8;cases hi:prog.info? 87 with
 | none=>rw [hi] at hinfo;cases hinfo
 | some i=>
  rw [hi] at hinfo;simp only [Option.map_some,nG,Prod.mk.injEq] at hinfo;obtain ⟨hz,hs,hb⟩:=hinfo;have h:=run_make (P:=prog) w 39 87 i _ Tryz.underlying39 hi hz .i64 .i64 (n:Int) (n:Int) (by omega) (Int.le_refl _) (by rw [hb];omega) (by omega);rw [hs] at h;simpa [Value.cells] using h
theorem qjl (w:World) (n:Nat):(w.alloc (.cells (madeCells #[nS] n) 87)).rowIs w.heap.size 87 n (fun _=>.slice none 0 0):=by
 refine ⟨_,blk_alloc_new _ _,size_madeCells _ _,fun i hi=>?_⟩;simp only [madeCells];rw [Array.getElem?_map,Array.getElem?_range,nC hi];have:i % 1=0:=Nat.mod_one i;exact congrArg some (by simp [this])
structure qdw (w:World) (D k:Nat) (f:Nat->Value) (ls:Nat->Nat) (bs:Nat->Nat) (h:Nat->Nat->E3):Prop where
 cel:∀ i,i<k->f i=.slice (some ⟨bs i,0,none⟩) (ls i) (ls i)
 bd:∀ i,i<k->D<bs i/\bs i<w.heap.size
 row:∀ i,i<k->EvAt w (bs i) 0 (ls i) (h i)
 fr:∀ i,i<k->∀ j,w.frozen? ⟨bs i,j,none⟩=false
 up:∀ i j,i<j->j<k->bs i<bs j
theorem qdw.step {w w1:World} {D k:Nat} {f:Nat->Value} {ls:Nat->Nat} {bs:Nat->Nat} {h:Nat->Nat->E3} (o:qdw w D k f ls bs h) (hb:Below w.heap.size w w1) (hD:D<w.heap.size) (hz:w.heap.size<w1.heap.size) (hr:EvAt w1 w.heap.size 0 (ls k) (h k)) (hf:∀ j,w1.frozen? ⟨w.heap.size,j,none⟩=false) (u:Value):
  qdw (w1.setCell ⟨D,k,none⟩ u) D (k+1) (fun i=>if i=k then .slice (some ⟨w.heap.size,0,none⟩) (ls k) (ls k) else f i) ls (fun i=>if i=k then w.heap.size else bs i) h:=by
 have hs:∀ b,b≠D->(w1.setCell ⟨D,k,none⟩ u).heap[b]? = w1.heap[b]?:=fun b hne=>zN _ _ _ _ hne
 have hat:∀ b n g,b≠D->EvAt w1 b 0 n g->EvAt (w1.setCell ⟨D,k,none⟩ u) b 0 n g:=fun b n g hne hg=>fun i hi=>by
  have hc:∀ j,(w1.setCell ⟨D,k,none⟩ u).cell? ⟨b,j,none⟩=w1.cell? ⟨b,j,none⟩:=fun j=>zH (hs b hne);have:=hg i hi;simp only [hc];exact this
 refine ⟨fun i hi=>?_,fun i hi=>?_,fun i hi=>?_,fun i hi j=>?_,fun i j hij hj=>?_⟩
 ·by_cases e:i=k
  ·subst e;simp
  ·simp only [nB e];exact o.cel i (by omega)
 ·by_cases e:i=k
  ·subst e;simp;omega
  ·simp only [nB e,World.size_setCell];have:=o.bd i (by omega);omega
 ·by_cases e:i=k
  ·subst e;simp only [nQ];exact hat _ _ _ (by omega) hr
  ·simp only [nB e];have hbd:=o.bd i (by omega);exact hat _ _ _ (by omega) ((o.row i (by omega)).bw hb hbd.2)
 ·by_cases e:i=k
  ·subst e;simp only [nQ];rw [World.frozen?_setCell];exact hf j
  ·simp only [nB e];rw [World.frozen?_setCell];have hbd:=o.bd i (by omega);exact (hb.frozen (p:=⟨bs i,j,none⟩) hbd.2).trans (o.fr i (by omega) j)
 ·by_cases e:j=k
  ·have hi:i≠k:=by omega
   simp only [nB hi,nC e];exact (o.bd i (by omega)).2
  ·have hi:i≠k:=by omega
   simp only [nB hi,nB e];exact o.up i j hij (by omega)
structure qhw (W:World) (a0:Option Addr) (n:Nat) (aa:Nat->Option Addr) (ls cs:Nat->Nat) (h:Nat->Nat->E3):Prop where
 row:RowS W a0 n fun i=>.slice (aa i) (ls i) (cs i)
 cop:∀ i,i<n->qkb W (aa i) (ls i) (cs i) (h i)
theorem qmb (a0:Option Addr) (n cap:Nat) (aa:Nat->Option Addr) (ls cs:Nat->Nat) (h:Nat->Nat->E3) (W w:World) (hn:n<=1048576) (hA:qhw W a0 n aa ls cs h) (hW:Below W.heap.size W w):
  Calls prog 60 #[.slice a0 n cap] w fun e w'=>e=.returned (sG w.heap.size n n)/\(∃ bs,qay w' w.heap.size w'.heap.size n ls bs h)/\Below w.heap.size w w':=by
 have hl':(n:Int)<=1048576:=by omega
 have hmk:=qix n hn;have HA:Hid (qhw W a0 n aa ls cs h):=hA;have HW:Hid (Below W.heap.size W w):=hW;clear hA hW
 go_enter func60,ntmps60
 go_wp2_with fail
 clear hmk
 go_loopw [4] (fun i wr=>∃ k:Nat,k<=n/\i=.int .i64 k/\(∃ f,wr.rowIs w.heap.size 87 n f/\Hid (∃ bs,qdw wr w.heap.size k f ls bs h))/\Below w.heap.size w wr) (fun i _=>n - (intOf i).toNat)
 case atStart=>exact ⟨0,nD _,rfl,⟨_,qjl w n,fun _=>0,fun i hi=>by omega,fun i hi=>by omega,fun i hi=>by omega,fun i hi=>by omega,fun i j hij hj=>by omega⟩,(nE _ _).alloc (nA _) _⟩
 case round=>
  obtain ⟨k,hk,rfl,⟨f,hrow,HF⟩,hbw⟩:=hrel;have hs:=hrow.lt;by_cases hlt:k<n
  ·have hlt':(k:Int)<(n:Int):=by omega
   have HB:Hid (Below W.heap.size W wr):=HW.trans (hbw.mono HW.size);obtain ⟨b,off,rfl,ck⟩:=(HA.row.bw HB.out).at hlt;have HR:Hid (wr.rowIs w.heap.size 87 n f):=hrow;clear hrow;go_wp2_with fail
   refine (HA.cop k hlt wr HB.out).mono ?_;rintro e w1 ⟨rfl,hi1,hz1,hb1,hf1⟩;have hr1:w1.rowIs w.heap.size 87 n f:=HR.of_block (hb1.block _ hs);have f0:=hr1.frozen k;have g0:=hr1.cell (i:=k) hlt;have HR1:Hid (w1.rowIs w.heap.size 87 n f):=hr1
   have HF1:Hid (∃ bs,qdw (w1.setCell ⟨w.heap.size,k,none⟩ (.slice (some ⟨wr.heap.size,0,none⟩) (ls k) (ls k))) w.heap.size (k+1) (fun i=>if i=k then .slice (some ⟨wr.heap.size,0,none⟩) (ls k) (ls k) else f i) ls bs h):=by
    obtain ⟨bs,o⟩:=HF.out;exact ⟨_,o.step hb1 hs hz1 hi1 hf1 _⟩
   clear hr1 hi1 HF HR hf1;go_wp2_with fail
   exact ⟨⟨k+1,by omega,by go_num,⟨_,HR1.set _ _,HF1.out⟩,(hbw.trans (hb1.mono (nJ hs))).setCell (nA _) _⟩,by simp [intOf];omega⟩
  ·have hkl:k=n:=by omega
   have HO:Hid (∃ bs,qay wr w.heap.size wr.heap.size n ls bs h):=by
    obtain ⟨bs,o⟩:=HF.out;rw [hkl] at o;exact ⟨bs,fun i hi=>by rw [hrow.cell hi,o.cel i hi],o.bd,o.row,o.fr,o.up,nA _,hs⟩
   clear hkl HF hrow;go_wp2;go_ret;exact ⟨rfl,HO.out,hbw⟩
theorem qjb (D1 h1 D2 h2 n c1 c2:Nat) (ls b1 b2:Nat->Nat) (h:Nat->Nat->E3) (w:World) (hn:n<=1048576) (hl:∀ i,i<n->ls i<=1048576) (o1:qay w D1 h1 n ls b1 h) (o2:qay w D2 h2 n ls b2 h):
  Calls prog 83 #[.slice (some ⟨D1,0,none⟩) n c1,.slice (some ⟨D2,0,none⟩) n c2] w (rB w (.bool true)):=by
 have hl':(n:Int)<=1048576:=by omega
 have O1:Hid (qay w D1 h1 n ls b1 h):=o1;have O2:Hid (qay w D2 h2 n ls b2 h):=o2;have HL:Hid (∀ i,i<n->ls i<=1048576):=hl;clear o1 o2 hl
 go_enter func83,ntmps83
 go_wp2_with fail
 go_loopw [5] (fun i wr=>∃ k:Nat,k<=n/\i=.int .i64 k/\Below w.heap.size w wr) (fun i _=>n - (intOf i).toNat)
 case atStart=>exact ⟨0,nD _,rfl,nE _ _⟩
 case round=>
  obtain ⟨k,hk,rfl,hbw⟩:=hrel;have hs:=hbw.size;by_cases hlt:k<n
  ·have P1:Hid (qay wr D1 h1 n ls b1 h):=O1.bw hbw O1.le
   have P2:Hid (qay wr D2 h2 n ls b2 h):=O2.bw hbw O2.le;have ck:=P1.cel k hlt;have dk:=P2.cel k hlt;have hlt':(k:Int)<(n:Int):=by omega
   go_wp2_with fail
   first|(go_region_with (go_at_call 150;refine (qfn (b1 k) (b2 k) (ls k) (ls k) (ls k) (h k) wr.drew (HL.out k hlt) (zL (P1.bd k hlt).2 P1.le) (zL (P2.bd k hlt).2 P2.le) (P1.row k hlt) (P2.row k hlt)).mono ?_;rintro e w1 ⟨rfl,hq1⟩)) | fail
   all_goals
    go_wp2;go_roundw
    case rel=>exact ⟨k+1,by omega,by go_num,hbw.drew.trans (hq1.mono hs)⟩
    case measure=>simp [intOf];omega
  ·go_wp2
   go_ret;exact ⟨rfl,hbw⟩
theorem qio (D hi n cap:Nat) (ls bs:Nat->Nat) (h:Nat->Nat->E3) (k:Int) (w:World) (hn:n<=1048576) (hl:sumL ls n<=1048576) (k0:0<=k) (k1:k<=50000000) (o:qay w D hi n ls bs h):
  Calls prog 90 #[.slice (some ⟨D,0,none⟩) n cap,.int .i64 k] w fun e w'=>e=.returned (.int .i64 (k+3*(sumL ls n:Nat)))/\qaa (fun b=>D<b/\b<hi) w w':=by
 have hl':(n:Int)<=1048576:=by omega
 have O:Hid (qay w D hi n ls bs h):=o;have HL:Hid (sumL ls n<=1048576):=hl;clear o hl
 go_enter func90,ntmps90
 go_wp2_with fail
 go_loopw [1,5] (fun q i wr=>∃ j:Nat,j<=n/\i=.int .i64 j/\q=.int .i64 (k+3*(sumL ls j:Nat))/\Hid (qaa (fun b=>∃ t,t<j/\b=bs t) w wr)) (fun _ i _=>n - (intOf i).toNat)
 case atStart=>exact ⟨0,nD _,rfl,by simp [sumL],qaa.refl _ _⟩
 case round=>
  obtain ⟨j,hj,rfl,rfl,HT⟩:=hrel;by_cases hlt:j<n
  ·have hlt':(j:Int)<(n:Int):=by omega
   have dD:¬ ∃ t,t<j/\D=bs t:=by
    rintro ⟨t,ht,e⟩;have:=(O.bd t (by omega)).1;omega
   have dJ:¬ ∃ t,t<j/\bs j=bs t:=by
    rintro ⟨t,ht,e⟩;have:=O.up t j ht hlt;omega
   have bJ:=O.bd j hlt;have le:=O.le;have ck:wr.cell? ⟨D,j,none⟩=some (.slice (some ⟨bs j,0,none⟩) (ls j) (ls j)):=(HT.cell (zL O.lt le) dD j).trans (O.cel j hlt)
   have RM:Hid (qhj wr (bs j) (ls j)):=by
    have hb:wr.heap[bs j]? = w.heap[bs j]?:=HT.block (bs j) (by omega) dJ;have hrm:qhj w (bs j) (ls j):=qhj.of_ev (O.row j hlt) (O.fr j hlt);exact ⟨fun i hi=>(hrm.1 i hi).elim fun u e=>⟨u,(zH hb).trans e⟩,fun i=>(zI hb).trans (hrm.2 i)⟩
   have hsl:=qbf ls hlt;have hS:=HL.out;have e1:k+3*(sumL ls j:Nat)+3*(ls j:Int)=k+3*(sumL ls (j+1):Nat):=by simp only [sumL];omega
   have HE:Hid (k+3*(sumL ls j:Nat)+3*(ls j:Int)=k+3*(sumL ls (j+1):Nat)):=e1;have e2:0<=k+3*(sumL ls j:Nat):=by omega
   have e3:k+3*(sumL ls j:Nat)<=100000000:=by omega
   have e4:ls j<=1048576:=by omega
   clear dD bJ le e1 hS hsl;go_wp2_with fail
   refine (qjn (bs j) (ls j) (ls j) _ wr e4 e2 e3 RM.out).mono ?_;rintro e w1 ⟨rfl,g1⟩;rw [HE.out];have HT1:Hid (qaa (fun b=>∃ t,t<j+1/\b=bs t) w w1):=(HT.mono fun b ⟨t,ht,e⟩=>⟨t,by omega,e⟩).trans (qaa.of_grown g1 fun b e=>⟨j,by omega,by simpa using e.symm⟩);clear HT dJ RM e2 e3 e4 g1;go_wp2;go_roundw
   case rel=>exact ⟨j+1,by omega,by go_num,rfl,HT1.out⟩
   case measure=>simp [intOf];omega
  ·have hkl:j=n:=by omega
   subst hkl
   have HT1:Hid (qaa (fun b=>D<b/\b<hi) w wr):=HT.mono fun b ⟨t,ht,e⟩=>by
    subst e;exact O.bd t ht
   clear HT;go_wp2;go_ret;exact ⟨rfl,HT1.out⟩
theorem qn5 {H:Type} {enc:TypeId × Value->H} {w:World} {spare:Nat->Bool} {held:Bool} {base:Nat} {a0:Option Addr} {len cap:Nat} {d:DataW H} {p:List MemPlace}
  (h:DataW.Trod enc prog w base spare held 25 (.slice a0 len cap) d p):
  len<=maxLen/\∃ aa ls cs,RowS w a0 len (fun i=>.slice (aa i) (ls i) (cs i))/\(∀ i,i<len->ls i<=maxLen)/\((∀ i,i<len->ls i<=1048576)->∃ hh,qhw w a0 len aa ls cs hh):=by
 obtain ⟨hm,f,hrow,hf⟩:=qdk Tryz.underlying25 (el:=163) (by kernel_rfl) h;refine ⟨hm,?_⟩
 have hpart:∀ i,i<len->∃ x:Option Addr × Nat × Nat,f i=.slice x.1 x.2.1 x.2.2/\x.2.1<=maxLen/\(x.2.1<=1048576->∃ g,qkb w x.1 x.2.1 x.2.2 g):=by
  intro i hi;obtain ⟨m,x,hx⟩:=hf i hi
  have hsl:∃ a l c,f i=.slice a l c:=by
   rcases Go.Deep.open_slice Tryz.underlying163 hx with ⟨hcs,_⟩ | ⟨a,len',cap',m,n,D,Pl,hcs,_⟩
   ·simp at hcs
    exact ⟨_,_,_,hcs⟩
   ·simp at hcs
    exact ⟨_,_,_,hcs⟩
  obtain ⟨a,l,c,e⟩:=hsl;rw [e] at hx;obtain ⟨h1,h2⟩:=qtt (d:=x.1) (p:=x.2) (a0:=a) (len:=l) (cap:=c) ⟨m,by simpa [Value.cells] using hx⟩;exact ⟨(a,l,c),e,h1,fun hs=>qsr hs h2⟩
 obtain ⟨g,hg⟩:=Go.Deep.choose_lt (α:=Option Addr × Nat × Nat) hpart;refine ⟨fun i=>(g i).1,fun i=>(g i).2.1,fun i=>(g i).2.2,?_,fun i hi=>(hg i hi).2.1,fun hs=>?_⟩
 ·rcases hrow with h0 | ⟨b,off,e,hlt,hc⟩
  ·exact .inl h0
  ·exact .inr ⟨b,off,e,hlt,fun i hi=>(hc i hi).trans (by rw [(hg i hi).1])⟩
 ·have hq:∀ i,i<len->∃ q:Nat->E3,qkb w (g i).1 (g i).2.1 (g i).2.2 q:=fun i hi=>(hg i hi).2.2 (hs i hi)
  have inh:Inhabited (Nat->E3):=⟨fun _=>⟨0,0,0⟩⟩
  obtain ⟨hh,hhh⟩:=Go.Deep.choose_lt (α:=Nat->E3) hq;refine ⟨hh,?_,hhh⟩
  rcases hrow with h0 | ⟨b,off,e,hlt,hc⟩
  ·exact .inl h0
  ·exact .inr ⟨b,off,e,hlt,fun i hi=>(hc i hi).trans (by rw [(hg i hi).1])⟩
structure SysIn where
 pa:Option Addr
 pn:Nat
 pc:Nat
 pA:Nat->Option Addr
 pL:Nat->Nat
 pC:Nat->Nat
 pH:Nat->Nat->I5
 sa:Option Addr
 sn:Nat
 sc:Nat
 sQ:Nat->St8
 wa:Option Addr
 wn:Nat
 wc:Nat
 wA:Nat->Option Addr
 wL:Nat->Nat
 wC:Nat->Nat
 wH:Nat->Nat->I2
 ha:Option Addr
 hn:Nat
 hc:Nat
 hA:Nat->Option Addr
 hL:Nat->Nat
 hC:Nat->Nat
 hH:Nat->Nat->E3
abbrev SysIn.oX (x:SysIn):Obj:=oQ4 x.pa x.pn x.pc x.sa x.sn x.sc x.wa x.wn x.wc x.ha x.hn x.hc
abbrev SysIn.bX (x:SysIn) (w:World) (N:Nat):Prop:=BoxC w N (.slice x.pa x.pn x.pc) (.slice x.sa x.sn x.sc) (.slice x.wa x.wn x.wc) (.slice x.ha x.hn x.hc)
def SysIn.sS (x:SysIn):Nat->S4:=fun i=>(x.sQ i).s
def SysIn.size (x:SysIn):Nat:=x.pn+sumL x.pL x.pn+(x.sn+sumL (lenS x.sS) x.sn)+(x.wn+sumL x.wL x.wn)+(x.hn+sumL x.hL x.hn)
abbrev sysV (pa:Option Addr) (pn pc:Nat) (sa:Option Addr) (sn sc:Nat) (wa:Option Addr) (wn wc:Nat) (ha:Option Addr) (hn hc:Nat):Value:=.agg #[.slice pa pn pc,.slice sa sn sc,.slice wa wn wc,.slice ha hn hc]
structure SysIn.Row (W:World) (x:SysIn):Prop where
 p:RowS W x.pa x.pn fun i=>.slice (x.pA i) (x.pL i) (x.pC i)
 s:qbg W x.sa x.sn x.sQ
 w:RowS W x.wa x.wn fun i=>.slice (x.wA i) (x.wL i) (x.wC i)
 h:RowS W x.ha x.hn fun i=>.slice (x.hA i) (x.hL i) (x.hC i)
structure SysIn.Max (x:SysIn):Prop where
 p:x.pn<=maxLen/\∀ i,i<x.pn->x.pL i<=maxLen
 s:x.sn<=maxLen/\∀ i,i<x.sn->(x.sQ i).rs.length<=maxLen/\(x.sQ i).os.length<=maxLen
 w:x.wn<=maxLen/\∀ i,i<x.wn->x.wL i<=maxLen
 h:x.hn<=maxLen/\∀ i,i<x.hn->x.hL i<=maxLen
structure SysIn.Ok (W:World) (x:SysIn):Prop where
 p:qrb W x.pa x.pn x.pA x.pL x.pC x.pH
 s:qbg W x.sa x.sn x.sQ
 w:qka W x.wa x.wn x.wA x.wL x.wC x.wH
 h:qhw W x.ha x.hn x.hA x.hL x.hC x.hH
theorem SysIn.Ok.row {W:World} {x:SysIn} (h:x.Ok W):x.Row W:=⟨h.p.row,h.s,h.w.row,h.h.row⟩
theorem SysIn.Row.bw {W w:World} {x:SysIn} (h:x.Row W) (hb:Below W.heap.size W w):x.Row w:=⟨h.p.bw hb,h.s.bw hb,h.w.bw hb,h.h.bw hb⟩
theorem qi6 (x:SysIn) (w:World) (hr:x.Row w) (h:x.size<=1048576):
  Calls prog 17 #[sysV x.pa x.pn x.pc x.sa x.sn x.sc x.wa x.wn x.wc x.ha x.hn x.hc,.int .i64 1048576] w (rB w (.int .i64 (1048576 - (x.size:Nat)))):=by
 have HR:Hid (x.Row w):=hr;have hh:x.size=x.pn+sumL x.pL x.pn+(x.sn+sumL (lenS x.sS) x.sn)+(x.wn+sumL x.wL x.wn)+(x.hn+sumL x.hL x.hn):=rfl;generalize e1:(1048576:Int) - x.pn - (sumL x.pL x.pn:Nat)=L1;generalize e2:L1 - x.sn - (sumL (lenS x.sS) x.sn:Nat)=L2;generalize e3:L2 - x.wn - (sumL x.wL x.wn:Nat)=L3;have n1:¬ L1<0:=by omega
 have n2:¬ L2<0:=by omega
 have n3:¬ L3<0:=by omega
 have n4:¬ L3 - x.hn - (sumL x.hL x.hn:Nat)<0:=by omega
 have q1:((x.pn:Int)+(sumL x.pL x.pn:Nat)<=1048576):=by omega
 have q2:((x.sn:Int)+(sumL (lenS x.sS) x.sn:Nat)<=L1)/\L1<=1048576:=by omega
 have q3:((x.wn:Int)+(sumL x.wL x.wn:Nat)<=L2)/\L2<=1048576:=by omega
 have q4:((x.hn:Int)+(sumL x.hL x.hn:Nat)<=L3)/\L3<=1048576:=by omega
 have e4:L3 - x.hn - (sumL x.hL x.hn:Nat)=1048576 - (x.size:Nat):=by omega
 have E1:Hid ((1048576:Int) - x.pn - (sumL x.pL x.pn:Nat)=L1):=e1;have E2:Hid (L1 - x.sn - (sumL (lenS x.sS) x.sn:Nat)=L2):=e2;have E3:Hid (L2 - x.wn - (sumL x.wL x.wn:Nat)=L3):=e3;have E4:Hid (L3 - x.hn - (sumL x.hL x.hn:Nat)=1048576 - (x.size:Nat)):=e4;have Q:Hid (((x.pn:Int)+(sumL x.pL x.pn:Nat)<=1048576)/\(((x.sn:Int)+(sumL (lenS x.sS) x.sn:Nat)<=L1)/\L1<=1048576)/\(((x.wn:Int)+(sumL x.wL x.wn:Nat)<=L2)/\L2<=1048576)/\(((x.hn:Int)+(sumL x.hL x.hn:Nat)<=L3)/\L3<=1048576)):=⟨q1,q2,q3,q4⟩
 rw [e4] at n4;clear hr h hh e1 e2 e3 e4 q1 q2 q3 q4
 go_enter func17,ntmps17
 go_wp2_with fail
 refine (qcy _ _ _ _ x.pL _ _ _ (HR.p.bw (by go_grown)) Q.1 (Int.le_refl _)).mono ?_;rintro e w1 ⟨rfl,rfl⟩;rw [E1.out];go_wp2_with fail
 refine (qdc _ _ _ x.sQ _ _ (HR.s.bw (by go_grown)) Q.2.1.1 Q.2.1.2).mono ?_;rintro e w2 ⟨rfl,b2⟩;rw [show ((sumL (lenS fun i=>(x.sQ i).s) x.sn:Nat):Int)=(sumL (lenS x.sS) x.sn:Nat) from rfl,E2.out];have B2:Hid (Below w.heap.size w w2):=qai (by go_grown) b2 (by simp);have hw2:=b2.size;obtain ⟨hc2,hf2⟩:=qap b2;clear b2;go_wp2_with fail
 refine (qez _ _ _ _ x.wL _ _ _ (HR.w.bw B2.out) Q.2.2.1.1 Q.2.2.1.2).mono ?_;rintro e w3 ⟨rfl,rfl⟩;rw [E3.out];go_wp2_with fail
 refine (qi5 _ _ _ _ x.hL _ _ _ (HR.h.bw B2.out) Q.2.2.2.1 Q.2.2.2.2).mono ?_;rintro e w4 ⟨rfl,rfl⟩;rw [E4.out];go_wp2;go_ret;exact ⟨rfl,B2.out⟩
theorem qq0 (x:SysIn) (w:World) (hr:x.Row w) (hm:x.Max) (h:1048576<x.size):
  Calls prog 17 #[sysV x.pa x.pn x.pc x.sa x.sn x.sc x.wa x.wn x.wc x.ha x.hn x.hc,.int .i64 1048576] w (rB w (.int .i64 (-1))):=by
 have HR:Hid (x.Row w):=hr;have HM:Hid x.Max:=hm;have hh:x.size=x.pn+sumL x.pL x.pn+(x.sn+sumL (lenS x.sS) x.sn)+(x.wn+sumL x.wL x.wn)+(x.hn+sumL x.hL x.hn):=rfl;have HH:Hid (1048576<x.pn+sumL x.pL x.pn+(x.sn+sumL (lenS x.sS) x.sn)+(x.wn+sumL x.wL x.wn)+(x.hn+sumL x.hL x.hn)):=hh ▸ h;clear hr h hh hm;by_cases q1:(x.pn:Int)+(sumL x.pL x.pn:Nat)<=1048576
 case neg=>
  have Q1:Hid (1048576<(x.pn:Int)+(sumL x.pL x.pn:Nat)):=by show 1048576<_;omega
  clear q1
  go_enter func17,ntmps17
  go_wp2_with fail
  refine (ql5 _ _ _ _ x.pL _ _ _ (HR.p.bw (by go_grown)) Q1.out (by omega) (Int.le_refl _) HM.p.1 HM.p.2).mono ?_;rintro e w1 ⟨rfl,rfl⟩;go_wp2;go_ret;exact ⟨rfl,by go_grown⟩
 generalize e1:(1048576:Int) - x.pn - (sumL x.pL x.pn:Nat)=L1;have E1:Hid ((1048576:Int) - x.pn - (sumL x.pL x.pn:Nat)=L1):=e1;have n1:¬ L1<0:=by omega
 have n1':0<=L1/\L1<=1048576:=by omega
 have N1:Hid (0<=L1/\L1<=1048576):=n1';have Q1:Hid ((x.pn:Int)+(sumL x.pL x.pn:Nat)<=1048576):=q1;by_cases q2:(x.sn:Int)+(sumL (lenS x.sS) x.sn:Nat)<=L1
 case neg=>
  have Q2:Hid (L1<(x.sn:Int)+(sumL (lenS x.sS) x.sn:Nat)):=by show L1<_;omega
  clear q1 q2 e1 n1'
  go_enter func17,ntmps17
  go_wp2_with fail
  refine (qcy _ _ _ _ x.pL _ _ _ (HR.p.bw (by go_grown)) Q1.out (Int.le_refl _)).mono ?_;rintro e w1 ⟨rfl,rfl⟩;rw [E1.out];go_wp2_with fail
  refine (qjz _ _ _ x.sQ _ _ (HR.s.bw (by go_grown)) Q2.out N1.1 N1.2 HM.s.1 HM.s.2).mono ?_;rintro e w2 ⟨rfl,b2⟩;have B2:Hid (Below w.heap.size w w2):=qai (by go_grown) b2 (by simp);go_wp2;go_ret;exact ⟨rfl,B2.out⟩
 generalize e2:L1 - x.sn - (sumL (lenS x.sS) x.sn:Nat)=L2;have E2:Hid (L1 - x.sn - (sumL (lenS x.sS) x.sn:Nat)=L2):=e2;have n2:¬ L2<0:=by omega
 have n2':0<=L2/\L2<=1048576:=by omega
 have N2:Hid (0<=L2/\L2<=1048576):=n2';have Q2:Hid ((x.sn:Int)+(sumL (lenS x.sS) x.sn:Nat)<=L1):=q2;by_cases q3:(x.wn:Int)+(sumL x.wL x.wn:Nat)<=L2
 case neg=>
  have Q3:Hid (L2<(x.wn:Int)+(sumL x.wL x.wn:Nat)):=by show L2<_;omega
  clear q1 q2 q3 e1 e2 n1' n2'
  go_enter func17,ntmps17
  go_wp2_with fail
  refine (qcy _ _ _ _ x.pL _ _ _ (HR.p.bw (by go_grown)) Q1.out (Int.le_refl _)).mono ?_;rintro e w1 ⟨rfl,rfl⟩;rw [E1.out];go_wp2_with fail
  refine (qdc _ _ _ x.sQ _ _ (HR.s.bw (by go_grown)) Q2.out N1.2).mono ?_;rintro e w2 ⟨rfl,b2⟩;rw [show ((sumL (lenS fun i=>(x.sQ i).s) x.sn:Nat):Int)=(sumL (lenS x.sS) x.sn:Nat) from rfl,E2.out];have B2:Hid (Below w.heap.size w w2):=qai (by go_grown) b2 (by simp);have hw2:=b2.size;obtain ⟨hc2,hf2⟩:=qap b2;clear b2;go_wp2_with fail
  refine (qjy _ _ _ _ x.wL _ _ _ (HR.w.bw B2.out) Q3.out N2.1 N2.2 HM.w.1 HM.w.2).mono ?_;rintro e w3 ⟨rfl,rfl⟩;go_wp2;go_ret;exact ⟨rfl,B2.out⟩
 generalize e3:L2 - x.wn - (sumL x.wL x.wn:Nat)=L3;have E3:Hid (L2 - x.wn - (sumL x.wL x.wn:Nat)=L3):=e3;have n3:¬ L3<0:=by omega
 have n3':0<=L3/\L3<=1048576:=by omega
 have N3:Hid (0<=L3/\L3<=1048576):=n3';have Q3:Hid ((x.wn:Int)+(sumL x.wL x.wn:Nat)<=L2):=q3
 have Q4:Hid (L3<(x.hn:Int)+(sumL x.hL x.hn:Nat)):=by
  show L3<_;have:=HH.out;omega
 clear q1 q2 q3 e1 e2 e3 n1' n2' n3' HH
 go_enter func17,ntmps17
 go_wp2_with fail
 refine (qcy _ _ _ _ x.pL _ _ _ (HR.p.bw (by go_grown)) Q1.out (Int.le_refl _)).mono ?_;rintro e w1 ⟨rfl,rfl⟩;rw [E1.out];go_wp2_with fail
 refine (qdc _ _ _ x.sQ _ _ (HR.s.bw (by go_grown)) Q2.out N1.2).mono ?_;rintro e w2 ⟨rfl,b2⟩;rw [show ((sumL (lenS fun i=>(x.sQ i).s) x.sn:Nat):Int)=(sumL (lenS x.sS) x.sn:Nat) from rfl,E2.out];have B2:Hid (Below w.heap.size w w2):=qai (by go_grown) b2 (by simp);have hw2:=b2.size;obtain ⟨hc2,hf2⟩:=qap b2;clear b2;go_wp2_with fail
 refine (qez _ _ _ _ x.wL _ _ _ (HR.w.bw B2.out) Q3.out N2.2).mono ?_;rintro e w3 ⟨rfl,rfl⟩;rw [E3.out];go_wp2_with fail
 refine (qi4 _ _ _ _ x.hL _ _ _ (HR.h.bw B2.out) Q4.out N3.1 N3.2 HM.h.1 HM.h.2).mono ?_;rintro e w4 ⟨rfl,rfl⟩;go_wp2;go_ret;exact ⟨rfl,B2.out⟩
structure qre (w:World) (lo hi:Nat) (x:SysIn) (v:Value) (D1 D2 D3 D4:Nat) (b1:Nat->Nat) (vs:Nat->Value) (b3 b4:Nat->Nat) (h1 h2 h3:Nat):Prop where
 val:v=sysV (some ⟨D1,0,none⟩) x.pn x.pn (some ⟨D2,0,none⟩) x.sn x.sn (some ⟨D3,0,none⟩) x.wn x.wn (some ⟨D4,0,none⟩) x.hn x.hn
 pp:qbo w D1 h1 x.pn x.pL b1 x.pH
 ss:qav w D2 h2 x.sn x.sS vs
 ww:qa6 w D3 h3 x.wn x.wL b3 x.wH
 hh:qay w D4 hi x.hn x.hL b4 x.hH
 lo:lo<=D1
 o1:h1<=D2
 o2:h2<=D3
 o3:h3<=D4
def qcc (w:World) (lo hi:Nat) (x:SysIn) (v:Value):Prop:=∃ D1 D2 D3 D4 b1 vs b3 b4 h1 h2 h3,qre w lo hi x v D1 D2 D3 D4 b1 vs b3 b4 h1 h2 h3
theorem qre.hi {w:World} {lo hi:Nat} {x:SysIn} {v:Value} {D1 D2 D3 D4:Nat} {b1:Nat->Nat} {vs:Nat->Value} {b3 b4:Nat->Nat} {h1 h2 h3:Nat} (o:qre w lo hi x v D1 D2 D3 D4 b1 vs b3 b4 h1 h2 h3):h1<=hi/\h2<=hi/\h3<=hi/\hi<=w.heap.size/\lo<hi:=by
 have:=o.pp.lt;have:=o.ss.lt;have:=o.ww.lt;have:=o.hh.lt;have:=o.lo;have:=o.o1;have:=o.o2;have:=o.o3;have:=o.hh.le;omega
theorem qcc.bw {w w':World} {lo hi:Nat} {x:SysIn} {v:Value} {B:Nat} (o:qcc w lo hi x v) (hb:Below B w w') (hB:hi<=B):qcc w' lo hi x v:=by
 obtain ⟨D1,D2,D3,D4,b1,vs,b3,b4,h1,h2,h3,o⟩:=o;obtain ⟨q1,q2,q3,-,-⟩:=o.hi;exact ⟨D1,D2,D3,D4,b1,vs,b3,b4,h1,h2,h3,o.val,o.pp.bw hb (by omega),o.ss.bw hb (by omega),o.ww.bw hb (by omega),o.hh.bw hb hB,o.lo,o.o1,o.o2,o.o3⟩
def cnt (eh:Nat->E3) (kd pr:Int) (n:Nat):Nat:=(plN eh kd pr n).length
theorem qwe (eh:Nat->E3) (kd pr:Int):cnt eh kd pr 0=0:=rfl
theorem qko {eh:Nat->E3} {kd pr:Int} {n:Nat} (h:hitB eh kd pr n=true):cnt eh kd pr (n+1)=cnt eh kd pr n+1:=by
 unfold cnt;rw [plN,nC h,List.length_append];rfl
theorem qpo {eh:Nat->E3} {kd pr:Int} {n:Nat} (h:hitB eh kd pr n=false):cnt eh kd pr (n+1)=cnt eh kd pr n:=by
 unfold cnt;rw [plN,nB (by rw [h];decide)]
theorem qxp (eh:Nat->E3) (kd pr:Int) (n:Nat):cnt eh kd pr n<=n:=qr2 eh kd pr n
theorem qkp (eh:Nat->E3) (kd pr:Int) {a b:Nat} (h:a<=b):cnt eh kd pr a<=cnt eh kd pr b:=by
 induction b with
 | zero=>
  have:a=0:=by omega
  subst this;exact nA _
 | succ b ih=>
  by_cases e:a=b+1
  ·subst e
   exact nA _
  ·have:=ih (by omega)
   rcases zK (hitB eh kd pr b) with t | t
   ·rw [qko t]
    omega
   ·rw [qpo t]
    exact this
theorem qeh {eh:Nat->E3} {kd pr:Int} {i:Nat}:hitB eh kd pr i=true ↔ (eh i).k=kd/\(eh i).q=pr:=by
 simp [hitB]
structure Hs where
 n:Nat
 l:Nat->Nat
 e:Nat->Nat->E3
def Hs.Peers (x:Hs):Prop:=∀ p,p<x.n->∀ i,i<x.l p->0<=(x.e p i).q/\(x.e p i).q<(x.n:Int)
def Hs.Can (x:Hs) (d:Nat->Nat) (p:Nat):Prop:=
 d p<x.l p/\((x.e p (d p)).k=3->cnt (x.e p) 3 (x.e p (d p)).q (d p)<cnt (x.e (x.e p (d p)).q.toNat) 2 p (d (x.e p (d p)).q.toNat))
def up (d:Nat->Nat) (p:Nat):Nat->Nat:=fun i=>if i=p then d i+1 else d i
theorem qee (d:Nat->Nat) (p:Nat):up d p p=d p+1:=by simp [up]
theorem up_other {d:Nat->Nat} {p i:Nat} (h:i≠p):up d p i=d i:=by simp [up,h]
inductive Hs.Put (x:Hs):(Nat->Nat)->Prop
 | start:x.Put (fun _=>0)
 | next {d:Nat->Nat} {p:Nat}:x.Put d->p<x.n->x.Can d p->x.Put (up d p)
def Hs.All (x:Hs) (d:Nat->Nat):Prop:=∀ p,p<x.n->d p=x.l p
def Hs.Row (x:Hs):Prop:=∃ d,x.Put d/\x.All d
theorem Hs.Put.le {x:Hs} {d:Nat->Nat} (h:x.Put d):∀ p,d p<=x.l p:=by
 induction h with
 | start=>exact fun _=>nD _
 | next _ _ hc ih=>
  rename_i d p _ _;intro i;by_cases e:i=p
  ·subst e
   rw [qee];exact hc.1
  ·rw [up_other e]
   exact ih i
theorem Hs.Put.stuck {x:Hs} {d s:Nat->Nat} (h:x.Put d) (hp:x.Peers) (hs:∀ p,p<x.n->¬ x.Can s p):∀ p,p<x.n->d p<=s p:=by
 induction h with
 | start=>exact fun _ _=>nD _
 | next _ hpn hc ih=>
  rename_i d p _;intro i hi;by_cases e:i=p
  ·subst e
   rw [qee];have h1:=ih i hi;by_cases e:d i=s i
   ·exfalso
    refine hs i hi ⟨by rw [<- e];exact hc.1,fun hk=>?_⟩;rw [<- e] at hk ⊢;have h2:=hc.2 hk;have hq:=hp i hi (d i) hc.1;exact zL h2 (qkp _ _ _ (ih _ (by omega)))
   ·omega
  ·rw [up_other e]
   exact ih i hi
theorem Hs.row_iff {x:Hs} {s:Nat->Nat} (h:x.Put s) (hp:x.Peers) (hs:∀ p,p<x.n->¬ x.Can s p):x.Row ↔ x.All s:=by
 refine ⟨fun ⟨d,hd,ha⟩ p hpn=>?_,fun ha=>⟨s,h,ha⟩⟩;have h1:=hd.stuck hp hs p hpn;have h2:=h.le p;have h3:=ha p hpn;omega
def Hs.opn (x:Hs) (d:Nat->Nat) (a b:Nat):Int:=(cnt (x.e a) 2 b (d a):Int) - (cnt (x.e b) 3 a (d b):Int)
theorem Hs.opn_start (x:Hs) (a b:Nat):x.opn (fun _=>0) a b=0:=by simp [Hs.opn,qwe]
theorem Hs.can_iff {x:Hs} {d:Nat->Nat} {p:Nat} (hp:x.Peers) (hpn:p<x.n):x.Can d p ↔ d p<x.l p/\((x.e p (d p)).k=3->0<x.opn d (x.e p (d p)).q.toNat p):=by
 unfold Hs.Can Hs.opn;refine and_congr_right fun hl=>?_;have hq:=hp p hpn _ hl;rw [show (((x.e p (d p)).q.toNat:Nat):Int)=(x.e p (d p)).q by omega];refine ⟨fun h hk=>?_,fun h hk=>?_⟩
 ·have:=h hk
  omega
 ·have:=h hk
  omega
theorem Hs.opn_up {x:Hs} {d:Nat->Nat} {p a b:Nat}:x.opn (up d p) a b=x.opn d a b+(if a=p/\(x.e p (d p)).k=2/\(x.e p (d p)).q=(b:Int) then 1 else 0) - (if b=p/\(x.e p (d p)).k=3/\(x.e p (d p)).q=(a:Int) then 1 else 0):=by
 have hA:(cnt (x.e a) 2 b (up d p a):Int)=cnt (x.e a) 2 b (d a)+(if a=p/\(x.e p (d p)).k=2/\(x.e p (d p)).q=(b:Int) then 1 else 0):=by
  by_cases e:a=p
  ·subst e
   rw [qee]
   rcases zK (hitB (x.e a) 2 b (d a)) with t | t
   ·rw [qko t,nC ⟨rfl,qeh.1 t⟩]
    omega
   ·rw [qpo t,nB (fun h=>by rw [qeh.2 h.2] at t;cases t)]
    omega
  ·rw [up_other e,nB (fun h=>e h.1)]
   omega
 have hB:(cnt (x.e b) 3 a (up d p b):Int)=cnt (x.e b) 3 a (d b)+(if b=p/\(x.e p (d p)).k=3/\(x.e p (d p)).q=(a:Int) then 1 else 0):=by
  by_cases e:b=p
  ·subst e
   rw [qee]
   rcases zK (hitB (x.e b) 3 a (d b)) with t | t
   ·rw [qko t,nC ⟨rfl,qeh.1 t⟩]
    omega
   ·rw [qpo t,nB (fun h=>by rw [qeh.2 h.2] at t;cases t)]
    omega
  ·rw [up_other e,nB (fun h=>e h.1)]
   omega
 unfold Hs.opn;rw [hA,hB];omega
def numL (h:Nat->I2):Nat->List Int
 | 0=>[]
 | n+1=>if (h n).m=true then numL h n else numL h n ++ [(h n).v]
theorem qgn (h:Nat->I2):∀ n,(numL h n).length<=n
 | 0=>nA _
 | n+1=>by
  unfold numL;have:=qgn h n
  split
  ·omega
  ·simp;omega
theorem qhz {h:Nat->I2} {n:Nat} (hh:(h n).m=false):numL h (n+1)=numL h n ++ [(h n).v]:=by
 rw [numL,nB (by rw [hh];decide)]
theorem qr1 {h:Nat->I2} {n:Nat} (hh:(h n).m=true):numL h (n+1)=numL h n:=by
 rw [numL,nC hh]
theorem zT {w:World} {B:Nat} {e:TypeId} {sz:Nat} {v:Value} {n:Nat} {xs:List Value} (h:w.ownsRow B e sz v n xs):∃ a c,v=.slice a n c:=by
 rcases h.2 with ⟨rfl,rfl⟩ | ⟨g,cap,cur,rfl,_⟩
 ·exact ⟨none,0,rfl⟩
 ·exact ⟨_,_,rfl⟩
theorem qnq (a0:Option Addr) (n cap:Nat) (A:Nat->Option Addr) (L C:Nat->Nat) (H:Nat->Nat->I5) (w:World) (hn:n<=1048576) (hL:∀ i,i<n->L i<=1048576) (hr:RowS w a0 n fun i=>.slice (A i) (L i) (C i)) (hI:∀ i,i<n->Src w (A i) (fI (H i) (L i))):
  Calls prog 106 #[.slice a0 n cap] w fun e w'=>∃ v u,e=.returned v/\LI true w' (fun k=>w.heap.size<=k/\k<w'.heap.size) v n u L H/\Below w.heap.size w w':=by
 have hn':(n:Int)<=1048576:=by omega
 have HR:Hid (RowS w a0 n fun i=>.slice (A i) (L i) (C i)):=hr;have HI:Hid (∀ i,i<n->Src w (A i) (fI (H i) (L i))):=hI;have HL:Hid (∀ i,i<n->L i<=1048576):=hL;clear hr hI hL
 go_enter func106,ntmps106
 go_wp2_with fail
 go_loopw [3,4] (fun v i wr=>∃ k:Nat,k<=n/\i=.int .i64 k/\Hid ((∃ u,LI true wr (fun b=>w.heap.size<=b/\b<wr.heap.size) v k u L H)/\Below w.heap.size w wr)) (fun _ i _=>n - (intOf i).toNat)
 case atStart=>exact ⟨0,nD _,rfl,⟨fun _=>.slice none 0 0,LL.new _ _ _ w _ (by simp) _ _ _⟩,zP _ _⟩
 case round=>
  obtain ⟨k,hk,rfl,HZ⟩:=hrel;by_cases hlt:k<n
  ·have hlt':(k:Int)<(n:Int):=by omega
   obtain ⟨b,off,rfl,ck⟩:=(HR.bw HZ.2).at hlt;have hbl:b<wr.heap.size:=zJ wr _ ck;have HS:Hid (Src wr (A k) (fI (H k) (L k))):=(HI.out k hlt).bw HZ.2;have HLk:Hid (L k<=1048576):=HL.out k hlt;have hk2:Hid (k<=2000000):=by show k<=2000000;omega
   obtain ⟨⟨u,oz⟩,bz⟩:=HZ.out;have OZ:Hid (LI true wr (fun b=>w.heap.size<=b/\b<wr.heap.size) u3 k u L H):=oz;have BZ:Hid (Below w.heap.size w wr):=bz;clear oz bz HZ
   go_wp2_with (first
    | (at_builtin;refine qbc kndI wr rfl rfl _ _ rfl (A k) (L k) (C k) (fI (H k) (L k)) rfl rfl (qxt _ _) HS.out (qxu _ _) (zO HLk.out (by omega)) ?_;intro v4 w4 o4 b4 n4;obtain ⟨a4,c4,rfl⟩:=zT o4;have F4:Hid (w4.ownsRow wr.heap.size 184 5 (.slice a4 (L k) c4) (L k) (fI (H k) (L k))/\Below wr.heap.size wr w4/\Value.slice a4 (L k) c4≠nS):=⟨o4,b4,n4⟩;clear o4 b4 n4)
    | (at_builtin;refine qau qyl w4 rfl rfl _ _ rfl 0 u3 k _ rfl (OZ.bw F4.2.1).row #[.slice a4 (L k) c4] rfl rfl (by intro u hu;simp at hu;subst hu;rfl) hk2.out (nD _) ?_;intro v5 w5 o5 g5 q5 n5;have F5:Hid (LI true w5 (fun b=>w.heap.size<=b/\b<w5.heap.size) v5 (k+1) (fun j=>if j=k then .slice a4 (L k) c4 else u j) L H/\Below w.heap.size w w5):=⟨OZ.push F4.2.1 F4.1 (fun _=>F4.2.2) o5 g5 q5 (fun j hj _=>⟨hj.1,zL hj.2 (zO F4.2.1.size g5.size)⟩) (fun j hj hj'=>⟨zO BZ.size hj,hj'⟩),Below.grown (BZ.trans (F4.2.1.mono BZ.size)) g5 (zO BZ.size F4.2.1.size) (fun j hj=>(OZ.rb j hj).1)⟩;clear o5 g5 q5 n5))
   go_roundw
   case rel=>exact ⟨k+1,by omega,by go_num,⟨_,F5.1⟩,F5.2⟩
   case measure=>simp [intOf];omega
  ·have hkn:k=n:=by omega
   subst hkn;go_wp2;go_ret;obtain ⟨⟨u,oz⟩,bz⟩:=HZ.out;exact ⟨_,u,rfl,oz,bz⟩
theorem qd2 (a0:Option Addr) (n cap:Nat) (A:Nat->Option Addr) (L C:Nat->Nat) (H:Nat->Nat->E3) (w:World) (hn:n<=1048576) (hL:∀ i,i<n->L i<=1048576) (hr:RowS w a0 n fun i=>.slice (A i) (L i) (C i)) (hI:∀ i,i<n->Src w (A i) (fE (H i) (L i))):
  Calls prog 107 #[.slice a0 n cap] w fun e w'=>∃ v u,e=.returned v/\LE true w' (fun k=>w.heap.size<=k/\k<w'.heap.size) v n u L H/\Below w.heap.size w w':=by
 have hn':(n:Int)<=1048576:=by omega
 have HR:Hid (RowS w a0 n fun i=>.slice (A i) (L i) (C i)):=hr;have HI:Hid (∀ i,i<n->Src w (A i) (fE (H i) (L i))):=hI;have HL:Hid (∀ i,i<n->L i<=1048576):=hL;clear hr hI hL
 go_enter func107,ntmps107
 go_wp2_with fail
 go_loopw [3,4] (fun v i wr=>∃ k:Nat,k<=n/\i=.int .i64 k/\Hid ((∃ u,LE true wr (fun b=>w.heap.size<=b/\b<wr.heap.size) v k u L H)/\Below w.heap.size w wr)) (fun _ i _=>n - (intOf i).toNat)
 case atStart=>exact ⟨0,nD _,rfl,⟨fun _=>.slice none 0 0,LL.new _ _ _ w _ (by simp) _ _ _⟩,zP _ _⟩
 case round=>
  obtain ⟨k,hk,rfl,HZ⟩:=hrel;by_cases hlt:k<n
  ·have hlt':(k:Int)<(n:Int):=by omega
   obtain ⟨b,off,rfl,ck⟩:=(HR.bw HZ.2).at hlt;have hbl:b<wr.heap.size:=zJ wr _ ck;have HS:Hid (Src wr (A k) (fE (H k) (L k))):=(HI.out k hlt).bw HZ.2;have HLk:Hid (L k<=1048576):=HL.out k hlt;have hk2:Hid (k<=2000000):=by show k<=2000000;omega
   obtain ⟨⟨u,oz⟩,bz⟩:=HZ.out;have OZ:Hid (LE true wr (fun b=>w.heap.size<=b/\b<wr.heap.size) u3 k u L H):=oz;have BZ:Hid (Below w.heap.size w wr):=bz;clear oz bz HZ
   go_wp2_with (first
    | (at_builtin;refine qbc kndE wr rfl rfl _ _ rfl (A k) (L k) (C k) (fE (H k) (L k)) rfl rfl (qxr _ _) HS.out (qxs _ _) (zO HLk.out (by omega)) ?_;intro v4 w4 o4 b4 n4;obtain ⟨a4,c4,rfl⟩:=zT o4;have F4:Hid (w4.ownsRow wr.heap.size 86 3 (.slice a4 (L k) c4) (L k) (fE (H k) (L k))/\Below wr.heap.size wr w4/\Value.slice a4 (L k) c4≠nS):=⟨o4,b4,n4⟩;clear o4 b4 n4)
    | (at_builtin;refine qau qwt w4 rfl rfl _ _ rfl 0 u3 k _ rfl (OZ.bw F4.2.1).row #[.slice a4 (L k) c4] rfl rfl (by intro u hu;simp at hu;subst hu;rfl) hk2.out (nD _) ?_;intro v5 w5 o5 g5 q5 n5;have F5:Hid (LE true w5 (fun b=>w.heap.size<=b/\b<w5.heap.size) v5 (k+1) (fun j=>if j=k then .slice a4 (L k) c4 else u j) L H/\Below w.heap.size w w5):=⟨OZ.push F4.2.1 F4.1 (fun _=>F4.2.2) o5 g5 q5 (fun j hj _=>⟨hj.1,zL hj.2 (zO F4.2.1.size g5.size)⟩) (fun j hj hj'=>⟨zO BZ.size hj,hj'⟩),Below.grown (BZ.trans (F4.2.1.mono BZ.size)) g5 (zO BZ.size F4.2.1.size) (fun j hj=>(OZ.rb j hj).1)⟩;clear o5 g5 q5 n5))
   go_roundw
   case rel=>exact ⟨k+1,by omega,by go_num,⟨_,F5.1⟩,F5.2⟩
   case measure=>simp [intOf];omega
  ·have hkn:k=n:=by omega
   subst hkn;go_wp2;go_ret;obtain ⟨⟨u,oz⟩,bz⟩:=HZ.out;exact ⟨_,u,rfl,oz,bz⟩
theorem qb6 {ops:Array Oper} {o:Oper} {a:Act} {K:Act->World->Prop} {Q:Exit->Act->World->Prop} {E:Prop} {t e:TypeId} {size bytes:Nat} (KK:Kind t e size bytes) (w:World) (hg:o.guard=none) (s x:Operand)
  (ho:o.op=.call { callee:=.builtin .append,args:=#[s,x],argTypes:=#[t,t] })
  (B:Nat) (v:Value) (n:Nat) (xs:List Value) (hs:a.eval s=v) (hown:w.ownsRow B e size v n xs) (a0:Option Addr) (m c:Nat) (news:List Value) (hx:a.eval x=.slice a0 m c) (hl:news.length=m*size) (hsrc:Src w a0 news) (h1:∀ u ∈ news,u.oneCell'=true) (hnm:n+m<=4000000) (hB:B<=w.heap.size)
  (h:∀ v' w',w'.ownsRow B e size v' (n+m) (xs ++ news)->w.grownBy w' v.ownBlock->(v'.ownBlock=v.ownBlock\/v'.ownBlock=some w.heap.size)->(v≠.slice none 0 0\/0<m->v'≠nS)->K (a.put o.dst v') w'):
  if Region.wanted o (yielded ops a.tmps)=true then Oper.wp prog o a w K Q else E:=by
 obtain ⟨v',w',r1,r2,r3,r4,r5⟩:=qev KK w o.type B v n xs hown a0 m c news hl hsrc h1 hnm hB;have hw:Region.wanted o (yielded ops a.tmps)=true:=by simp [Region.wanted,hg]
 rw [nC hw];unfold Oper.wp execOp;simp only [ho,resolve,invoke,builtin,Sem.run_bind,Sem.run_pure,Result.andThen_ok,List.map_toArray,List.map_cons,List.map_nil,hs,hx,r1];exact h v' w' r2 r3 r4 r5
theorem qcm {ops:Array Oper} {o:Oper} {a:Act} {K:Act->World->Prop} {Q:Exit->Act->World->Prop} {E:Prop} {t e:TypeId} {size bytes:Nat} (KK:Kind t e size bytes) (w:World) {N:Nat} (hN:N=w.heap.size) (hg:o.guard=none) (s x:Operand)
  (ho:o.op=.call { callee:=.builtin .append,args:=#[s,x],argTypes:=#[t,t] })
  (a0:Option Addr) (m c:Nat) (news:List Value) (hs:a.eval s=.slice (some ⟨N,0,none⟩) 0 0) (hx:a.eval x=.slice a0 m c) (hl:news.length=m*size) (hsrc:Src w a0 news) (h1:∀ u ∈ news,u.oneCell'=true) (hnm:m<=4000000)
  (h:∀ v' w',w'.ownsRow w.heap.size e size v' m news->Below w.heap.size w w'->v'≠.slice none 0 0->K (a.put o.dst v') w'):
  if Region.wanted o (yielded ops a.tmps)=true then Oper.wp prog o a (w.alloc (.cells #[] e)) K Q else E:=by
 subst hN;have hb:Below w.heap.size w (w.alloc (.cells #[] e)):=zP _ _;refine qb6 KK _ hg s x ho w.heap.size (sG w.heap.size 0 0) 0 [] hs (World.ownsRow_made (base:=w.heap.size) (e:=e) (size:=size) w #[] 0 (nA _) (by unfold maxLen;omega) (by simp)) a0 m c news hx hl (hsrc.bw hb) h1 (by omega) (by simp) ?_;intro v' w' o g _ hne;rw [nL,List.nil_append] at o;exact h v' w' o (hb.grown g (by simp) (fun k hk=>by cases hk;exact nA _)) (hne (.inl (by simp)))
theorem qb7 {ops:Array Oper} {o:Oper} {a:Act} {K:Act->World->Prop} {Q:Exit->Act->World->Prop} {E:Prop} {t e:TypeId} {size bytes:Nat} (KK:Kind t e size bytes) (w:World) {N:Nat} (hN:N=w.heap.size) (hg:o.guard=none) (s x:Operand)
  (ho:o.op=.call { callee:=.builtin .append,args:=#[s,x],argTypes:=#[t,t] })
  (B:Nat) (v:Value) (n:Nat) (xs:List Value) (hs:a.eval s=v) (hown:w.ownsRow B e size v n xs) (cs:Array Value) (hx:a.eval x=.slice (some ⟨N,0,none⟩) 1 1) (hl:cs.size=size) (h1:∀ u ∈ cs.toList,u.oneCell'=true) (hn:n<=2000000) (hB:B<=w.heap.size)
  (h:∀ v' w',w'.ownsRow B e size v' (n+1) (xs ++ cs.toList)->w.grownBy w' v.ownBlock->(∀ j,v'.ownBlock=some j->v.ownBlock=some j\/w.heap.size<=j)->v'≠.slice none 0 0->K (a.put o.dst v') w'):
  if Region.wanted o (yielded ops a.tmps)=true then Oper.wp prog o a (w.alloc (.cells cs e)) K Q else E:=by
 subst hN;have hb:Below w.heap.size w (w.alloc (.cells cs e)):=zP _ _;refine qb6 KK _ hg s x ho B v n xs hs (hown.alloc _) (some ⟨w.heap.size,0,none⟩) 1 1 cs.toList hx (by simp [hl]) (.inr ⟨w.heap.size,0,rfl,by simp,fun j u hj=>?_⟩) h1 (by omega) (by simp;omega) ?_
 ·rw [nL,zV _ _ _ j rfl]
  simpa using hj
 ·intro v' w' o g hbk hne
  refine h v' w' o ⟨g.os,g.tape,g.output,zO hb.size g.size,fun j hj hne=>(g.block j (zL hj hb.size) hne).trans (hb.block j hj)⟩ (fun j hj=>?_) (hne (.inr (by omega)))
  rcases hbk with a | a
  ·exact .inl (a.symm.trans hj)
  ·rw [hj] at a
   simp only [nG] at a;right;rw [a];simp
theorem qas {ops:Array Oper} {o:Oper} {a:Act} {w:World} {K:Act->World->Prop} {Q:Exit->Act->World->Prop} {E:Prop} (hg:o.guard=none) (f:FuncId) (args:Array Operand) (ts:Array TypeId)
  (ho:o.op=.call { callee:=.value (.func f),args:=args,argTypes:=ts }) (vals:Array Value) (hv:args.map a.eval=vals) (hen:∀ vs wx,(callFunc f vs).run prog wx=.ok (.enter f vs) wx) {post:Ending->World->Prop} (hc:Calls prog f vals w post)
  (h:∀ e w',post e w'->∃ v,e=.returned v/\K (a.put o.dst v) w'):
  if Region.wanted o (yielded ops a.tmps)=true then Oper.wp prog o a w K Q else E:=by
 have hw:Region.wanted o (yielded ops a.tmps)=true:=by simp [Region.wanted,hg]
 rw [nC hw]
 have hr:(execOp a.eval o).run prog w=.ok (.enter f vals) w:=by
  unfold execOp;simp [ho,resolve,invoke,hv,hen,Act.eval,Deferred.ofValue]
 unfold Oper.wp;rw [hr,Oper.upon_enter];refine hc.mono fun e w' hp=>?_;obtain ⟨v,rfl,hk⟩:=h e w' hp;exact hk
open Go.Sort
theorem qem {xs ys:List Int} (hl:xs.length=ys.length) (h:∀ j,j<xs.length->zi xs j=zi ys j):xs=ys:=by
 refine List.ext_getElem hl fun i h1 h2=>?_;have:=h i h1;simpa [zi,List.getD_eq_getElem?_getD,List.getElem?_eq_getElem h1,List.getElem?_eq_getElem h2] using this
theorem qfo (a0 a1:Option Addr) (c0 c1:Nat) (xs ys:List Int) (w:World) (hx:xs.length<=1048576) (hy:ys.length<=1048576) (h0:Sl w a0 xs) (h1:Sl w a1 ys):
  Calls prog 184 #[.slice a0 xs.length c0,.slice a1 ys.length c1] w (rB w (.bool (xs == ys))):=by
 have hl':(xs.length:Int)<=1048576:=by omega
 have hl2:(ys.length:Int)<=1048576:=by omega
 by_cases hl:xs.length=ys.length
 ·have H0:Hid (Sl w a0 xs):=h0
  have H1:Hid (Sl w a1 ys):=h1;have HL:Hid (xs.length=ys.length):=hl;rw [<- hl];clear h0 h1 hl hy hl2
  go_enter func184,ntmps184
  go_wp2_with fail
  go_loopw [13] (fun i wr=>∃ k:Nat,k<=xs.length/\i=.int .i64 k/\Below w.heap.size w wr/\Hid (∀ j,j<k->zi xs j=zi ys j)) (fun i _=>xs.length - (intOf i).toNat)
  case atStart=>exact ⟨0,nD _,rfl,nE _ _,fun j hj=>by omega⟩
  case round=>
   obtain ⟨k,hk,rfl,hbw,HZ⟩:=hrel;by_cases hlt:k<xs.length
   ·have hlt2:k<ys.length:=by have:=HL.out;omega
    obtain ⟨b,off,rfl,hbl,ck⟩:=(H0.bw hbw).at hlt;obtain ⟨b',off',rfl,hbl',ck'⟩:=(H1.bw hbw).at hlt2;have hlt':(k:Int)<(xs.length:Int):=by omega
    clear hlt2
    rcases zK (zi xs k != zi ys k) with t | t
    ·have HN:Hid ((xs == ys)=false):=by
      show (xs == ys)=false;rw [beq_eq_false_iff_ne];intro e;rw [e] at t;simp at t
     go_wp2_with fail
     go_quiet (fail)
     go_wp2;go_ret;rw [HN.out];exact ⟨rfl,yB hbw _⟩
    ·have HZ':Hid (∀ j,j<k+1->zi xs j=zi ys j):=fun j hj=>by
      by_cases e:j=k
      ·subst e
       simpa using t
      ·exact HZ.out j (by omega)
     clear HZ;go_wp2_with fail
     go_quiet (fail)
     go_wp2;go_roundw
     case rel=>exact ⟨k+1,by omega,by go_num,yB hbw _,HZ'.out⟩
     case measure=>simp [intOf];omega
   ·have HE:Hid ((xs == ys)=true):=by
     show (xs == ys)=true;rw [beq_iff_eq];exact qem HL.out fun j hj=>HZ.out j (by omega)
    clear HZ;go_wp2;go_ret;rw [HE.out];exact ⟨rfl,hbw⟩
 ·have hne:((xs.length:Int) != (ys.length:Int))=true:=by simp;omega
  have HN:Hid ((xs == ys)=false):=by
   show (xs == ys)=false;rw [beq_eq_false_iff_ne];intro e;exact hl (by rw [e])
  clear h0 h1 hl
  go_enter func184,ntmps184
  go_wp2;go_ret;rw [HN.out];exact ⟨rfl,nE _ _⟩
def eqS (S T:S4):Bool:=(S.p == T.p) && (S.c == T.c) && (S.rs == T.rs) && (S.os == T.os)
theorem quo {S T:S4}:eqS S T=true ↔ S=T:=by
 obtain ⟨a,b,c,d⟩:=S;obtain ⟨a',b',c',d'⟩:=T;simp only [eqS,nH,beq_iff_eq,S4.mk.injEq];exact ⟨fun ⟨⟨⟨h1,h2⟩,h3⟩,h4⟩=>⟨h1,h3,h4,h2⟩,fun ⟨h1,h3,h4,h2⟩=>⟨⟨⟨h1,h2⟩,h3⟩,h4⟩⟩
theorem qgl (S T:S4) (ra oa ra' oa':Option Addr) (rc oc rc' oc':Nat) (w:World) (l1:S.rs.length<=1048576) (l2:S.os.length<=1048576) (l3:T.rs.length<=1048576) (l4:T.os.length<=1048576) (h1:Sl w ra S.rs) (h2:Sl w oa S.os) (h3:Sl w ra' T.rs) (h4:Sl w oa' T.os):
  Calls prog 182 #[stV S.p ra S.rs.length rc oa S.os.length oc S.c,stV T.p ra' T.rs.length rc' oa' T.os.length oc' T.c] w (rB w (.bool (eqS S T))):=by
 have H1:Hid (Sl w ra S.rs/\Sl w ra' T.rs):=⟨h1,h3⟩
 have H2:Hid (Sl w oa S.os/\Sl w oa' T.os):=⟨h2,h4⟩
 clear h1 h2 h3 h4
 rcases zK (S.p == T.p) with t1 | t1
 case inr=>
  have HE:Hid (eqS S T=false):=by
   show eqS S T=false;simp [eqS,t1]
  go_enter func182,ntmps182
  go_wp2;go_ret;rw [HE.out];exact ⟨rfl,by go_grown⟩
 rcases zK (S.c == T.c) with t2 | t2
 case inr=>
  have HE:Hid (eqS S T=false):=by
   show eqS S T=false;simp [eqS,t2]
  go_enter func182,ntmps182
  go_wp2;go_ret;rw [HE.out];exact ⟨rfl,by go_grown⟩
 rcases zK (S.rs == T.rs) with t3 | t3
 case inr=>
  have HE:Hid (eqS S T=false):=by
   show eqS S T=false;simp [eqS,t3]
  have T3:Hid ((S.rs == T.rs)=false):=t3;clear t3
  go_enter func182,ntmps182
  go_wp2_with fail
  refine (qfo _ _ _ _ _ _ _ l1 l3 (H1.1.bw (by go_grown)) (H1.2.bw (by go_grown))).mono ?_;rintro e w1 ⟨rfl,b1⟩;rw [T3.out];have B1:Hid (Below w.heap.size w w1):=qai (by go_grown) b1 (by simp;omega);clear b1;go_wp2;go_ret;rw [HE.out];exact ⟨rfl,B1.out⟩
 have HE:Hid (eqS S T=(S.os == T.os)):=by
  show eqS S T=(S.os == T.os);simp [eqS,t1,t2,t3]
 have T3:Hid ((S.rs == T.rs)=true):=t3;clear t3
 go_enter func182,ntmps182
 go_wp2_with fail
 refine (qfo _ _ _ _ _ _ _ l1 l3 (H1.1.bw (by go_grown)) (H1.2.bw (by go_grown))).mono ?_;rintro e w1 ⟨rfl,b1⟩;rw [T3.out];have B1:Hid (Below w.heap.size w w1):=qai (by go_grown) b1 (by simp;omega);obtain ⟨hc1,hf1⟩:=qap b1;clear b1;go_wp2_with fail
 refine (qfo _ _ _ _ _ _ _ l2 l4 (H2.1.bw B1.out) (H2.2.bw B1.out)).mono ?_;rintro e w2 ⟨rfl,b2⟩;have B2:Hid (Below w.heap.size w w2):=B1.trans (b2.mono B1.size);clear b2 hc1 hf1;go_wp2;go_ret;rw [HE.out];exact ⟨rfl,B2.out⟩
noncomputable def pB (p:Prop):Bool:=@decide p (Classical.propDecidable _)
theorem qbl {p:Prop} (h:p):pB p=true:=by simp [pB,h]
theorem qak {p:Prop} (h:¬ p):pB p=false:=by simp [pB,h]
theorem qgq (S T:S4) (ra oa ra' oa':Option Addr) (rc oc rc' oc':Nat) (w:World) (l1:S.rs.length<=1048576) (l2:S.os.length<=1048576) (_l3:T.rs.length<=1048576) (_l4:T.os.length<=1048576) (h1:Sl w ra S.rs) (h2:Sl w oa S.os) (h3:Sl w ra' T.rs) (h4:Sl w oa' T.os):
  Calls prog 122 #[stV S.p ra S.rs.length rc oa S.os.length oc S.c,stV T.p ra' T.rs.length rc' oa' T.os.length oc' T.c] w (rB w (.bool (eqS S T))):=by
 have l1':(S.rs.length:Int)<=1048576:=by omega
 have l2':(S.os.length:Int)<=1048576:=by omega
 have H1:Hid (Sl w ra S.rs/\Sl w ra' T.rs):=⟨h1,h3⟩
 have H2:Hid (Sl w oa S.os/\Sl w oa' T.os):=⟨h2,h4⟩
 clear h1 h2 h3 h4 l1 l2
 rcases zK (S.p != T.p) with t1 | t1
 case inl=>
  have HE:Hid (eqS S T=false):=by
   show eqS S T=false;have:(S.p == T.p)=false:=by simpa using t1
   simp [eqS,this]
  go_enter func122,ntmps122
  go_wp2;go_ret;rw [HE.out];exact ⟨rfl,by go_grown⟩
 rcases zK (S.c != T.c) with t2 | t2
 case inl=>
  have HE:Hid (eqS S T=false):=by
   show eqS S T=false;have:(S.c == T.c)=false:=by simpa using t2
   simp [eqS,this]
  go_enter func122,ntmps122
  go_wp2;go_ret;rw [HE.out];exact ⟨rfl,by go_grown⟩
 rcases zK ((S.rs.length:Int) != (T.rs.length:Int)) with t3 | t3
 case inl=>
  have HE:Hid (eqS S T=false):=by
   show eqS S T=false
   have:(S.rs == T.rs)=false:=by
    rw [beq_eq_false_iff_ne];intro e;rw [e] at t3;simp at t3
   simp [eqS,this]
  go_enter func122,ntmps122
  go_wp2;go_ret;rw [HE.out];exact ⟨rfl,by go_grown⟩
 rcases zK ((S.os.length:Int) != (T.os.length:Int)) with t4 | t4
 case inl=>
  have HE:Hid (eqS S T=false):=by
   show eqS S T=false
   have:(S.os == T.os)=false:=by
    rw [beq_eq_false_iff_ne];intro e;rw [e] at t4;simp at t4
   simp [eqS,this]
  go_enter func122,ntmps122
  go_wp2;go_ret;rw [HE.out];exact ⟨rfl,by go_grown⟩
 have HE:Hid (eqS S T=((S.rs == T.rs) && (S.os == T.os))/\S.rs.length=T.rs.length/\S.os.length=T.os.length):=by
  have e1:(S.p == T.p)=true:=by simpa using t1
  have e2:(S.c == T.c)=true:=by simpa using t2
  have e3:S.rs.length=T.rs.length:=by simp at t3;omega
  have e4:S.os.length=T.os.length:=by simp at t4;omega
  refine ⟨?_,e3,e4⟩;show eqS S T=_;simp [eqS,e1,e2]
 have N1:Hid (BoxC ((w.alloc (oQ1 S.p ra S.rs.length rc oa S.os.length oc S.c)).alloc (oQ1 T.p ra' T.rs.length rc' oa' T.os.length oc' T.c)) w.heap.size (.int .i64 S.p) (.slice ra S.rs.length rc) (.slice oa S.os.length oc) (.int .i64 S.c)):=(BoxC.new w _ _ _ _ _).bw (zS _ _)
 have N2:Hid (BoxC ((w.alloc (oQ1 S.p ra S.rs.length rc oa S.os.length oc S.c)).alloc (oQ1 T.p ra' T.rs.length rc' oa' T.os.length oc' T.c)) (w.heap.size+1) (.int .i64 T.p) (.slice ra' T.rs.length rc') (.slice oa' T.os.length oc') (.int .i64 T.c)):=by
  have h:=BoxC.new (w.alloc (oQ1 S.p ra S.rs.length rc oa S.os.length oc S.c)) (.int .i64 T.p) (.slice ra' T.rs.length rc') (.slice oa' T.os.length oc') (.int .i64 T.c) 142
  (try dsimp only [aW] at h);rw [World.size_alloc] at h
  exact h
 have NB:Hid (Below w.heap.size w ((w.alloc (oQ1 S.p ra S.rs.length rc oa S.os.length oc S.c)).alloc (oQ1 T.p ra' T.rs.length rc' oa' T.os.length oc' T.c))):=by
  show Below _ _ _
  go_grown
 go_enter func122,ntmps122
 go_wp2_with fail
 generalize (w.alloc (oQ1 S.p ra S.rs.length rc oa S.os.length oc S.c)).alloc (oQ1 T.p ra' T.rs.length rc' oa' T.os.length oc' T.c)=wb at *
 go_loopw [5] (fun i wr=>∃ k:Nat,k<=S.rs.length/\i=.int .i64 k/\Below wb.heap.size wb wr/\Hid (∀ j,j<k->zi S.rs j=zi T.rs j)) (fun i _=>S.rs.length - (intOf i).toNat)
 case atStart=>exact ⟨0,nD _,rfl,nE _ _,fun j hj=>by omega⟩
 case round=>
  obtain ⟨k,hk,rfl,hbw,HZ⟩:=hrel;have hw:Below w.heap.size w wr:=NB.trans (hbw.mono NB.size);obtain ⟨n0,n1,n2,n3⟩:=N1.bw hbw;obtain ⟨m0,m1,m2,m3⟩:=N2.bw hbw;by_cases hlt:k<S.rs.length
  ·have hlt2:k<T.rs.length:=by have:=HE.out;omega
   obtain ⟨b,off,rfl,hbl,ck⟩:=(H1.1.bw hw).at hlt;obtain ⟨b',off',rfl,hbl',ck'⟩:=(H1.2.bw hw).at hlt2;have hlt':(k:Int)<(S.rs.length:Int):=by omega
   have hlt2':(k:Int)<(T.rs.length:Int):=by omega
   clear hlt2
   rcases zK (zi S.rs k != zi T.rs k) with t | t
   ·have HN:Hid (eqS S T=false):=by
     show eqS S T=false;rw [HE.1]
     have:(S.rs == T.rs)=false:=by
      rw [beq_eq_false_iff_ne];intro e;rw [e] at t;simp at t
     rw [this,Bool.false_and]
    go_wp2_with fail
    go_quiet (fail)
    go_wp2;go_ret;rw [HN.out];exact ⟨rfl,yB hw _⟩
   ·have HZ':Hid (∀ j,j<k+1->zi S.rs j=zi T.rs j):=fun j hj=>by
     by_cases e:j=k
     ·subst e
      simpa using t
     ·exact HZ.out j (by omega)
    clear HZ;go_wp2_with fail
    go_quiet (fail)
    go_wp2;go_roundw
    case rel=>exact ⟨k+1,by omega,by go_num,yB hbw _,HZ'.out⟩
    case measure=>simp [intOf];omega
  ·have HR:Hid ((S.rs == T.rs)=true):=by
    show (S.rs == T.rs)=true;rw [beq_iff_eq];exact qem HE.2.1 fun j hj=>HZ.out j (by omega)
   have hkl:k=S.rs.length:=by omega
   subst hkl;clear HZ hlt hk;go_wp2_with fail
   clear n0 n1 n2 n3 m0 m1 m2 m3
   go_loopw [6] (fun i wr=>∃ k:Nat,k<=S.os.length/\i=.int .i64 k/\Below wb.heap.size wb wr/\Hid (∀ j,j<k->zi S.os j=zi T.os j)) (fun i _=>S.os.length - (intOf i).toNat)
   case atStart=>exact ⟨0,nD _,rfl,hbw,fun j hj=>by omega⟩
   case round=>
    clear hbw hw;obtain ⟨k,hk,rfl,hbw,HZ⟩:=hrel;have hw:Below w.heap.size w wr:=NB.trans (hbw.mono NB.size);obtain ⟨n0,n1,n2,n3⟩:=N1.bw hbw;obtain ⟨m0,m1,m2,m3⟩:=N2.bw hbw;by_cases hlt:k<S.os.length
    ·have hlt2:k<T.os.length:=by have:=HE.out;omega
     obtain ⟨b,off,rfl,hbl,ck⟩:=(H2.1.bw hw).at hlt;obtain ⟨b',off',rfl,hbl',ck'⟩:=(H2.2.bw hw).at hlt2;have hlt':(k:Int)<(S.os.length:Int):=by omega
     have hlt2':(k:Int)<(T.os.length:Int):=by omega
     clear hlt2
     rcases zK (zi S.os k != zi T.os k) with t | t
     ·have HN:Hid (eqS S T=false):=by
       show eqS S T=false;rw [HE.1]
       have:(S.os == T.os)=false:=by
        rw [beq_eq_false_iff_ne];intro e;rw [e] at t;simp at t
       rw [this,Bool.and_false]
      go_wp2_with fail
      go_quiet (fail)
      go_wp2;go_ret;rw [HN.out];exact ⟨rfl,yB hw _⟩
     ·have HZ':Hid (∀ j,j<k+1->zi S.os j=zi T.os j):=fun j hj=>by
       by_cases e:j=k
       ·subst e
        simpa using t
       ·exact HZ.out j (by omega)
      clear HZ;go_wp2_with fail
      go_quiet (fail)
      go_wp2;go_roundw
      case rel=>exact ⟨k+1,by omega,by go_num,yB hbw _,HZ'.out⟩
      case measure=>simp [intOf];omega
    ·have HN:Hid (eqS S T=true):=by
      show eqS S T=true;rw [HE.1,HR.out,Bool.true_and,beq_iff_eq];exact qem HE.2.2 fun j hj=>HZ.out j (by omega)
     clear HZ;go_wp2;go_ret;rw [HN.out];exact ⟨rfl,hw⟩
noncomputable def qB (p:Prop):Bool:=@decide p (Classical.propDecidable _)
theorem qbv {p:Prop} (h:p):qB p=true:=by simp [qB,h]
theorem qa7 {p:Prop} (h:¬ p):qB p=false:=by simp [qB,h]
structure HisE (w:World) (ha:Option Addr) (hA:Nat->Option Addr) (hC:Nat->Nat) (y:Hs):Prop where
 row:RowS w ha y.n fun i=>.slice (hA i) (y.l i) (hC i)
 ev:∀ i,i<y.n->EvL w (hA i) (y.l i) (y.e i)
theorem HisE.bw {w w':World} {ha:Option Addr} {hA:Nat->Option Addr} {hC:Nat->Nat} {y:Hs} (h:HisE w ha hA hC y) (hb:Below w.heap.size w w'):HisE w' ha hA hC y:=⟨h.row.bw hb,fun i hi=>(h.ev i hi).bw hb⟩
structure HisP (w:World) (X:Nat) (ha:Option Addr) (hc:Nat) (y:Hs) (d:Nat->Nat):Prop where
 c4:w.cell? ⟨X,4,none⟩=some (.slice ha y.n hc)
 pt:∀ i,i<4->w.cell? ⟨X,5+i,none⟩=some (.int .i64 (d i))
 op:∀ a b,a<4->b<4->w.cell? ⟨X,9+a*4+b,none⟩=some (.int .i64 (y.opn d a b))
 fr:∀ j,w.frozen? ⟨X,j,none⟩=false
theorem HisP.lt {w:World} {X:Nat} {ha:Option Addr} {hc:Nat} {y:Hs} {d:Nat->Nat} (h:HisP w X ha hc y d):X<w.heap.size:=zJ w _ h.c4
theorem HisP.blk {w w':World} {X:Nat} {ha:Option Addr} {hc:Nat} {y:Hs} {d:Nat->Nat} (h:HisP w X ha hc y d) (hb:w'.heap[X]? = w.heap[X]?):HisP w' X ha hc y d:=
 ⟨(zH hb).trans h.c4,fun i hi=>(zH hb).trans (h.pt i hi),fun a b h1 h2=>(zH hb).trans (h.op a b h1 h2),fun j=>(zI hb).trans (h.fr j)⟩
theorem HisP.bw {w w':World} {X:Nat} {ha:Option Addr} {hc:Nat} {y:Hs} {d:Nat->Nat} (h:HisP w X ha hc y d) (hb:Below w.heap.size w w'):HisP w' X ha hc y d:=h.blk (hb.block X h.lt)
theorem qam {w:World} {a:Addr} {v:Value} (h:w.cell? a=some v) (o:Obj):(w.alloc o).cell? a=some v:=(World.cell?_alloc_lt w o a (zJ w _ h)).trans h
theorem qsk (X:Nat) (ha:Option Addr) (hc:Nat) (hA:Nat->Option Addr) (hC:Nat->Nat) (y:Hs) (d:Nat->Nat) (k:Nat) (w:World) (hE:HisE w ha hA hC y) (hP:HisP w X ha hc y d) (h4:y.n<=4) (hk:k<y.n) (hp:y.Peers) (hl:∀ i,i<y.n->y.l i<=200) (hd:∀ i,d i<=y.l i):
  Calls prog 230 #[.pointer (some ⟨X,4,none⟩),.int .i64 k] w (rB w (.bool (qB (y.Can d k)))):=by
 have HE:Hid (HisE w ha hA hC y):=hE;have HP:Hid (HisP w X ha hc y d):=hP;have HCan:Hid (y.Can d k ↔ d k<y.l k/\((y.e k (d k)).k=3->0<y.opn d (y.e k (d k)).q.toNat k)):=Hs.can_iff hp hk;have hk4:(k:Int)<4:=by omega
 have hk':(k:Int)<(y.n:Int):=by omega
 have hl200:(y.l k:Int)<=200:=by have:=hl k hk;omega
 have hdk:(d k:Int)<=(y.l k:Int):=by have:=hd k;omega
 obtain ⟨bh,oh,eh,ch⟩:=hE.row.at hk;obtain ⟨c4,pt,op,-⟩:=hP;have pk:=pt k (by omega);rw [eh] at c4;clear hE;by_cases he:d k=y.l k
 ·have HN:Hid (qB (y.Can d k)=false):=qa7 fun h=>by have:=h.1;omega
  rw [he] at pk;clear op pt
  go_enter func230,ntmps230
  go_wp2_with fail
  go_quiet (fail)
  go_wp2;go_ret;rw [HN.out];exact ⟨rfl,yB (nE _ _) _⟩
 ·have hlt:d k<y.l k:=by have:=hd k;omega
  have hlt':(d k:Int)<(y.l k:Int):=by omega
  have hne:((d k:Int) == (y.l k:Int))=false:=by
   have:¬ (d k:Int)=(y.l k:Int):=by omega
   simpa using this
  obtain ⟨b,off,ea,zb,e0,e1,e2⟩:=(HE.ev k hk).at hlt;rw [ea] at ch;have n1:w.heap.size≠X:=by have:=HP.lt;omega
  have n2:w.heap.size≠b:=by omega
  have n3:w.heap.size≠bh:=by have:=zJ w _ ch;simp at this;omega
  clear zb;have hq:=hp k hk (d k) hlt;obtain ⟨q,hqe⟩:∃ q:Nat,(y.e k (d k)).q=(q:Int):=⟨(y.e k (d k)).q.toNat,by omega⟩
  have hq4:(q:Int)<4:=by omega
  have oq:=op q k (by omega) (by omega);rw [hqe] at e1
  rcases zK ((y.e k (d k)).k != 3) with t | t
  ·have HN:Hid (qB (y.Can d k)=true):=qbv (HCan.2 ⟨hlt,fun h=>by rw [h] at t;cases t⟩)
   clear op pt hq hqe oq HCan;generalize (y.e k (d k)).k=kd at *;generalize (y.e k (d k)).v=vd at *
   go_enter func230,ntmps230
   go_wp2_with fail
   go_quiet (fail)
   go_wp2_with fail
   have BD:Hid (Below w.heap.size w (w.drewN nq)):=yB (nE _ _) _;replace n1:(w.drewN nq).heap.size≠X:=n1;replace n2:(w.drewN nq).heap.size≠b:=n2;replace n3:(w.drewN nq).heap.size≠bh:=n3;replace c4:(w.drewN nq).cell? ⟨X,4,none⟩=_:=c4;replace pk:(w.drewN nq).cell? ⟨X,5+k,none⟩=_:=pk;replace ch:(w.drewN nq).cell? ⟨bh,oh+k,none⟩=_:=ch;replace e0:(w.drewN nq).cell? ⟨b,off+d k*3,none⟩=_:=e0;replace e1:(w.drewN nq).cell? ⟨b,off+d k*3+1,none⟩=_:=e1;replace e2:(w.drewN nq).cell? ⟨b,off+d k*3+2,none⟩=_:=e2;generalize w.drewN nq=wd at *;have c4':=qam c4;have pk':=qam pk;have ch':=qam ch;have e0':=qam e0;have e1':=qam e1;have e2':=qam e2
   go_region
   all_goals
    go_wp2_with fail
    go_quiet (fail)
    go_wp2;go_ret;rw [HN.out];exact ⟨rfl,yB (BD.trans ((zS _ _).mono BD.size)).drew _⟩
  ·have hk3:(y.e k (d k)).k=3:=by simpa using t
   have HN:Hid (qB (y.Can d k)=decide (0<y.opn d q k)):=by
    show qB (y.Can d k)=decide (0<y.opn d q k);have e:(y.e k (d k)).q.toNat=q:=by omega
    by_cases h0:0<y.opn d q k
    ·rw [decide_eq_true h0]
     exact qbv (HCan.2 ⟨hlt,fun _=>by rw [e];exact h0⟩)
    ·rw [decide_eq_false h0]
     refine qa7 fun h=>h0 ?_;have:=(HCan.1 h).2 hk3
     rwa [e] at this
   rw [hk3] at e0;clear op pt hq hqe HCan t hk3;generalize (y.e k (d k)).v=vd at *;generalize y.opn d q k=on at *
   go_enter func230,ntmps230
   go_wp2_with fail
   go_quiet (fail)
   go_wp2_with fail
   have BD:Hid (Below w.heap.size w (w.drewN nq)):=yB (nE _ _) _;replace n1:(w.drewN nq).heap.size≠X:=n1;replace n2:(w.drewN nq).heap.size≠b:=n2;replace n3:(w.drewN nq).heap.size≠bh:=n3;replace c4:(w.drewN nq).cell? ⟨X,4,none⟩=_:=c4;replace pk:(w.drewN nq).cell? ⟨X,5+k,none⟩=_:=pk;replace ch:(w.drewN nq).cell? ⟨bh,oh+k,none⟩=_:=ch;replace e0:(w.drewN nq).cell? ⟨b,off+d k*3,none⟩=_:=e0;replace e1:(w.drewN nq).cell? ⟨b,off+d k*3+1,none⟩=_:=e1;replace e2:(w.drewN nq).cell? ⟨b,off+d k*3+2,none⟩=_:=e2;replace oq:(w.drewN nq).cell? ⟨X,9+q*4+k,none⟩=_:=oq;generalize w.drewN nq=wd at *;have c4':=qam c4;have pk':=qam pk;have ch':=qam ch;have e0':=qam e0;have e1':=qam e1;have e2':=qam e2;have oq':=qam oq
   go_region
   all_goals
    go_wp2_with fail
    go_quiet (fail)
    go_wp2;go_ret;rw [HN.out];exact ⟨rfl,yB (BD.trans ((zS _ _).mono BD.size)).drew _⟩
theorem HisP.put {w w':World} {X:Nat} {ha:Option Addr} {hc:Nat} {y:Hs} {d:Nat->Nat} {k:Nat} (h:HisP w X ha hc y d) (c4:w'.cell? ⟨X,4,none⟩=w.cell? ⟨X,4,none⟩) (pt:∀ i,i<4->w'.cell? ⟨X,5+i,none⟩=if i=k then some (.int .i64 (d k+1:Nat)) else w.cell? ⟨X,5+i,none⟩)
  (op:∀ a b,a<4->b<4->w'.cell? ⟨X,9+a*4+b,none⟩=some (.int .i64 (y.opn (up d k) a b))) (fr:∀ j,w'.frozen? ⟨X,j,none⟩=false):HisP w' X ha hc y (up d k):=by
 refine ⟨c4.trans h.c4,fun i hi=>?_,op,fr⟩;rw [pt i hi];by_cases e:i=k
 ·subst e
  rw [nC rfl,qee]
 ·rw [nB e,up_other e]
  exact h.pt i hi
theorem Hs.opn_le {y:Hs} {d:Nat->Nat} (hd:∀ i,d i<=y.l i) (hl:∀ i,i<y.n->y.l i<=200) {a b:Nat} (ha:a<y.n) (hb:b<y.n):-200<=y.opn d a b/\y.opn d a b<=200:=by
 have h1:=qxp (y.e a) 2 b (d a);have h2:=qxp (y.e b) 3 a (d b);have h3:=hd a;have h4:=hd b;have h5:=hl a ha;have h6:=hl b hb;unfold Hs.opn;omega
theorem qih {w:World} {X i j m:Nat} {u v:Value} {o:Obj} (h1:m≠i) (h2:m≠j) (hX:X<w.heap.size):(((w.setCell ⟨X,i,none⟩ u).setCell ⟨X,j,none⟩ v).alloc o).cell? ⟨X,m,none⟩=w.cell? ⟨X,m,none⟩:=by
 rw [World.cell?_alloc_lt _ _ _ (by simpa [World.setCell] using hX),World.cell?_setCell_other _ _ _ _ (by intro e;injection e with _ e;exact h2 e.symm),World.cell?_setCell_other _ _ _ _ (by intro e;injection e with _ e;exact h1 e.symm)]
theorem qsm {w:World} {X i j:Nat} {u v:Value} {o:Obj} (h1:i≠j) (hc:(w.cell? ⟨X,i,none⟩).isSome=true) (hX:X<w.heap.size):(((w.setCell ⟨X,i,none⟩ u).setCell ⟨X,j,none⟩ v).alloc o).cell? ⟨X,i,none⟩=some u:=by
 rw [World.cell?_alloc_lt _ _ _ (by simpa [World.setCell] using hX),World.cell?_setCell_other _ _ _ _ (by intro e;injection e with _ e;exact h1 e.symm),World.cell?_setCell_same' _ _ _ hc]
theorem qsn {w:World} {X i j:Nat} {u v:Value} {o:Obj} (h1:i≠j) (hc:(w.cell? ⟨X,j,none⟩).isSome=true) (hX:X<w.heap.size):(((w.setCell ⟨X,i,none⟩ u).setCell ⟨X,j,none⟩ v).alloc o).cell? ⟨X,j,none⟩=some v:=by
 rw [World.cell?_alloc_lt _ _ _ (by simpa [World.setCell] using hX),World.cell?_setCell_same'];rw [World.cell?_setCell_other _ _ _ _ (by intro e;injection e with _ e;exact h1 e)];exact hc
theorem qdz {w:World} {o:Obj} {X j:Nat} (hX:X<w.heap.size):(w.alloc o).frozen? ⟨X,j,none⟩=w.frozen? ⟨X,j,none⟩:=(zS w o).frozen (p:=⟨X,j,none⟩) hX
theorem HisP.put2 {w:World} {X:Nat} {ha:Option Addr} {hc:Nat} {y:Hs} {d:Nat->Nat} {k i0 j0:Nat} {on:Int} {o:Obj} (h:HisP w X ha hc y d) (hk:k<4) (hi:i0<4) (hj:j0<4) (HO:∀ a b,y.opn (up d k) a b=if a=i0/\b=j0 then on else y.opn d a b):
  HisP (((w.setCell ⟨X,9+i0*4+j0,none⟩ (.int .i64 on)).setCell ⟨X,5+k,none⟩ (.int .i64 ((d k:Int)+1))).alloc o) X ha hc y (up d k)/\qaa (fun b=>b=X) w (((w.setCell ⟨X,9+i0*4+j0,none⟩ (.int .i64 on)).setCell ⟨X,5+k,none⟩ (.int .i64 ((d k:Int)+1))).alloc o):=by
 have hX:=h.lt;refine ⟨h.put (k:=k) (qih (by omega) (by omega) hX) (fun i hi'=>?_) (fun a b ha' hb'=>?_) (fun j=>?_),?_⟩
 ·by_cases e:i=k
  ·subst e
   rw [nC rfl,qsn (by omega) (by rw [h.pt i hi'];rfl) hX];rfl
  ·rw [nB e]
   exact qih (by omega) (by omega) hX
 ·rw [HO]
  by_cases e:a=i0/\b=j0
  ·obtain ⟨rfl,rfl⟩:=e
   rw [nC ⟨rfl,rfl⟩];exact qsm (by omega) (by rw [h.op a b ha' hb'];rfl) hX
  ·rw [nB e,<- h.op a b ha' hb']
   exact qih (by omega) (by omega) hX
 ·rw [qdz (by simpa [World.setCell] using hX),World.frozen?_setCell,World.frozen?_setCell]
  exact h.fr j
 ·exact ((qaa.of_set (P:=fun b=>b=X) w (a:=⟨X,_,none⟩) rfl _).trans (qaa.of_set (P:=fun b=>b=X) _ (a:=⟨X,_,none⟩) rfl _)).trans (qaa.of_below (zS _ _))
theorem HisP.put1 {w:World} {X:Nat} {ha:Option Addr} {hc:Nat} {y:Hs} {d:Nat->Nat} {k:Nat} {o:Obj} (h:HisP w X ha hc y d) (hk:k<4) (HO:∀ a b,y.opn (up d k) a b=y.opn d a b):
  HisP ((w.setCell ⟨X,5+k,none⟩ (.int .i64 ((d k:Int)+1))).alloc o) X ha hc y (up d k)/\qaa (fun b=>b=X) w ((w.setCell ⟨X,5+k,none⟩ (.int .i64 ((d k:Int)+1))).alloc o):=by
 have hX:=h.lt
 have ho:∀ m,m≠5+k->((w.setCell ⟨X,5+k,none⟩ (.int .i64 ((d k:Int)+1))).alloc o).cell? ⟨X,m,none⟩=w.cell? ⟨X,m,none⟩:=fun m hm=>by
  rw [World.cell?_alloc_lt _ _ _ (by simpa [World.setCell] using hX),World.cell?_setCell_other _ _ _ _ (by intro e;injection e with _ e;exact hm e.symm)]
 refine ⟨h.put (k:=k) (ho 4 (by omega)) (fun i hi'=>?_) (fun a b ha' hb'=>?_) (fun j=>?_),?_⟩
 ·by_cases e:i=k
  ·subst e
   rw [nC rfl,World.cell?_alloc_lt _ _ _ (by simpa [World.setCell] using hX),World.cell?_setCell_same' _ _ _ (by rw [h.pt i hi'];rfl)];rfl
  ·rw [nB e]
   exact ho _ (by omega)
 ·rw [HO,<- h.op a b ha' hb']
  exact ho _ (by omega)
 ·rw [qdz (by simpa [World.setCell] using hX),World.frozen?_setCell]
  exact h.fr j
 ·exact (qaa.of_set (P:=fun b=>b=X) w (a:=⟨X,_,none⟩) rfl _).trans (qaa.of_below (zS _ _))
theorem HisP.dr {w:World} {X:Nat} {ha:Option Addr} {hc:Nat} {y:Hs} {d:Nat->Nat} (h:HisP w X ha hc y d):HisP w.drew X ha hc y d:=⟨h.c4,h.pt,h.op,h.fr⟩
theorem qaa.dr {P:Nat->Prop} {w w':World} (h:qaa P w w'):qaa P w w'.drew:=⟨h.os,h.tape,h.output,h.size,h.block⟩
theorem qtx (X:Nat) (ha:Option Addr) (hc:Nat) (hA:Nat->Option Addr) (hC:Nat->Nat) (y:Hs) (d:Nat->Nat) (k:Nat) (w:World) (hE:HisE w ha hA hC y) (hP:HisP w X ha hc y d) (h4:y.n<=4) (hk:k<y.n) (hp:y.Peers) (hl:∀ i,i<y.n->y.l i<=200) (hd:∀ i,d i<=y.l i) (hlt:d k<y.l k):
  Calls prog 190 #[.pointer (some ⟨X,4,none⟩),.int .i64 k] w fun e w'=>e=.returned (.tuple #[])/\HisP w' X ha hc y (up d k)/\qaa (fun b=>b=X) w w':=by
 have HP:Hid (HisP w X ha hc y d):=hP;have hk4:(k:Int)<4:=by omega
 have hk':(k:Int)<(y.n:Int):=by omega
 have hl200:(y.l k:Int)<=200:=by have:=hl k hk;omega
 have hlt':(d k:Int)<(y.l k:Int):=by omega
 obtain ⟨bh,oh,eh,ch⟩:=hE.row.at hk;obtain ⟨c4,pt,op,fr⟩:=hP;have pk:=pt k (by omega);rw [eh] at c4;obtain ⟨b,off,ea,zb,e0,e1,e2⟩:=(hE.ev k hk).at hlt;rw [ea] at ch;have n1:w.heap.size≠X:=by have:=HP.lt;omega
 have n2:w.heap.size≠b:=by omega
 have n3:w.heap.size≠bh:=by have:=zJ w _ ch;simp at this;omega
 have zX:X<w.heap.size:=HP.lt;have hq:=hp k hk (d k) hlt;obtain ⟨q,hqe⟩:∃ q:Nat,(y.e k (d k)).q=(q:Int):=⟨(y.e k (d k)).q.toNat,by omega⟩
 have hq4:(q:Int)<4:=by omega
 have hqn:q<y.n:=by omega
 rw [hqe] at e1;have c4':=qam c4;have pk':=qam pk;have ch':=qam ch;have e0':=qam e0;have e1':=qam e1;have e2':=qam e2;have fr':∀ j,w.frozen? ⟨X,j,none⟩=false:=fr
 rcases zK ((y.e k (d k)).k == 2) with t | t
 ·have hk2:(y.e k (d k)).k=2:=by simpa using t
  have oq:=op k q (by omega) (by omega);obtain ⟨o1,o2⟩:=Hs.opn_le hd hl hk hqn;have oq':=qam oq;rw [hk2] at e0 e0'
  have HO:Hid (∀ a b,y.opn (up d k) a b=if a=k/\b=q then y.opn d k q+1 else y.opn d a b):=fun a b=>by
   rw [Hs.opn_up,hk2,hqe];by_cases e:a=k/\b=q
   ·obtain ⟨rfl,rfl⟩:=e
    simp
   ·rw [nB e,nB (fun h=>e ⟨h.1,by omega⟩),nB (fun h=>absurd h.2.1 (by decide))]
    omega
  clear op pt t hk2 hq hqe hp hE eh ea;generalize (y.e k (d k)).v=vd at *;generalize y.opn d k q=on at *
  go_enter func190,ntmps190
  go_wp2_with fail
  go_region
  all_goals
   go_wp2_with fail
   go_region
   all_goals
    go_wp2_with fail
    go_region
    all_goals
     go_wp2_with fail
     go_end0
     have hz:=HP.put2 (o:=oQ0 2 q vd) (show k<4 by omega) (show k<4 by omega) (show q<4 by omega) HO.out;exact ⟨rfl,hz.1.dr.dr.dr,hz.2.dr.dr.dr⟩
 rcases zK ((y.e k (d k)).k == 3) with t3 | t3
 ·have hk3:(y.e k (d k)).k=3:=by simpa using t3
  have oq:=op q k (by omega) (by omega);obtain ⟨o1,o2⟩:=Hs.opn_le hd hl hqn hk;have oq':=qam oq;rw [hk3] at e0 e0'
  have HO:Hid (∀ a b,y.opn (up d k) a b=if a=q/\b=k then y.opn d q k - 1 else y.opn d a b):=fun a b=>by
   rw [Hs.opn_up,hk3,hqe];by_cases e:a=q/\b=k
   ·obtain ⟨rfl,rfl⟩:=e
    simp
   ·rw [nB e,nB (fun h=>absurd h.2.1 (by decide)),nB (fun h=>e ⟨by omega,h.1⟩)]
    omega
  clear op pt t t3 hk3 hq hqe hp hE eh ea;generalize (y.e k (d k)).v=vd at *;generalize y.opn d q k=on at *
  go_enter func190,ntmps190
  go_wp2_with fail
  go_region
  all_goals
   go_wp2_with fail
   go_region
   all_goals
    go_wp2_with fail
    go_region
    all_goals
     go_wp2_with fail
     go_end0
     have hz:=HP.put2 (o:=oQ0 3 q vd) (show k<4 by omega) (show q<4 by omega) (show k<4 by omega) HO.out;exact ⟨rfl,hz.1.dr.dr.dr,hz.2.dr.dr.dr⟩
 ·have HO:Hid (∀ a b,y.opn (up d k) a b=y.opn d a b):=fun a b=>by
   have t2:(y.e k (d k)).k≠2:=by simpa using t
   have t3':(y.e k (d k)).k≠3:=by simpa using t3
   rw [Hs.opn_up,nB (fun h=>t2 h.2.1),nB (fun h=>t3' h.2.1)];omega
  clear op pt hq hqe hp hE eh ea;generalize (y.e k (d k)).v=vd at *;generalize (y.e k (d k)).k=kd at *
  go_enter func190,ntmps190
  go_wp2_with fail
  go_region
  all_goals
   go_wp2_with fail
   go_region
   all_goals
    go_wp2_with fail
    go_end0
    have hz:=HP.put1 (o:=oQ0 kd q vd) (show k<4 by omega) HO.out;exact ⟨rfl,hz.1.dr.dr,hz.2.dr.dr⟩
def NxtR (w:World) (y:Hs) (d:Nat->Nat) (e:Ending) (w':World):Prop:=
 Below w.heap.size w w'/\((∃ k,k<y.n/\y.Can d k/\e=.returned (.int .i64 (k:Nat)))\/(e=.returned (.int .i64 (-1))/\∀ p,p<y.n->¬ y.Can d p))
theorem qr0 (X:Nat) (ha:Option Addr) (hc:Nat) (hA:Nat->Option Addr) (hC:Nat->Nat) (y:Hs) (d:Nat->Nat) (w:World) (hE:HisE w ha hA hC y) (hP:HisP w X ha hc y d) (h4:y.n<=4) (hp:y.Peers) (hl:∀ i,i<y.n->y.l i<=200) (hd:∀ i,d i<=y.l i):
  Calls prog 189 #[.pointer (some ⟨X,4,none⟩)] w (NxtR w y d):=by
 have HE:Hid (HisE w ha hA hC y):=hE;have HP:Hid (HisP w X ha hc y d):=hP;have HH:Hid (y.Peers/\(∀ i,i<y.n->y.l i<=200)/\∀ i,d i<=y.l i):=⟨hp,hl,hd⟩
 have hn:(y.n:Int)<=4:=by omega
 obtain ⟨c4,-,-,-⟩:=hP;clear hE hp hl hd
 go_enter func189,ntmps189
 go_wp2_with fail
 clear c4
 go_loopw [9] (fun i wr=>∃ k:Nat,k<=y.n/\i=.int .i64 k/\Below w.heap.size w wr/\Hid (∀ j,j<k->¬ y.Can d j)) (fun i _=>y.n - (intOf i).toNat)
 case atStart=>exact ⟨0,nD _,rfl,nE _ _,fun j hj=>by omega⟩
 case round=>
  obtain ⟨k,hk,rfl,hbw,HZ⟩:=hrel;by_cases hlt:k<y.n
  ·have hlt':(k:Int)<(y.n:Int):=by omega
   go_wp2_with fail
   refine (qsk X ha hc hA hC y d k wr (HE.bw hbw) (HP.bw hbw) h4 hlt HH.1 HH.2.1 HH.2.2).mono ?_;rintro e w1 ⟨rfl,b1⟩;have B1:Hid (Below w.heap.size w w1):=hbw.trans (b1.mono hbw.size);clear b1 hbw;by_cases hc':y.Can d k
   ·have HF:Hid (NxtR w y d (.returned (.int .i64 k)) w1):=⟨B1.out,.inl ⟨k,hlt,hc',rfl⟩⟩
    rw [qbv hc'];clear hc' B1;go_wp2;go_ret;exact HF.out
   ·have HZ':Hid (∀ j,j<k+1->¬ y.Can d j):=fun j hj=>by
     by_cases e:j=k
     ·subst e
      exact hc'
     ·exact HZ.out j (by omega)
    rw [qa7 hc'];clear hc' HZ;go_wp2;go_roundw
    case rel=>exact ⟨k+1,by omega,by go_num,B1.out,HZ'.out⟩
    case measure=>simp [intOf];omega
  ·have HF:Hid (NxtR w y d (.returned (.int .i64 (-1))) wr):=⟨hbw,.inr ⟨rfl,fun p hp=>HZ.out p (by omega)⟩⟩
   clear HZ hbw;go_wp2;go_ret;exact HF.out
theorem qsd (X:Nat) (ha:Option Addr) (hc:Nat) (hA:Nat->Option Addr) (hC:Nat->Nat) (y:Hs) (d:Nat->Nat) (w:World) (hE:HisE w ha hA hC y) (hP:HisP w X ha hc y d) (h4:y.n<=4) (hl:∀ i,i<y.n->y.l i<=200) (hd:∀ i,d i<=y.l i):
  Calls prog 191 #[.pointer (some ⟨X,4,none⟩)] w (rB w (.bool (qB (y.All d)))):=by
 have HE:Hid (HisE w ha hA hC y):=hE;have HP:Hid (HisP w X ha hc y d):=hP;have HH:Hid ((∀ i,i<y.n->y.l i<=200)/\∀ i,d i<=y.l i):=⟨hl,hd⟩
 have hn:(y.n:Int)<=4:=by omega
 obtain ⟨c4,-,-,-⟩:=hP;clear hE hl hd
 go_enter func191,ntmps191
 go_wp2_with fail
 clear c4
 go_loopw [10] (fun i wr=>∃ k:Nat,k<=y.n/\i=.int .i64 k/\Below w.heap.size w wr/\Hid (∀ j,j<k->d j=y.l j)) (fun i _=>y.n - (intOf i).toNat)
 case atStart=>exact ⟨0,nD _,rfl,nE _ _,fun j hj=>by omega⟩
 case round=>
  obtain ⟨k,hk,rfl,hbw,HZ⟩:=hrel;by_cases hlt:k<y.n
  ·have hlt':(k:Int)<(y.n:Int):=by omega
   have hk4:(k:Int)<4:=by omega
   obtain ⟨bh,oh,eh,ch⟩:=(HE.bw hbw).row.at hlt;have pk:=(HP.bw hbw).pt k (by omega);have hd':(d k:Int)<=(y.l k:Int):=by have:=HH.2 k;omega
   rw [eh];by_cases hs:d k<y.l k
   ·have hs':(d k:Int)<(y.l k:Int):=by omega
    have HN:Hid (qB (y.All d)=false):=qa7 fun h=>by have:=h k hlt;omega
    clear HZ;go_wp2;go_ret;rw [HN.out];exact ⟨rfl,hbw⟩
   ·have hs':¬ (d k:Int)<(y.l k:Int):=by omega
    have HZ':Hid (∀ j,j<k+1->d j=y.l j):=fun j hj=>by
     by_cases e:j=k
     ·subst e
      omega
     ·exact HZ.out j (by omega)
    clear HZ;go_wp2;go_roundw
    case rel=>exact ⟨k+1,by omega,by go_num,hbw,HZ'.out⟩
    case measure=>simp [intOf];omega
  ·have HN:Hid (qB (y.All d)=true):=qbv fun p hp=>HZ.out p (by omega)
   clear HZ;go_wp2;go_ret;rw [HN.out];exact ⟨rfl,hbw⟩
theorem Tryz.et : prog.globalNamed "errors.errorType" = some 0 := by kernel_rfl
theorem Tryz.rt : (prog.cutTypes.find? (·.1 == "internal/reflectlite.rtype")).map (·.2) = some 300 := by kernel_rfl
theorem Tryz.oneRow:((List.range 343).filter fun t=>prog.rowNamed t [101,114,114,111,114])=[269]:=by kernel_rfl
theorem Tryz.tsize:prog.types.size=343:=by kernel_rfl
theorem qjc {W : World} (h : laidMetH prog [("errors.errorType", Rows.laid_errors_errorType)] W) : W.cell? ⟨0, 0, none⟩ = some (.iface 300 (.agg #[.pointer (some ⟨1, 269, none⟩)])) := by
 have h' : laidMet prog [] W /\ handlesMet prog [("errors.errorType", Rows.laid_errors_errorType)] W := h
 obtain ⟨name,u,ty,e1,e2,e3,e4,e5⟩:=h'.2 _ (List.mem_singleton.2 rfl);have en:name=[101,114,114,111,114]:=(Option.some.inj e1).symm;subst en;obtain rfl:=Option.some.inj (Tryz.rt.symm.trans e2);have hm:ty ∈ (List.range 343).filter fun t=>prog.rowNamed t [101,114,114,111,114]:=List.mem_filter.2 ⟨List.mem_range.2 (by rw [<- Tryz.tsize];exact e3),e4⟩;rw [Tryz.oneRow] at hm;obtain rfl:=List.mem_singleton.1 hm;have hh:typeHandle prog 269=.pointer (some ⟨1,269,none⟩):=by kernel_rfl
 rw [hh] at e5;simpa using World.var?_cell Tryz.et e5 0
noncomputable def qnr (os:Os):World:=
 let w0:=World.holding prog os ⟨#[],#[],[]⟩
 { w0 with heap := w0.heap.modify 0 fun
   | .cells _ t frozen=>.cells #[.iface 300 (.agg #[.pointer (some ⟨1,269,none⟩)])] t frozen
   | o=>o }
theorem qle (os : Os) (args : Array Value) : laidMetH prog [("errors.errorType", Rows.laid_errors_errorType)] ((qnr os).forCall (fun _ _ => 0) ⟨#[], args, []⟩).memory :=
 laidMetH_of_parts (laidMet_nil _ _) (by kernel_rfl)
