import Derived.Test.YtbgfjbgdiifghaaGreatDoorZn8
import Derived.Test.YtbgfjbgdiifghaaGreatDoorTie
namespace Go.Proofs.YtbgfjbgdiifghaaGreatDoor
open Go.Proofs.Tryz
set_option maxRecDepth 100000
set_option maxHeartbeats 2000000
open Go.ChangeShapes Go.WideShapes Go.ChangeAt Go.RowKit Go.Deep
theorem zQ (w:World) (o:Obj):Bw w (w.alloc o):=(nE _ _).alloc (nA _) _
def Src (w:World) (a0:Option Addr) (cs:List Value):Prop:=cs=[]\/∃ b off,a0=some ⟨b,off,none⟩/\b<w.heap.size/\∀ j u,cs[j]? = some u->w.cell? ⟨b,off+j,none⟩=some u
theorem Src.bw {w w':World} {a0:Option Addr} {cs:List Value} (h:Src w a0 cs) (hb:Bw w w'):Src w' a0 cs:=by
 rcases h with h | ⟨b,off,e,hlt,hc⟩
 ·exact .inl h
 ·exact .inr ⟨b,off,e,zL hlt hb.size,fun j u hj=>(hb.cell (p:=⟨b,off+j,none⟩) hlt).trans (hc j u hj)⟩
structure Kind (t e:TypeId) (size bytes:Nat):Prop where
 und:prog.underlying t=some (.slice e)
 inf:∃ i z,prog.info? e=some i/\i.zero=some z/\i.size=size/\i.bytes=bytes/\z.cells.size=size
 pos:0<size
 sml:bytes<=128
theorem qe8 {t e:TypeId} {size bytes:Nat} (K:Kind t e size bytes) (w:World) (ty:TypeId) (B:Nat) (v:Value) (n:Nat) (xs:List Value) (hown:w.ownsRow B e size v n xs) (a0:Option Addr) (m c:Nat) (news:List Value) (hl:news.length=m*size) (hsrc:Src w a0 news) (h1:∀ u ∈ news,u.oneCell'=true) (hnm:n+m<=4000000) (hB:B<=w.heap.size):
  ∃ v' w',(Builtin.append_ #[t,t] ty #[v,.slice a0 m c]).run prog w=.ok v' w'/\w'.ownsRow B e size v' (n+m) (xs ++ news)/\w.grownBy w' v.ownBlock/\(v'.ownBlock=v.ownBlock\/v'.ownBlock=some w.heap.size)/\(v≠.slice none 0 0\/0<m->v'≠nS):=by
 obtain ⟨i,z,hi,hz,hs,hb,hzs⟩:=K.inf;have hby:(n+m)*bytes<=140737488355328:=zP (Nat.mul_le_mul hnm K.sml) (by omega);cases a0 with
 | none=>
  have hn0:news=[]:=by
   rcases hsrc with h | ⟨b,off,e,_⟩
   ·exact h
   ·cases e
  subst hn0
  have hm:m=0:=by
   have:=K.pos;simp only [List.length_nil] at hl
   rcases Nat.eq_zero_or_pos m with h | h
   ·exact h
   ·have:=Nat.mul_pos h K.pos
    omega
  subst hm;refine ⟨v,w,?_,by simpa using hown,World.grownBy.refl _ _,.inl rfl,fun h=>h.elim id fun h=>by omega⟩
  rcases hown.2 with ⟨rfl,_⟩ | ⟨g,cap,cur,rfl,_,_,hnc,_⟩
  ·simp [Builtin.append_,run_underlying K.und,sizeOf,typeInfo,hi,Builtin.lenOf,Builtin.firstCells]
  ·simp [Builtin.append_,run_underlying K.und,sizeOf,typeInfo,hi,Builtin.lenOf,Builtin.firstCells,hnc,storeCells]
 | some a=>
  have hnews:∀ j u,news[j]? = some u->w.cell? (a.add j)=some u:=by
   rcases hsrc with h0 | ⟨b,off,e,hlt,hc⟩
   ·subst h0
    intro j u hj;simp at hj
   ·cases e
    intro j u hj;have ha:Addr.add ⟨b,off,none⟩ j=⟨b,off+j,none⟩:=by unfold Addr.add;split <;> simp_all
    rw [ha];exact hc j u hj
  obtain ⟨v',w',r1,r2,r3,r4,r5⟩:=run_append_own_at (P:=prog) w B t ty e i z size bytes K.und hi hz hs hb hzs K.pos v n xs hown a m c news hl hnews h1 (by unfold maxLen;omega) hby hB;exact ⟨v',w',r1,r2,r3,r5,fun h e=>h.elim (fun h=>h (r4.1 e).1) fun h=>by have:=(r4.1 e).2;omega⟩
theorem qej {ops:Array Oper} {rest:List Oper} {op:Oper} {act:Act} {Q:Exit->Act->World->Prop} {t e:TypeId} {size bytes:Nat} (K:Kind t e size bytes) (w:World) (hgd:op.guard=none) (s x:Operand)
  (ho:op.op=.call { callee:=.builtin .append,args:=#[s,x],argTypes:=#[t,t] })
  (B:Nat) (v:Value) (n:Nat) (xs:List Value) (hs:act.eval s=v) (hown:w.ownsRow B e size v n xs) (a0:Option Addr) (m c:Nat) (news:List Value) (hx:act.eval x=.slice a0 m c) (hl:news.length=m*size) (hsrc:Src w a0 news) (h1:∀ u ∈ news,u.oneCell'=true) (hnm:n+m<=4000000) (hB:B<=w.heap.size)
  (h:∀ v' w',w'.ownsRow B e size v' (n+m) (xs ++ news)->w.grownBy w' v.ownBlock->(v'.ownBlock=v.ownBlock\/v'.ownBlock=some w.heap.size)->(v≠.slice none 0 0\/0<m->v'≠nS)->wpList prog ops Q rest (act.put op.dst v') w'):
  wpList prog ops Q (op :: rest) act w:=by
 obtain ⟨v',w',r1,r2,r3,r4,r5⟩:=qe8 K w op.type B v n xs hown a0 m c news hl hsrc h1 hnm hB;refine wpList_plain hgd fun K hK=>?_;unfold Oper.wp execOp;simp only [ho,resolve,invoke,builtin,Sem.run_bind,Sem.run_pure,Result.andThen_ok,List.map_toArray,List.map_cons,List.map_nil,hs,hx,r1];exact hK _ _ (h v' w' r2 r3 r4 r5)
theorem qcn {ops:Array Oper} {rest:List Oper} {op:Oper} {act:Act} {Q:Exit->Act->World->Prop} {t e:TypeId} {size bytes:Nat} (K:Kind t e size bytes) (w:World) {N:Nat} (hN:N=w.heap.size) (hgd:op.guard=none) (s x:Operand)
  (ho:op.op=.call { callee:=.builtin .append,args:=#[s,x],argTypes:=#[t,t] })
  (a0:Option Addr) (m c:Nat) (news:List Value) (hs:act.eval s=.slice (some ⟨N,0,none⟩) 0 0) (hx:act.eval x=.slice a0 m c) (hl:news.length=m*size) (hsrc:Src w a0 news) (h1:∀ u ∈ news,u.oneCell'=true) (hnm:m<=4000000)
  (h:∀ v' w',w'.ownsRow w.heap.size e size v' m news->Bw w w'->v'≠.slice none 0 0->wpList prog ops Q rest (act.put op.dst v') w'):
  wpList prog ops Q (op :: rest) act (w.alloc (.cells #[] e)):=by
 subst hN;have hb:Bw w (w.alloc (.cells #[] e)):=zQ _ _;refine qej K _ hgd s x ho w.heap.size (sG w.heap.size 0 0) 0 [] hs (World.ownsRow_made (base:=w.heap.size) (e:=e) (size:=size) w #[] 0 (nA _) (by unfold maxLen;omega) (by simp)) a0 m c news hx hl (hsrc.bw hb) h1 (by omega) (by simp) ?_;intro v' w' o g _ hne;rw [nL,List.nil_append] at o;exact h v' w' o (hb.grown g (by simp) (fun k hk=>by cases hk;exact nA _)) (hne (.inl (by simp)))
theorem qai {ops:Array Oper} {rest:List Oper} {op:Oper} {act:Act} {Q:Exit->Act->World->Prop} {t e:TypeId} {size bytes:Nat} (K:Kind t e size bytes) (w:World) {N:Nat} (hN:N=w.heap.size) (hgd:op.guard=none) (s x:Operand)
  (ho:op.op=.call { callee:=.builtin .append,args:=#[s,x],argTypes:=#[t,t] })
  (B:Nat) (v:Value) (n:Nat) (xs:List Value) (hs:act.eval s=v) (hown:w.ownsRow B e size v n xs) (cs:Array Value) (hx:act.eval x=.slice (some ⟨N,0,none⟩) 1 1) (hl:cs.size=size) (h1:∀ u ∈ cs.toList,u.oneCell'=true) (hn:n<=2000000) (hB:B<=w.heap.size)
  (h:∀ v' w',w'.ownsRow B e size v' (n+1) (xs ++ cs.toList)->w.grownBy w' v.ownBlock->(∀ j,v'.ownBlock=some j->v.ownBlock=some j\/w.heap.size<=j)->v'≠.slice none 0 0->wpList prog ops Q rest (act.put op.dst v') w'):
  wpList prog ops Q (op :: rest) act (w.alloc (.cells cs e)):=by
 subst hN;have hb:Bw w (w.alloc (.cells cs e)):=zQ _ _;refine qej K _ hgd s x ho B v n xs hs (hown.alloc _) (some (aQ w.heap.size 0)) 1 1 cs.toList hx (by simp [hl]) (.inr ⟨w.heap.size,0,rfl,by simp,fun j u hj=>?_⟩) h1 (by omega) (by simp;omega) ?_
 ·rw [nL,zW _ _ _ j rfl]
  simpa using hj
 ·intro v' w' o g hbk hne
  refine h v' w' o ⟨g.os,g.tape,g.output,zP hb.size g.size,fun j hj hne=>(g.block j (zL hj hb.size) hne).trans (hb.block j hj)⟩ (fun j hj=>?_) (hne (.inr (by omega)))
  rcases hbk with a | a
  ·exact .inl (a.symm.trans hj)
  ·rw [hj] at a
   simp only [nG] at a;right;rw [a];simp
def Nz (z:Bool) (e:TypeId):Prop:=z=true\/e=45
theorem nzI {z:Bool}:Nz z 45:=.inr rfl
structure LL (z:Bool) (e:TypeId) (sz:Nat) (E:TypeId) (w:World) (P:Nat->Prop) (v:Value) (n:Nat) (u:Nat->Value) (L:Nat->Nat) (c:Nat->List Value):Prop where
 row:w.ownsRow 0 E 1 v n ((List.range n).map u)
 own:∀ i,i<n->w.ownsRow 0 e sz (u i) (L i) (c i)
 rb:∀ k,v.ownBlock=some k->P k
 ob:∀ i,i<n->∀ k,(u i).ownBlock=some k->P k
 ra:∀ i,i<n->∀ k,(u i).ownBlock=some k->v.ownBlock≠some k
 oa:∀ i j,i<n->j<n->i≠j->∀ k,(u i).ownBlock=some k->(u j).ownBlock≠some k
 nn:Nz z e->∀ i,i<n->u i≠nS
theorem qas {w w':World} {B size n:Nat} {e:TypeId} {v:Value} {xs:List Value} (h:w.ownsRow B e size v n xs) (hb:∀ k,v.ownBlock=some k->w'.heap[k]? = w.heap[k]?):w'.ownsRow B e size v n xs:=by
 refine ⟨h.1,?_⟩
 rcases h.2 with hn | ⟨g,cap,cur,rfl,hB,hg,hr⟩
 ·exact .inl hn
 ·exact .inr ⟨g,cap,cur,rfl,hB,(hb g rfl).trans hg,hr⟩
theorem qcr {w:World} {B size n:Nat} {e:TypeId} {v:Value} {xs:List Value} (h:w.ownsRow B e size v n xs):w.ownsRow 0 e size v n xs:=h.mono (nD _)
section
variable {z:Bool} {e:TypeId} {sz:Nat} {E:TypeId} {w:World} {P:Nat->Prop} {v:Value} {n:Nat} {u:Nat->Value} {L:Nat->Nat} {c:Nat->List Value}
theorem LL.keep (o:LL z e sz E w P v n u L c) {w':World} (hb:∀ k,P k->k<w.heap.size->w'.heap[k]? = w.heap[k]?):LL z e sz E w' P v n u L c:=
 ⟨qas o.row fun k hk=>hb k (o.rb k hk) (o.row.lt k hk).2,fun i hi=>qas (o.own i hi) fun k hk=>hb k (o.ob i hi k hk) ((o.own i hi).lt k hk).2,o.rb,o.ob,o.ra,o.oa,o.nn⟩
theorem LL.bw (o:LL z e sz E w P v n u L c) {w':World} (hb:Bw w w'):LL z e sz E w' P v n u L c:=o.keep fun k _ hk=>hb.block k hk
theorem LL.mono (o:LL z e sz E w P v n u L c) {P':Nat->Prop} (h:∀ k,P k->k<w.heap.size->P' k):LL z e sz E w P' v n u L c:=
 ⟨o.row,o.own,fun k hk=>h k (o.rb k hk) (o.row.lt k hk).2,fun i hi k hk=>h k (o.ob i hi k hk) ((o.own i hi).lt k hk).2,o.ra,o.oa,o.nn⟩
theorem LL.pushG (o:LL z e sz E w P v n u L c) {w1 w2:World} {u' v':Value} (hsz:w.heap.size<=w1.heap.size) (hb:∀ k,P k->k<w.heap.size->w1.heap[k]? = w.heap[k]?) (hu:w1.ownsRow w.heap.size e sz u' (L n) (c n)) (hne:Nz z e->u'≠nS) (hv:w2.ownsRow 0 E 1 v' (n+1) ((List.range n).map u ++ [u'])) (g:w1.grownBy w2 v.ownBlock)
  (hv':∀ j,v'.ownBlock=some j->v.ownBlock=some j\/w1.heap.size<=j) {P':Nat->Prop} (hP:∀ k,P k->k<w.heap.size->P' k) (hP':∀ k,w.heap.size<=k->k<w2.heap.size->P' k):LL z e sz E w2 P' v' (n+1) (fun j=>if j=n then u' else u j) L c:=by
 have hvlt:∀ k,v.ownBlock=some k->k<w.heap.size:=fun k hk=>(o.row.lt k hk).2
 have hu2 : w2.ownsRow w.heap.size e sz u' (L n) (c n) := hu.kept g (by
  cases hk:u'.ownBlock with
  | none=>exact .inl rfl
  | some k=>
   refine .inr fun e=>?_;have q1:=(hu.lt k hk).1;have q2:=hvlt k e.symm
   omega)
 have ho2:∀ i,i<n->w2.ownsRow 0 e sz (u i) (L i) (c i):=fun i hi=>qas (o.own i hi) fun k hk=>(g.block k (zL ((o.own i hi).lt k hk).2 hsz) fun e=>o.ra i hi k hk e.symm).trans (hb k (o.ob i hi k hk) ((o.own i hi).lt k hk).2);have lts:∀ i,i<n->∀ k,(u i).ownBlock=some k->k<w.heap.size:=fun i hi k hk=>((o.own i hi).lt k hk).2;refine ⟨?_,fun i hi=>?_,fun k hk=>?_,fun i hi k hk=>?_,fun i hi k hk=>?_,fun i j hi hj hij k hk=>?_,fun hz i hi=>?_⟩
 ·have e:(List.range (n+1)).map (fun j=>if j=n then u' else u j)=(List.range n).map u ++ [u']:=by
   rw [List.range_succ,List.map_append];simp only [List.map_cons,List.map_nil,if_true]
   congr 1
   exact List.map_congr_left fun j hj=>by
    rw [nB];have:=List.mem_range.1 hj;omega
  rw [e];exact hv
 ·by_cases ei:i=n
  ·subst ei
   rw [nC rfl];exact qcr hu2
  ·rw [nB ei]
   exact ho2 i (by omega)
 ·rcases hv' k hk with h | h
  ·exact hP k (o.rb k h) (hvlt k h)
  ·exact hP' k (zP hsz h) (hv.lt k hk).2
 ·by_cases ei:i=n
  ·simp only [nC ei] at hk
   exact hP' k (hu.lt k hk).1 (hu2.lt k hk).2
  ·simp only [nB ei] at hk
   exact hP k (o.ob i (by omega) k hk) (lts i (by omega) k hk)
 ·intro hvk
  by_cases ei:i=n
  ·simp only [nC ei] at hk
   rcases hv' k hvk with h | h
   ·have:=hvlt k h
    have:=(hu.lt k hk).1;omega
   ·have:=(hu.lt k hk).2
    omega
  ·simp only [nB ei] at hk
   rcases hv' k hvk with h | h
   ·exact o.ra i (by omega) k hk h
   ·have:=lts i (by omega) k hk
    omega
 ·intro hjk
  by_cases ei:i=n
  ·have ej:j≠n:=fun e=>hij (by omega)
   simp only [nC ei] at hk;simp only [nB ej] at hjk;have:=lts j (by omega) k hjk;have:=(hu.lt k hk).1;omega
  ·simp only [nB ei] at hk
   by_cases ej:j=n
   ·simp only [nC ej] at hjk
    have:=lts i (by omega) k hk;have:=(hu.lt k hjk).1;omega
   ·simp only [nB ej] at hjk
    exact o.oa i j (by omega) (by omega) hij k hk hjk
 ·by_cases ei:i=n
  ·rw [nC ei]
   exact hne hz
  ·rw [nB ei]
   exact o.nn hz i (by omega)
theorem LL.push (o:LL z e sz E w P v n u L c) {w1 w2:World} {u' v':Value} (b1:Bw w w1) (hu:w1.ownsRow w.heap.size e sz u' (L n) (c n)) (hne:Nz z e->u'≠nS) (hv:w2.ownsRow 0 E 1 v' (n+1) ((List.range n).map u ++ [u'])) (g:w1.grownBy w2 v.ownBlock)
  (hv':∀ j,v'.ownBlock=some j->v.ownBlock=some j\/w1.heap.size<=j) {P':Nat->Prop} (hP:∀ k,P k->k<w.heap.size->P' k) (hP':∀ k,w.heap.size<=k->k<w2.heap.size->P' k):LL z e sz E w2 P' v' (n+1) (fun j=>if j=n then u' else u j) L c:=
 o.pushG b1.size (fun k _ hk=>b1.block k hk) hu hne hv g hv' hP hP'
theorem LL.nil (e:TypeId) (sz:Nat) (E:TypeId) (w:World) (P:Nat->Prop) (u:Nat->Value) (L:Nat->Nat) (c:Nat->List Value):LL z e sz E w P nS 0 u L c:=
 ⟨World.ownsRow_nil _ _ _ _,fun i hi=>(by omega),fun k hk=>(by cases hk),fun i hi=>(by omega),fun i hi=>(by omega),fun i j hi=>(by omega),fun _ i hi=>by omega⟩
theorem LL.new (e:TypeId) (sz:Nat) (E:TypeId) (w:World) (P:Nat->Prop) (hP:P w.heap.size) (u:Nat->Value) (L:Nat->Nat) (c:Nat->List Value):LL z e sz E (w.alloc (.cells #[] E)) P (sG w.heap.size 0 0) 0 u L c:=
 ⟨World.ownsRow_made (base:=0) (e:=E) (size:=1) w #[] 0 (nD _) (by unfold maxLen;omega) rfl,fun i hi=>(by omega),fun k hk=>(by cases hk;exact hP),fun i hi=>(by omega),fun i hi=>(by omega),fun i j hi=>(by omega),fun _ i hi=>by omega⟩
theorem LL.cell (o:LL z e sz E w P v n u L c) {i:Nat} (hi:i<n):∃ g cap,v=.slice (some ⟨g,0,none⟩) n cap/\P g/\g<w.heap.size/\w.cell? ⟨g,i,none⟩=some (u i)/\∀ j,w.frozen? ⟨g,j,none⟩=false:=by
 rcases o.row.2 with ⟨_,h0⟩ | ⟨g,cap,cur,rfl,hb,hg,hr⟩
 ·omega
 ·refine ⟨g,cap,rfl,o.rb g rfl,(o.row.lt g rfl).2,?_,fun j=>o.row.frozenAt j⟩
  rw [o.row.cellAt i (by omega)];simp [hi]
theorem LL.put {g cap:Nat} (o:LL z e sz E w P (sG g n cap) n u L c) {i:Nat} (hi:i<n) {w1:World} {u':Value} {m:Nat} {c':List Value} (_hs:w.heap.size<=w1.heap.size) (g1:∀ k,k<w.heap.size->(u i).ownBlock≠some k->w1.heap[k]? = w.heap[k]?)
  (hu:w1.ownsRow 0 e sz u' m c') (hne:Nz z e->u'≠nS) (hb:∀ k,u'.ownBlock=some k->(u i).ownBlock=some k\/w.heap.size<=k) {P':Nat->Prop} (hP:∀ k,P k->k<w.heap.size->P' k) (hP':∀ k,w.heap.size<=k->k<w1.heap.size->P' k):
  LL z e sz E (w1.setCell (aQ g i) u') P' (sG g n cap) n (fun j=>if j=i then u' else u j) (fun j=>if j=i then m else L j) (fun j=>if j=i then c' else c j):=by
 have hg:g<w.heap.size:=(o.row.lt g rfl).2;have hgi:(u i).ownBlock≠some g:=fun e=>o.ra i hi g e rfl
 have row1:w1.ownsRow 0 E 1 (sG g n cap) n ((List.range n).map u):=qas o.row fun k hk=>by
  cases hk;exact g1 g hg hgi
 have hu'g:u'.ownBlock≠some g:=fun e=>by
  rcases hb g e with h | h
  ·exact hgi h
  ·omega
 have lts:∀ j,j<n->∀ k,(u j).ownBlock=some k->k<w.heap.size:=fun j hj k hk=>((o.own j hj).lt k hk).2;refine ⟨?_,fun j hj=>?_,fun k hk=>?_,fun j hj k hk=>?_,fun j hj k hk=>?_,fun a b ha hb' hab k hk=>?_,fun hz j hj=>?_⟩
 ·have h:=(World.ownsRow.stored row1 i u').1
  have e:(List.range n).map (fun j=>if j=i then u' else u j)=((List.range n).map u).set i u':=by
   apply List.ext_getElem (by simp);intro j h1 h2;simp only [List.getElem_map,List.getElem_range,List.getElem_set];by_cases q:j=i
   ·rw [nC q,nC q.symm]
   ·rw [nB q,nB fun e=>q e.symm]
  rw [e];exact h
 ·by_cases ej:j=i
  ·subst ej
   simp only [if_true];exact ownsRow_setCell_other hu hu'g _
  ·simp only [nB ej]
   refine ownsRow_setCell_other (qas (o.own j hj) fun k hk=>g1 k (lts j hj k hk) fun e=>o.oa j i hj hi ej k hk e) (fun e=>o.ra j hj g e rfl) _
 ·cases hk
  exact hP g (o.rb g rfl) hg
 ·by_cases ej:j=i
  ·simp only [nC ej] at hk
   rcases hb k hk with h | h
   ·exact hP k (o.ob i hi k h) (lts i hi k h)
   ·exact hP' k h (hu.lt k hk).2
  ·simp only [nB ej] at hk
   exact hP k (o.ob j hj k hk) (lts j hj k hk)
 ·intro hvk
  cases hvk;by_cases ej:j=i
  ·simp only [nC ej] at hk
   exact hu'g hk
  ·simp only [nB ej] at hk
   exact o.ra j hj g hk rfl
 ·intro hbk
  by_cases ea:a=i
  ·have eb:b≠i:=fun e=>hab (by omega)
   simp only [nC ea] at hk;simp only [nB eb] at hbk
   rcases hb k hk with h | h
   ·exact o.oa b i hb' hi eb k hbk h
   ·have:=lts b hb' k hbk
    omega
  ·simp only [nB ea] at hk
   by_cases eb:b=i
   ·simp only [nC eb] at hbk
    rcases hb k hbk with h | h
    ·exact o.oa a i ha hi ea k hk h
    ·have:=lts a ha k hk
     omega
   ·simp only [nB eb] at hbk
    exact o.oa a b ha hb' hab k hk hbk
 ·by_cases ej:j=i
  ·simp only [nC ej]
   exact hne hz
  ·simp only [nB ej]
   exact o.nn hz j hj
end
structure St8 where
 p:Int
 ra:Option Addr
 rc:Nat
 rs:List Int
 oa:Option Addr
 oc:Nat
 os:List Int
 c:Int
def St8.s (x:St8):S4:=⟨x.p,x.rs,x.os,x.c⟩
def lenS (S:Nat->S4) (i:Nat):Nat:=(S i).rs.length+(S i).os.length
structure qdn (W:World) (a0:Option Addr) (n:Nat) (q:Nat->St8):Prop where
 row:n=0\/∃ b off,a0=some ⟨b,off,none⟩/\b<W.heap.size/\∀ i,i<n->W.cell? ⟨b,off+i*4,none⟩=some (iV (q i).p)/\W.cell? ⟨b,off+i*4+1,none⟩=some (.slice (q i).ra (q i).rs.length (q i).rc)/\W.cell? ⟨b,off+i*4+2,none⟩=some (.slice (q i).oa (q i).os.length (q i).oc)/\W.cell? ⟨b,off+i*4+3,none⟩=some (iV (q i).c)
 lst:∀ i,i<n->Sl W (q i).ra (q i).rs/\Sl W (q i).oa (q i).os
theorem qdn.bw {w w':World} {a0:Option Addr} {n:Nat} {q:Nat->St8} (h:qdn w a0 n q) (hb:Bw w w'):qdn w' a0 n q:=by
 refine ⟨?_,fun i hi=>⟨(h.lst i hi).1.bw hb,(h.lst i hi).2.bw hb⟩⟩
 rcases h.row with h | ⟨b,off,e,hlt,hc⟩
 ·exact .inl h
 ·exact .inr ⟨b, off, e, Nat.lt_of_lt_of_le hlt hb.size, fun i hi => by
   obtain ⟨h0,h1,h2,h3⟩:=hc i hi
   exact ⟨(hb.cell hlt).trans h0,(hb.cell hlt).trans h1,(hb.cell hlt).trans h2,(hb.cell hlt).trans h3⟩⟩
theorem qdn.at {w:World} {a0:Option Addr} {n:Nat} {q:Nat->St8} (h:qdn w a0 n q) {k:Nat} (hk:k<n):∃ b off,a0=some (aQ b off)/\w.cell? ⟨b,off+k*4,none⟩=some (iV (q k).p)/\w.cell? ⟨b,off+k*4+1,none⟩=some (.slice (q k).ra (q k).rs.length (q k).rc)/\w.cell? ⟨b,off+k*4+2,none⟩=some (.slice (q k).oa (q k).os.length (q k).oc)/\w.cell? ⟨b,off+k*4+3,none⟩=some (iV (q k).c):=by
 rcases h.row with rfl | ⟨b,off,e,-,hc⟩
 ·omega
 ·exact ⟨b,off,e,hc k hk⟩
theorem qod {w w':World} {B size n:Nat} {e:TypeId} {v:Value} {xs:List Value} (h:w.ownsRow B e size v n xs) (hb:∀ k,v.ownBlock=some k->w'.heap[k]? = w.heap[k]?):w'.ownsRow B e size v n xs:=by
 obtain ⟨h0,h⟩:=h;refine ⟨h0,?_⟩
 rcases h with h | ⟨g,cap,cur,rfl,h1,h2,h3⟩
 ·exact .inl h
 ·exact .inr ⟨g,cap,cur,rfl,h1,(hb g rfl).trans h2,h3⟩
theorem OwnI.blk {w w':World} {B:Nat} {v:Value} {xs:List Int} (h:OwnI w B v xs) (hb:∀ k,v.ownBlock=some k->w'.heap[k]? = w.heap[k]?):OwnI w' B v xs:=qod h hb
theorem qac.blk {w w':World} {B:Nat} {v:Value} {p code:Int} {rs os:List Int} (h:qac w B v p rs os code) (hb:∀ k,qak v k->w'.heap[k]? = w.heap[k]?):qac w' B v p rs os code:=by
 obtain ⟨vr,vo,rfl,h1,h2,h3⟩:=h;exact ⟨vr,vo,rfl,h1.blk fun k hk=>hb k ((qav _ _ _ _ _).2 (.inl hk)),h2.blk fun k hk=>hb k ((qav _ _ _ _ _).2 (.inr hk)),h3⟩
def Cel4 (w:World) (D j:Nat) (S:S4) (v:Value):Prop:=∃ ra rc oa oc,v=stV S.p ra S.rs.length rc oa S.os.length oc S.c/\w.cell? (aQ D j)=some (iV S.p)/\w.cell? ⟨D,j+1,none⟩=some (.slice ra S.rs.length rc)/\w.cell? ⟨D,j+2,none⟩=some (.slice oa S.os.length oc)/\w.cell? ⟨D,j+3,none⟩=some (iV S.c)
theorem Cel4.blk {w w':World} {D j:Nat} {S:S4} {v:Value} (h:Cel4 w D j S v) (hb:w'.heap[D]? = w.heap[D]?):Cel4 w' D j S v:=by
 obtain ⟨ra,rc,oa,oc,e,h0,h1,h2,h3⟩:=h;exact ⟨ra,rc,oa,oc,e,(zH hb).trans h0,(zH hb).trans h1,(zH hb).trans h2,(zH hb).trans h3⟩
theorem qxj:(prog.info? 66).map (fun i=>(i.zero,i.size,i.bytes))=some (some (stV 0 none 0 0 none 0 0 0),4,64):=by kernel_rfl
def flat (f:Nat->List Value):Nat->List Value
 | 0=>[]
 | n+1=>flat f n ++ f n
theorem qc7 {f:Nat->List Value} {sz:Nat}:∀ {n:Nat},(∀ i,i<n->(f i).length=sz)->(flat f n).length=n*sz
 | 0,_=>by simp [flat]
 | n+1,h=>by
  rw [flat,List.length_append,qc7 (fun i hi=>h i (by omega)),h n (by omega),Nat.add_mul,Nat.one_mul]
theorem qdp {f:Nat->List Value} {sz:Nat}:∀ {n:Nat},(∀ i,i<n->(f i).length=sz)->∀ {i j:Nat},i<n->j<sz->(flat f n)[i*sz+j]? = (f i)[j]?
 | 0,_,i,j,hi,_=>by omega
 | n+1,h,i,j,hi,hj=>by
  have hl:=qc7 (f:=f) (sz:=sz) (n:=n) fun i hi=>h i (by omega);by_cases e:i=n
  ·subst e
   rw [flat,List.getElem?_append_right (by omega),hl]
   congr 1
   omega
  ·have:i*sz+sz<=n*sz:=by
    have:=Nat.mul_le_mul_right sz (show i+1<=n by omega);rw [Nat.add_mul,Nat.one_mul] at this;exact this
   rw [flat,List.getElem?_append_left (by omega)];exact qdp (fun i hi=>h i (by omega)) (by omega) hj
theorem qhs {f:Nat->List Value}:∀ {n:Nat},(∀ i,i<n->∀ u ∈ f i,u.oneCell'=true)->∀ u ∈ flat f n,u.oneCell'=true
 | 0,_,u,hu=>by simp [flat] at hu
 | n+1,h,u,hu=>by
  rw [flat,List.mem_append] at hu
  rcases hu with hu | hu
  ·exact qhs (fun i hi=>h i (by omega)) u hu
  ·exact h n (by omega) u hu
theorem qcu {f g:Nat->List Value}:∀ {n:Nat},(∀ i,i<n->f i=g i)->flat f n=flat g n
 | 0,_=>rfl
 | n+1,h=>by rw [flat,flat,qcu fun i hi=>h i (by omega),h n (by omega)]
theorem qr8 {f:Nat->List Value} {n i:Nat} (hl:∀ j,j<n->(f j).length=4) (hi:i<n) (a b c d:Value):
  flat (fun j=>if j=i then [a,b,c,d] else f j) n=((((flat f n).set (i*4) a).set (i*4+1) b).set (i*4+2) c).set (i*4+3) d:=by
 have hl':∀ j,j<n->((fun j=>if j=i then [a,b,c,d] else f j) j).length=4:=fun j hj=>by
  by_cases e:j=i
  ·simp [e]
  ·simp [e,hl j hj]
 have n1:=qc7 hl;have n2:=qc7 hl';apply List.ext_getElem?;intro q;by_cases hq:q<n*4
 ·have hk:q / 4<n:=by omega
  have hr:q % 4<4:=by omega
  have e:q=q / 4*4+q % 4:=by omega
  have e1:=qdp hl' hk hr;have e2:=qdp hl hk hr;rw [<- e] at e1 e2;rw [e1];by_cases ei:q / 4=i
  ·simp only [nC ei]
   have hr4:q % 4=0\/q % 4=1\/q % 4=2\/q % 4=3:=by omega
   rcases hr4 with h | h | h | h <;> rw [h] <;>
    (simp only [List.getElem?_set, List.length_set, n1]
     have:i<n:=hi
     repeat (first | rw [nC (by omega)] | rw [nB (by omega)])
     simp)
  ·simp only [nB ei]
   simp only [List.getElem?_set,List.length_set,n1];rw [nB (by omega),nB (by omega),nB (by omega),nB (by omega),e2]
 ·rw [List.getElem?_eq_none (by omega),List.getElem?_eq_none (by simp only [List.length_set];omega)]
def cellsL:Value->List Value
 | .agg a=>a.toList
 | _=>[]
theorem qac.cellsL {w:World} {B:Nat} {v:Value} {p code:Int} {rs os:List Int} (h:qac w B v p rs os code):(cellsL v).length=4/\∀ u ∈ cellsL v,u.oneCell'=true:=by
 obtain ⟨vr,vo,rfl,h1,h2,-⟩:=h;obtain ⟨a1,c1,rfl,-⟩:=h1.form;obtain ⟨a2,c2,rfl,-⟩:=h2.form;refine ⟨rfl,fun u hu=>?_⟩;simp [Go.Proofs.YtbgfjbgdiifghaaGreatDoor.cellsL] at hu
 rcases hu with rfl | rfl | rfl | rfl <;> rfl
structure LS (w:World) (P:Nat->Prop) (v:Value) (n:Nat) (vs:Nat->Value) (S:Nat->S4):Prop where
 row:w.ownsRow 0 66 4 v n (flat (fun i=>cellsL (vs i)) n)
 own:∀ i,i<n->qac w 0 (vs i) (S i).p (S i).rs (S i).os (S i).c
 rb:∀ k,v.ownBlock=some k->P k
 ob:∀ i,i<n->∀ k,qak (vs i) k->P k
 ra:∀ i,i<n->∀ k,qak (vs i) k->v.ownBlock≠some k
 oa:∀ i j,i<n->j<n->i≠j->∀ k,qak (vs i) k->¬ qak (vs j) k
section
variable {w:World} {P:Nat->Prop} {v:Value} {n:Nat} {vs:Nat->Value} {S:Nat->S4}
theorem LS.keep (o:LS w P v n vs S) {w':World} (hb:∀ k,P k->k<w.heap.size->w'.heap[k]? = w.heap[k]?):LS w' P v n vs S:=
 ⟨qas o.row fun k hk=>hb k (o.rb k hk) (o.row.lt k hk).2,fun i hi=>(o.own i hi).blk fun k hk=>hb k (o.ob i hi k hk) ((o.own i hi).lt hk).2,o.rb,o.ob,o.ra,o.oa⟩
theorem LS.bw (o:LS w P v n vs S) {w':World} (hb:Bw w w'):LS w' P v n vs S:=o.keep fun k _ hk=>hb.block k hk
theorem LS.mono (o:LS w P v n vs S) {P':Nat->Prop} (h:∀ k,P k->k<w.heap.size->P' k):LS w P' v n vs S:=
 ⟨o.row,o.own,fun k hk=>h k (o.rb k hk) (o.row.lt k hk).2,fun i hi k hk=>h k (o.ob i hi k hk) ((o.own i hi).lt hk).2,o.ra,o.oa⟩
theorem LS.nil (w:World) (P:Nat->Prop) (vs:Nat->Value) (S:Nat->S4):LS w P nS 0 vs S:=
 ⟨World.ownsRow_nil _ _ _ _,fun i hi=>(by omega),fun k hk=>(by cases hk),fun i hi=>(by omega),fun i hi=>(by omega),fun i j hi=>(by omega)⟩
theorem LS.push (o:LS w P v n vs S) {w1 w2:World} {u' v':Value} (b1:Bw w w1) (hu:qac w1 w.heap.size u' (S n).p (S n).rs (S n).os (S n).c) (hv:w2.ownsRow 0 66 4 v' (n+1) (flat (fun i=>cellsL (vs i)) n ++ cellsL u')) (g:w1.grownBy w2 v.ownBlock)
  (hv':∀ j,v'.ownBlock=some j->v.ownBlock=some j\/w1.heap.size<=j) {P':Nat->Prop} (hP:∀ k,P k->k<w.heap.size->P' k) (hP':∀ k,w.heap.size<=k->k<w2.heap.size->P' k):LS w2 P' v' (n+1) (fun j=>if j=n then u' else vs j) S:=by
 have hvlt:∀ k,v.ownBlock=some k->k<w.heap.size:=fun k hk=>(o.row.lt k hk).2;have lts:∀ i,i<n->∀ k,qak (vs i) k->k<w.heap.size:=fun i hi k hk=>((o.own i hi).lt hk).2
 have hu2:qac w2 w.heap.size u' (S n).p (S n).rs (S n).os (S n).c:=hu.blk fun k hk=>g.block k (hu.lt hk).2 fun e=>by
  have q1:=(hu.lt hk).1;have q2:=hvlt k e.symm;omega
 have ho2:∀ i,i<n->qac w2 0 (vs i) (S i).p (S i).rs (S i).os (S i).c:=fun i hi=>(o.own i hi).blk fun k hk=>(g.block k (zL (lts i hi k hk) b1.size) fun e=>o.ra i hi k hk e.symm).trans (b1.block k (lts i hi k hk));refine ⟨?_,fun i hi=>?_,fun k hk=>?_,fun i hi k hk=>?_,fun i hi k hk=>?_,fun i j hi hj hij k hk=>?_⟩
 ·have e:flat (fun i=>cellsL (if i=n then u' else vs i)) (n+1)=flat (fun i=>cellsL (vs i)) n ++ cellsL u':=by
   rw [flat,nC rfl]
   congr 1
   exact qcu fun i hi=>by rw [nB (by omega)]
  rw [e];exact hv
 ·by_cases ei:i=n
  ·subst ei
   simp only [if_true];exact hu2.mono (nD _)
  ·simp only [nB ei]
   exact ho2 i (by omega)
 ·rcases hv' k hk with h | h
  ·exact hP k (o.rb k h) (hvlt k h)
  ·exact hP' k (zP b1.size h) (hv.lt k hk).2
 ·by_cases ei:i=n
  ·simp only [nC ei] at hk
   exact hP' k (hu.lt hk).1 (hu2.lt hk).2
  ·simp only [nB ei] at hk
   exact hP k (o.ob i (by omega) k hk) (lts i (by omega) k hk)
 ·intro hvk
  by_cases ei:i=n
  ·simp only [nC ei] at hk
   rcases hv' k hvk with h | h
   ·have:=hvlt k h
    have:=(hu.lt hk).1;omega
   ·have:=(hu.lt hk).2
    omega
  ·simp only [nB ei] at hk
   rcases hv' k hvk with h | h
   ·exact o.ra i (by omega) k hk h
   ·have:=lts i (by omega) k hk
    have:=b1.size;omega
 ·intro hjk
  by_cases ei:i=n
  ·have ej:j≠n:=fun e=>hij (by omega)
   simp only [nC ei] at hk;simp only [nB ej] at hjk;have:=lts j (by omega) k hjk;have:=(hu.lt hk).1;omega
  ·simp only [nB ei] at hk
   by_cases ej:j=n
   ·simp only [nC ej] at hjk
    have:=lts i (by omega) k hk;have:=(hu.lt hjk).1;omega
   ·simp only [nB ej] at hjk
    exact o.oa i j (by omega) (by omega) hij k hk hjk
theorem LS.cell (o:LS w P v n vs S) {i:Nat} (hi:i<n):∃ g cap,v=.slice (some ⟨g,0,none⟩) n cap/\P g/\g<w.heap.size/\Cel4 w g (i*4) (S i) (vs i)/\∀ j,w.frozen? ⟨g,j,none⟩=false:=by
 have hr:=o.row
 rcases hr.2 with ⟨_,h0⟩ | ⟨g,cap,cur,rfl,hb,hg,hcap,_⟩
 ·omega
 ·refine ⟨g,cap,rfl,o.rb g rfl,(o.row.lt g rfl).2,?_,fun j=>o.row.frozenAt j⟩
  have hl:∀ j,j<n->(cellsL (vs j)).length=4:=fun j hj=>(o.own j hj).cellsL.1
  have hc:∀ j,j<4->w.cell? ⟨g,i*4+j,none⟩=(cellsL (vs i))[j]?:=fun j hj=>by
   rw [o.row.cellAt (i*4+j) (by omega)];exact qdp hl hi hj
  obtain ⟨vr,vo,e,h1,h2,-⟩:=o.own i hi;obtain ⟨a1,c1,rfl,-⟩:=h1.form;obtain ⟨a2,c2,rfl,-⟩:=h2.form;rw [e] at hc;exact ⟨a1,c1,a2,c2,e,hc 0 (by omega),hc 1 (by omega),hc 2 (by omega),hc 3 (by omega)⟩
theorem LS.put {g cap:Nat} (o:LS w P (sG g n cap) n vs S) {i:Nat} (hi:i<n) {w1:World} {ra oa:Option Addr} {rn rc on oc:Nat} {p code:Int} {T:S4} (b1:Bw w w1) (hu:qac w1 w.heap.size (stV p ra rn rc oa on oc code) T.p T.rs T.os T.c)
  {P':Nat->Prop} (hP:∀ k,P k->k<w.heap.size->P' k) (hP':∀ k,w.heap.size<=k->k<w1.heap.size->P' k):
  LS ((((w1.setCell ⟨g,i*4,none⟩ (iV p)).setCell ⟨g,i*4+1,none⟩ (.slice ra rn rc)).setCell ⟨g,i*4+2,none⟩ (.slice oa on oc)).setCell ⟨g,i*4+3,none⟩ (iV code)) P' (sG g n cap) n (fun j=>if j=i then stV p ra rn rc oa on oc code else vs j) (fun j=>if j=i then T else S j):=by
 have hg:g<w.heap.size:=(o.row.lt g rfl).2;have lts:∀ j,j<n->∀ k,qak (vs j) k->k<w.heap.size:=fun j hj k hk=>((o.own j hj).lt hk).2;have hbk:∀ k,k≠g->((((w1.setCell ⟨g,i*4,none⟩ (iV p)).setCell ⟨g,i*4+1,none⟩ (.slice ra rn rc)).setCell ⟨g,i*4+2,none⟩ (.slice oa on oc)).setCell ⟨g,i*4+3,none⟩ (iV code)).heap[k]? = w1.heap[k]?:=fun k hne=>(zO _ _ _ _ hne).trans ((zO _ _ _ _ hne).trans ((zO _ _ _ _ hne).trans (zO _ _ _ _ hne)));refine ⟨?_,fun j hj=>?_,fun k hk=>?_,fun j hj k hk=>?_,fun j hj k hk=>?_,fun a b ha hb hab k hk=>?_⟩
 ·have hl:∀ j,j<n->(cellsL (vs j)).length=4:=fun j hj=>(o.own j hj).cellsL.1
  have e:flat (fun j=>cellsL (if j=i then stV p ra rn rc oa on oc code else vs j)) n=flat (fun j=>if j=i then [iV p,.slice ra rn rc,.slice oa on oc,iV code] else cellsL (vs j)) n:=qcu fun j _=>by
   by_cases ej:j=i
   ·rw [nC ej,nC ej];rfl
   ·rw [nB ej,nB ej]
  rw [e,qr8 hl hi];exact (World.ownsRow.stored (World.ownsRow.stored (World.ownsRow.stored (World.ownsRow.stored (qas o.row fun k hk=>by cases hk;exact b1.block g hg) _ _).1 _ _).1 _ _).1 _ _).1
 ·by_cases ej:j=i
  ·subst ej
   simp only [if_true];refine (hu.mono (nD _)).blk fun k hk=>hbk k ?_;have:=(hu.lt hk).1;omega
  ·simp only [nB ej]
   refine (o.own j hj).blk fun k hk=>(hbk k fun e=>?_).trans (b1.block k (lts j hj k hk));exact o.ra j hj k hk (by rw [e];rfl)
 ·cases hk
  exact hP g (o.rb g rfl) hg
 ·by_cases ej:j=i
  ·simp only [nC ej] at hk
   exact hP' k (hu.lt hk).1 (hu.lt hk).2
  ·simp only [nB ej] at hk
   exact hP k (o.ob j hj k hk) (lts j hj k hk)
 ·intro hvk
  by_cases ej:j=i
  ·simp only [nC ej] at hk
   have:=(hu.lt hk).1;have hkg:g=k:=by simpa [Value.ownBlock] using hvk
   omega
  ·simp only [nB ej] at hk
   exact o.ra j hj k hk hvk
 ·intro hbk'
  by_cases ea:a=i
  ·have eb:b≠i:=fun e=>hab (by omega)
   simp only [nC ea] at hk;simp only [nB eb] at hbk';have:=lts b hb k hbk';have:=(hu.lt hk).1;omega
  ·simp only [nB ea] at hk
   by_cases eb:b=i
   ·simp only [nC eb] at hbk'
    have:=lts a ha k hk;have:=(hu.lt hbk').1;omega
   ·simp only [nB eb] at hbk'
    exact o.oa a b ha hb hab k hk hbk'
end
def ItL (w:World) (a:Option Addr) (len:Nat) (h:Nat->I2):Prop:=len=0\/∃ b off,a=some (aQ b off)/\b<w.heap.size/\ItAt w b off len h
theorem ItL.bw {w w':World} {a:Option Addr} {len:Nat} {h:Nat->I2} (hh:ItL w a len h) (hb:Bw w w'):ItL w' a len h:=by
 rcases hh with e | ⟨b,off,e,hlt,hc⟩
 ·exact .inl e
 ·exact .inr ⟨b,off,e,zL hlt hb.size,hc.bw hb hlt⟩
theorem ItL.at {w:World} {a:Option Addr} {len:Nat} {h:Nat->I2} (hh:ItL w a len h) {k:Nat} (hk:k<len):∃ b off,a=some (aQ b off)/\b<w.heap.size/\w.cell? ⟨b,off+k*2,none⟩=some (.bool (h k).m)/\w.cell? ⟨b,off+k*2+1,none⟩=some (iV (h k).v):=by
 rcases hh with rfl | ⟨b,off,e,hlt,hc⟩
 ·omega
 ·exact ⟨b,off,e,hlt,hc k hk⟩
def cI (h:I5):List Value:=[iV h.o,iV h.r,iV h.a,iV h.b,iV h.n]
def cT (h:I2):List Value:=[.bool h.m,iV h.v]
def cE (h:E3):List Value:=[iV h.k,iV h.q,iV h.v]
def fI (h:Nat->I5) (n:Nat):List Value:=flat (fun i=>cI (h i)) n
def fT (h:Nat->I2) (n:Nat):List Value:=flat (fun i=>cT (h i)) n
def fE (h:Nat->E3) (n:Nat):List Value:=flat (fun i=>cE (h i)) n
theorem qr0 (h:Nat->I5) (n:Nat):(fI h n).length=n*5:=qc7 fun _ _=>rfl
theorem qly (h:Nat->I2) (n:Nat):(fT h n).length=n*2:=qc7 fun _ _=>rfl
theorem qo3 (h:Nat->E3) (n:Nat):(fE h n).length=n*3:=qc7 fun _ _=>rfl
theorem qv8 (h:Nat->I5) (n:Nat):∀ u ∈ fI h n,u.oneCell'=true:=qhs fun i _ u hu=>by
 simp [cI] at hu
 rcases hu with rfl | rfl | rfl | rfl | rfl <;> rfl
theorem qo4 (h:Nat->I2) (n:Nat):∀ u ∈ fT h n,u.oneCell'=true:=qhs fun i _ u hu=>by
 simp [cT] at hu
 rcases hu with rfl | rfl <;> rfl
theorem qry (h:Nat->E3) (n:Nat):∀ u ∈ fE h n,u.oneCell'=true:=qhs fun i _ u hu=>by
 simp [cE] at hu
 rcases hu with rfl | rfl | rfl <;> rfl
theorem kndI:Kind 42 45 5 40:=by
 refine ⟨Tryz.underlying42,?_,by omega,by omega⟩;have hinfo:(prog.info? 45).map (fun i=>(i.zero,i.size,i.bytes))=some (some (.agg #[iV 0,iV 0,iV 0,iV 0,iV 0]),5,40):=by kernel_rfl
 cases hi:prog.info? 45 with
 | none=>rw [hi] at hinfo;cases hinfo
 | some i=>
  rw [hi] at hinfo;simp only [Option.map_some,nG,Prod.mk.injEq] at hinfo;exact ⟨i,_,rfl,hinfo.1,hinfo.2.1,hinfo.2.2,rfl⟩
theorem kndT:Kind 75 78 2 16:=by
 refine ⟨Tryz.underlying75,?_,by omega,by omega⟩;have hinfo:(prog.info? 78).map (fun i=>(i.zero,i.size,i.bytes))=some (some (.agg #[.bool false,iV 0]),2,16):=by kernel_rfl
 cases hi:prog.info? 78 with
 | none=>rw [hi] at hinfo;cases hinfo
 | some i=>
  rw [hi] at hinfo;simp only [Option.map_some,nG,Prod.mk.injEq] at hinfo;exact ⟨i,_,rfl,hinfo.1,hinfo.2.1,hinfo.2.2,rfl⟩
theorem kndE:Kind 50 49 3 24:=by
 refine ⟨Tryz.underlying50,?_,by omega,by omega⟩;have hinfo:(prog.info? 49).map (fun i=>(i.zero,i.size,i.bytes))=some (some (.agg #[iV 0,iV 0,iV 0]),3,24):=by kernel_rfl
 cases hi:prog.info? 49 with
 | none=>rw [hi] at hinfo;cases hinfo
 | some i=>
  rw [hi] at hinfo;simp only [Option.map_some,nG,Prod.mk.injEq] at hinfo;exact ⟨i,_,rfl,hinfo.1,hinfo.2.1,hinfo.2.2,rfl⟩
theorem kndS:Kind 25 66 4 64:=by
 refine ⟨Tryz.underlying25,?_,by omega,by omega⟩;have hinfo:=qxj;cases hi:prog.info? 66 with
 | none=>rw [hi] at hinfo;cases hinfo
 | some i=>
  rw [hi] at hinfo;simp only [Option.map_some,nG,Prod.mk.injEq] at hinfo;exact ⟨i,_,rfl,hinfo.1,hinfo.2.1,hinfo.2.2,rfl⟩
theorem qqk:Kind 24 42 1 24:=by
 refine ⟨Tryz.underlying24,?_,by omega,by omega⟩;have hinfo:(prog.info? 42).map (fun i=>(i.zero,i.size,i.bytes))=some (some nS,1,24):=by kernel_rfl
 cases hi:prog.info? 42 with
 | none=>rw [hi] at hinfo;cases hinfo
 | some i=>
  rw [hi] at hinfo;simp only [Option.map_some,nG,Prod.mk.injEq] at hinfo;exact ⟨i,_,rfl,hinfo.1,hinfo.2.1,hinfo.2.2,rfl⟩
theorem quz:Kind 26 75 1 24:=by
 refine ⟨Tryz.underlying26,?_,by omega,by omega⟩;have hinfo:(prog.info? 75).map (fun i=>(i.zero,i.size,i.bytes))=some (some nS,1,24):=by kernel_rfl
 cases hi:prog.info? 75 with
 | none=>rw [hi] at hinfo;cases hinfo
 | some i=>
  rw [hi] at hinfo;simp only [Option.map_some,nG,Prod.mk.injEq] at hinfo;exact ⟨i,_,rfl,hinfo.1,hinfo.2.1,hinfo.2.2,rfl⟩
theorem qqj:Kind 27 50 1 24:=by
 refine ⟨Tryz.underlying27,?_,by omega,by omega⟩;have hinfo:(prog.info? 50).map (fun i=>(i.zero,i.size,i.bytes))=some (some nS,1,24):=by kernel_rfl
 cases hi:prog.info? 50 with
 | none=>rw [hi] at hinfo;cases hinfo
 | some i=>
  rw [hi] at hinfo;simp only [Option.map_some,nG,Prod.mk.injEq] at hinfo;exact ⟨i,_,rfl,hinfo.1,hinfo.2.1,hinfo.2.2,rfl⟩
theorem qtx {w:World} {b off sz n:Nat} {f:Nat->List Value} (hb:b<w.heap.size) (hsz:0<sz) (hl:∀ i,i<n->(f i).length=sz) (hc:∀ i,i<n->∀ j,j<sz->w.cell? ⟨b,off+(i*sz+j),none⟩=(f i)[j]?):Src w (some ⟨b,off,none⟩) (flat f n):=by
 refine .inr ⟨b,off,rfl,hb,fun q u hq=>?_⟩;have hlen:=qc7 hl
 have hq':q<n*sz:=by
  rcases Nat.lt_or_ge q (n*sz) with h | h
  ·exact h
  ·rw [List.getElem?_eq_none (by omega)] at hq
   cases hq
 have hk:q / sz<n:=Nat.div_lt_of_lt_mul (by rw [Nat.mul_comm];exact hq');have hr:q % sz<sz:=Nat.mod_lt _ hsz;have e:q / sz*sz+q % sz=q:=by rw [Nat.mul_comm];exact Nat.div_add_mod q sz
 have h1:=hc (q / sz) hk (q % sz) hr;have h2:=qdp hl hk hr;rw [e] at h1 h2;rw [h1,<- h2,hq]
theorem srcI {w:World} {b off len:Nat} {g:Nat->I5} (hb:b<w.heap.size) (h:qaq w b off len g):Src w (some (aQ b off)) (fI g len):=qtx (sz:=5) hb (by omega) (fun _ _=>rfl) fun i hi j hj=>by
 obtain ⟨h0,h1,h2,h3,h4⟩:=h i hi
 match j,hj with
 | 0,_=>exact h0
 | 1,_=>exact h1
 | 2,_=>exact h2
 | 3,_=>exact h3
 | 4,_=>exact h4
theorem srcT {w:World} {a:Option Addr} {len:Nat} {g:Nat->I2} (h:ItL w a len g):Src w a (fT g len):=by
 rcases h with rfl | ⟨b,off,rfl,hb,h⟩
 ·exact .inl rfl
 ·refine qtx (sz:=2) hb (by omega) (fun _ _=>rfl) fun i hi j hj=>?_
  obtain ⟨h0,h1⟩:=h i hi
  match j,hj with
  | 0,_=>exact h0
  | 1,_=>exact h1
theorem srcE {w:World} {a:Option Addr} {len:Nat} {g:Nat->E3} (h:EvL w a len g):Src w a (fE g len):=by
 rcases h with rfl | ⟨b,off,rfl,hb,h⟩
 ·exact .inl rfl
 ·refine qtx (sz:=3) hb (by omega) (fun _ _=>rfl) fun i hi j hj=>?_
  obtain ⟨h0,h1,h2⟩:=h i hi
  match j,hj with
  | 0,_=>exact h0
  | 1,_=>exact h1
  | 2,_=>exact h2
theorem atI {w:World} {B:Nat} {u:Value} {n:Nat} {g:Nat->I5} (o:w.ownsRow B 45 5 u n (fI g n)) (hne:u≠nS):∃ b cap,u=.slice (some (aQ b 0)) n cap/\b<w.heap.size/\qaq w b 0 n g/\n<=cap:=by
 rcases o.2 with ⟨e,_⟩ | ⟨b,cap,cur,rfl,hb,hg,hcap,_⟩
 ·exact absurd e hne
 ·refine ⟨b,cap,rfl,(o.lt b rfl).2,fun i hi=>?_,hcap⟩
  have hc:∀ j,j<5->w.cell? ⟨b,0+(i*5+j),none⟩=(cI (g i))[j]?:=fun j hj=>by
   rw [nL,o.cellAt _ (by omega)];exact qdp (sz:=5) (fun _ _=>rfl) hi hj
  exact ⟨hc 0 (by omega),hc 1 (by omega),hc 2 (by omega),hc 3 (by omega),hc 4 (by omega)⟩
theorem atT {w:World} {B:Nat} {u:Value} {n:Nat} {g:Nat->I2} (o:w.ownsRow B 78 2 u n (fT g n)) (hne:u≠nS):∃ b cap,u=.slice (some (aQ b 0)) n cap/\b<w.heap.size/\ItAt w b 0 n g/\n<=cap:=by
 rcases o.2 with ⟨e,_⟩ | ⟨b,cap,cur,rfl,hb,hg,hcap,_⟩
 ·exact absurd e hne
 ·refine ⟨b,cap,rfl,(o.lt b rfl).2,fun i hi=>?_,hcap⟩
  have hc:∀ j,j<2->w.cell? ⟨b,0+(i*2+j),none⟩=(cT (g i))[j]?:=fun j hj=>by
   rw [nL,o.cellAt _ (by omega)];exact qdp (sz:=2) (fun _ _=>rfl) hi hj
  exact ⟨hc 0 (by omega),hc 1 (by omega)⟩
theorem atE {w:World} {B:Nat} {u:Value} {n:Nat} {g:Nat->E3} (o:w.ownsRow B 49 3 u n (fE g n)) (hne:u≠nS):∃ b cap,u=.slice (some (aQ b 0)) n cap/\b<w.heap.size/\EvAt w b 0 n g/\n<=cap:=by
 rcases o.2 with ⟨e,_⟩ | ⟨b,cap,cur,rfl,hb,hg,hcap,_⟩
 ·exact absurd e hne
 ·refine ⟨b,cap,rfl,(o.lt b rfl).2,fun i hi=>?_,hcap⟩
  have hc:∀ j,j<3->w.cell? ⟨b,0+(i*3+j),none⟩=(cE (g i))[j]?:=fun j hj=>by
   rw [nL,o.cellAt _ (by omega)];exact qdp (sz:=3) (fun _ _=>rfl) hi hj
  exact ⟨hc 0 (by omega),hc 1 (by omega),hc 2 (by omega)⟩
def Cl (B:Nat) (c:Nat->Nat) (i:Nat):Nat->Prop:=fun k=>B<=k/\c k=i
abbrev LI (z:Bool) (w:World) (P:Nat->Prop) (v:Value) (n:Nat) (u:Nat->Value) (L:Nat->Nat) (H:Nat->Nat->I5):Prop:=LL z 45 5 42 w P v n u L fun i=>fI (H i) (L i)
abbrev LT (z:Bool) (w:World) (P:Nat->Prop) (v:Value) (n:Nat) (u:Nat->Value) (L:Nat->Nat) (H:Nat->Nat->I2):Prop:=LL z 78 2 75 w P v n u L fun i=>fT (H i) (L i)
abbrev LE (z:Bool) (w:World) (P:Nat->Prop) (v:Value) (n:Nat) (u:Nat->Value) (L:Nat->Nat) (H:Nat->Nat->E3):Prop:=LL z 49 3 50 w P v n u L fun i=>fE (H i) (L i)
structure SysIn where
 pa:Option Addr
 pn:Nat
 pc:Nat
 pA:Nat->Option Addr
 pL:Nat->Nat
 pC:Nat->Nat
 pH:Nat->Nat->I5
 sa:Option Addr
 sn:Nat
 sc:Nat
 sQ:Nat->St8
 wa:Option Addr
 wn:Nat
 wc:Nat
 wA:Nat->Option Addr
 wL:Nat->Nat
 wC:Nat->Nat
 wH:Nat->Nat->I2
 ha:Option Addr
 hn:Nat
 hc:Nat
 hA:Nat->Option Addr
 hL:Nat->Nat
 hC:Nat->Nat
 hH:Nat->Nat->E3
abbrev SysIn.oX (x:SysIn):Obj:=oQ4 x.pa x.pn x.pc x.sa x.sn x.sc x.wa x.wn x.wc x.ha x.hn x.hc
abbrev SysIn.bX (x:SysIn) (w:World) (N:Nat):Prop:=BoxC w N (.slice x.pa x.pn x.pc) (.slice x.sa x.sn x.sc) (.slice x.wa x.wn x.wc) (.slice x.ha x.hn x.hc)
def SysIn.sS (x:SysIn):Nat->S4:=fun i=>(x.sQ i).s
def SysIn.size (x:SysIn):Nat:=x.pn+sumL x.pL x.pn+(x.sn+sumL (lenS x.sS) x.sn)+(x.wn+sumL x.wL x.wn)+(x.hn+sumL x.hL x.hn)
abbrev sysV (pa:Option Addr) (pn pc:Nat) (sa:Option Addr) (sn sc:Nat) (wa:Option Addr) (wn wc:Nat) (ha:Option Addr) (hn hc:Nat):Value:=.agg #[.slice pa pn pc,.slice sa sn sc,.slice wa wn wc,.slice ha hn hc]
structure SysIn.Row (W:World) (x:SysIn):Prop where
 p:RowS W x.pa x.pn fun i=>.slice (x.pA i) (x.pL i) (x.pC i)
 s:qdn W x.sa x.sn x.sQ
 w:RowS W x.wa x.wn fun i=>.slice (x.wA i) (x.wL i) (x.wC i)
 h:RowS W x.ha x.hn fun i=>.slice (x.hA i) (x.hL i) (x.hC i)
theorem SysIn.Row.bw {W w:World} {x:SysIn} (h:x.Row W) (hb:Bw W w):x.Row w:=⟨h.p.bw hb,h.s.bw hb,h.w.bw hb,h.h.bw hb⟩
theorem zU {w:World} {B:Nat} {e:TypeId} {sz:Nat} {v:Value} {n:Nat} {xs:List Value} (h:w.ownsRow B e sz v n xs):∃ a c,v=.slice a n c:=by
 rcases h.2 with ⟨rfl,rfl⟩ | ⟨g,cap,cur,rfl,_⟩
 ·exact ⟨none,0,rfl⟩
 ·exact ⟨_,_,rfl⟩
theorem qfx (a0:Option Addr) (n cap:Nat) (A:Nat->Option Addr) (L C:Nat->Nat) (H:Nat->Nat->I5) (w:World) (hn:n<=1048576) (hL:∀ i,i<n->L i<=1048576) (hr:RowS w a0 n fun i=>.slice (A i) (L i) (C i)) (hI:∀ i,i<n->Src w (A i) (fI (H i) (L i))):
  Calls prog 69 #[.slice a0 n cap] w fun e w'=>∃ v u,e=.returned v/\LI true w' (fun k=>w.heap.size<=k/\k<w'.heap.size) v n u L H/\Bw w w':=by
 have hn':(n:Int)<=1048576:=by omega
 have HR:Hid (RowS w a0 n fun i=>.slice (A i) (L i) (C i)):=hr;have HI:Hid (∀ i,i<n->Src w (A i) (fI (H i) (L i))):=hI;have HL:Hid (∀ i,i<n->L i<=1048576):=hL;clear hr hI hL
 go_enter func69,ntmps69
 go_wp2_with fail
 go_loopw [3,4] (fun v i wr=>∃ k:Nat,k<=n/\i=.int .i64 k/\Hid ((∃ u,LI true wr (fun b=>w.heap.size<=b/\b<wr.heap.size) v k u L H)/\Bw w wr)) (fun _ i _=>n - (intOf i).toNat)
 case atStart=>exact ⟨0,nD _,rfl,⟨fun _=>.slice none 0 0,LL.new _ _ _ w _ (by simp) _ _ _⟩,zQ _ _⟩
 case round=>
  obtain ⟨k,hk,rfl,HZ⟩:=hrel;by_cases hlt:k<n
  ·have hlt':(k:Int)<(n:Int):=by omega
   obtain ⟨b,off,rfl,ck⟩:=(HR.bw HZ.2).at hlt;have hbl:b<wr.heap.size:=zJ wr _ ck;have HS:Hid (Src wr (A k) (fI (H k) (L k))):=(HI.out k hlt).bw HZ.2;have HLk:Hid (L k<=1048576):=HL.out k hlt;have hk2:Hid (k<=2000000):=by show k<=2000000;omega
   obtain ⟨⟨u,oz⟩,bz⟩:=HZ.out;have OZ:Hid (LI true wr (fun b=>w.heap.size<=b/\b<wr.heap.size) u3 k u L H):=oz;have BZ:Hid (Bw w wr):=bz;clear oz bz HZ
   go_wp2_with (first
    | (at_builtin;refine qcn kndI wr rfl rfl _ _ rfl (A k) (L k) (C k) (fI (H k) (L k)) rfl rfl (qr0 _ _) HS.out (qv8 _ _) (zP HLk.out (by omega)) ?_;intro v4 w4 o4 b4 n4;obtain ⟨a4,c4,rfl⟩:=zU o4;have F4:Hid (w4.ownsRow wr.heap.size 45 5 (.slice a4 (L k) c4) (L k) (fI (H k) (L k))/\Bw wr w4/\Value.slice a4 (L k) c4≠nS):=⟨o4,b4,n4⟩;clear o4 b4 n4)
    | (at_builtin;refine qai qqk w4 rfl rfl _ _ rfl 0 u3 k _ rfl (OZ.bw F4.2.1).row #[.slice a4 (L k) c4] rfl rfl (by intro u hu;simp at hu;subst hu;rfl) hk2.out (nD _) ?_;intro v5 w5 o5 g5 q5 n5;have F5:Hid (LI true w5 (fun b=>w.heap.size<=b/\b<w5.heap.size) v5 (k+1) (fun j=>if j=k then .slice a4 (L k) c4 else u j) L H/\Bw w w5):=⟨OZ.push F4.2.1 F4.1 (fun _=>F4.2.2) o5 g5 q5 (fun j hj _=>⟨hj.1,zL hj.2 (zP F4.2.1.size g5.size)⟩) (fun j hj hj'=>⟨zP BZ.size hj,hj'⟩),Below.grown (BZ.trans (F4.2.1.mono BZ.size)) g5 (zP BZ.size F4.2.1.size) (fun j hj=>(OZ.rb j hj).1)⟩;clear o5 g5 q5 n5))
   go_roundw
   case rel=>exact ⟨k+1,by omega,by go_num,⟨_,F5.1⟩,F5.2⟩
   case measure=>simp [intOf];omega
  ·have hkn:k=n:=by omega
   subst hkn;go_wp2;go_ret;obtain ⟨⟨u,oz⟩,bz⟩:=HZ.out;exact ⟨_,u,rfl,oz,bz⟩
theorem qd4 (a0:Option Addr) (n cap:Nat) (A:Nat->Option Addr) (L C:Nat->Nat) (H:Nat->Nat->E3) (w:World) (hn:n<=1048576) (hL:∀ i,i<n->L i<=1048576) (hr:RowS w a0 n fun i=>.slice (A i) (L i) (C i)) (hI:∀ i,i<n->Src w (A i) (fE (H i) (L i))):
  Calls prog 140 #[.slice a0 n cap] w fun e w'=>∃ v u,e=.returned v/\LE true w' (fun k=>w.heap.size<=k/\k<w'.heap.size) v n u L H/\Bw w w':=by
 have hn':(n:Int)<=1048576:=by omega
 have HR:Hid (RowS w a0 n fun i=>.slice (A i) (L i) (C i)):=hr;have HI:Hid (∀ i,i<n->Src w (A i) (fE (H i) (L i))):=hI;have HL:Hid (∀ i,i<n->L i<=1048576):=hL;clear hr hI hL
 go_enter func140,ntmps140
 go_wp2_with fail
 go_loopw [3,4] (fun v i wr=>∃ k:Nat,k<=n/\i=.int .i64 k/\Hid ((∃ u,LE true wr (fun b=>w.heap.size<=b/\b<wr.heap.size) v k u L H)/\Bw w wr)) (fun _ i _=>n - (intOf i).toNat)
 case atStart=>exact ⟨0,nD _,rfl,⟨fun _=>.slice none 0 0,LL.new _ _ _ w _ (by simp) _ _ _⟩,zQ _ _⟩
 case round=>
  obtain ⟨k,hk,rfl,HZ⟩:=hrel;by_cases hlt:k<n
  ·have hlt':(k:Int)<(n:Int):=by omega
   obtain ⟨b,off,rfl,ck⟩:=(HR.bw HZ.2).at hlt;have hbl:b<wr.heap.size:=zJ wr _ ck;have HS:Hid (Src wr (A k) (fE (H k) (L k))):=(HI.out k hlt).bw HZ.2;have HLk:Hid (L k<=1048576):=HL.out k hlt;have hk2:Hid (k<=2000000):=by show k<=2000000;omega
   obtain ⟨⟨u,oz⟩,bz⟩:=HZ.out;have OZ:Hid (LE true wr (fun b=>w.heap.size<=b/\b<wr.heap.size) u3 k u L H):=oz;have BZ:Hid (Bw w wr):=bz;clear oz bz HZ
   go_wp2_with (first
    | (at_builtin;refine qcn kndE wr rfl rfl _ _ rfl (A k) (L k) (C k) (fE (H k) (L k)) rfl rfl (qo3 _ _) HS.out (qry _ _) (zP HLk.out (by omega)) ?_;intro v4 w4 o4 b4 n4;obtain ⟨a4,c4,rfl⟩:=zU o4;have F4:Hid (w4.ownsRow wr.heap.size 49 3 (.slice a4 (L k) c4) (L k) (fE (H k) (L k))/\Bw wr w4/\Value.slice a4 (L k) c4≠nS):=⟨o4,b4,n4⟩;clear o4 b4 n4)
    | (at_builtin;refine qai qqj w4 rfl rfl _ _ rfl 0 u3 k _ rfl (OZ.bw F4.2.1).row #[.slice a4 (L k) c4] rfl rfl (by intro u hu;simp at hu;subst hu;rfl) hk2.out (nD _) ?_;intro v5 w5 o5 g5 q5 n5;have F5:Hid (LE true w5 (fun b=>w.heap.size<=b/\b<w5.heap.size) v5 (k+1) (fun j=>if j=k then .slice a4 (L k) c4 else u j) L H/\Bw w w5):=⟨OZ.push F4.2.1 F4.1 (fun _=>F4.2.2) o5 g5 q5 (fun j hj _=>⟨hj.1,zL hj.2 (zP F4.2.1.size g5.size)⟩) (fun j hj hj'=>⟨zP BZ.size hj,hj'⟩),Below.grown (BZ.trans (F4.2.1.mono BZ.size)) g5 (zP BZ.size F4.2.1.size) (fun j hj=>(OZ.rb j hj).1)⟩;clear o5 g5 q5 n5))
   go_roundw
   case rel=>exact ⟨k+1,by omega,by go_num,⟨_,F5.1⟩,F5.2⟩
   case measure=>simp [intOf];omega
  ·have hkn:k=n:=by omega
   subst hkn;go_wp2;go_ret;obtain ⟨⟨u,oz⟩,bz⟩:=HZ.out;exact ⟨_,u,rfl,oz,bz⟩
open Go.Sort
theorem qex {xs ys:List Int} (hl:xs.length=ys.length) (h:∀ j,j<xs.length->zi xs j=zi ys j):xs=ys:=by
 refine List.ext_getElem hl fun i h1 h2=>?_;have:=h i h1;simpa [zi,List.getD_eq_getElem?_getD,List.getElem?_eq_getElem h1,List.getElem?_eq_getElem h2] using this
theorem qfs (a0 a1:Option Addr) (c0 c1:Nat) (xs ys:List Int) (w:World) (hx:xs.length<=1048576) (hy:ys.length<=1048576) (h0:Sl w a0 xs) (h1:Sl w a1 ys):
  Calls prog 78 #[.slice a0 xs.length c0,.slice a1 ys.length c1] w (rB w (.bool (xs == ys))):=by
 have hl':(xs.length:Int)<=1048576:=by omega
 have hl2:(ys.length:Int)<=1048576:=by omega
 by_cases hl:xs.length=ys.length
 ·have H0:Hid (Sl w a0 xs):=h0
  have H1:Hid (Sl w a1 ys):=h1;have HL:Hid (xs.length=ys.length):=hl;rw [<- hl];clear h0 h1 hl hy hl2
  go_enter func78,ntmps78
  go_wp2_with fail
  go_loopw [13] (fun i wr=>∃ k:Nat,k<=xs.length/\i=.int .i64 k/\Bw w wr/\Hid (∀ j,j<k->zi xs j=zi ys j)) (fun i _=>xs.length - (intOf i).toNat)
  case atStart=>exact ⟨0,nD _,rfl,nE _ _,fun j hj=>by omega⟩
  case round=>
   obtain ⟨k,hk,rfl,hbw,HZ⟩:=hrel;by_cases hlt:k<xs.length
   ·have hlt2:k<ys.length:=by have:=HL.out;omega
    obtain ⟨b,off,rfl,hbl,ck⟩:=(H0.bw hbw).at hlt;obtain ⟨b',off',rfl,hbl',ck'⟩:=(H1.bw hbw).at hlt2;have hlt':(k:Int)<(xs.length:Int):=by omega
    clear hlt2
    rcases zK (zi xs k != zi ys k) with t | t
    ·have HN:Hid ((xs == ys)=false):=by
      show (xs == ys)=false;rw [beq_eq_false_iff_ne];intro e;rw [e] at t;simp at t
     go_wp2_with fail
     go_quiet (fail)
     go_wp2;go_ret;rw [HN.out];exact ⟨rfl,yC hbw _⟩
    ·have HZ':Hid (∀ j,j<k+1->zi xs j=zi ys j):=fun j hj=>by
      by_cases e:j=k
      ·subst e
       simpa using t
      ·exact HZ.out j (by omega)
     clear HZ;go_wp2_with fail
     go_quiet (fail)
     go_wp2;go_roundw
     case rel=>exact ⟨k+1,by omega,by go_num,yC hbw _,HZ'.out⟩
     case measure=>simp [intOf];omega
   ·have HE:Hid ((xs == ys)=true):=by
     show (xs == ys)=true;rw [beq_iff_eq];exact qex HL.out fun j hj=>HZ.out j (by omega)
    clear HZ;go_wp2;go_ret;rw [HE.out];exact ⟨rfl,hbw⟩
 ·have hne:((xs.length:Int) != (ys.length:Int))=true:=by simp;omega
  have HN:Hid ((xs == ys)=false):=by
   show (xs == ys)=false;rw [beq_eq_false_iff_ne];intro e;exact hl (by rw [e])
  clear h0 h1 hl
  go_enter func78,ntmps78
  go_wp2;go_ret;rw [HN.out];exact ⟨rfl,nE _ _⟩
def eqS (S T:S4):Bool:=(S.p == T.p) && (S.c == T.c) && (S.rs == T.rs) && (S.os == T.os)
theorem qrv {S T:S4}:eqS S T=true ↔ S=T:=by
 obtain ⟨a,b,c,d⟩:=S;obtain ⟨a',b',c',d'⟩:=T;simp only [eqS,nH,beq_iff_eq,S4.mk.injEq];exact ⟨fun ⟨⟨⟨h1,h2⟩,h3⟩,h4⟩=>⟨h1,h3,h4,h2⟩,fun ⟨h1,h3,h4,h2⟩=>⟨⟨⟨h1,h2⟩,h3⟩,h4⟩⟩
theorem qgj (S T:S4) (ra oa ra' oa':Option Addr) (rc oc rc' oc':Nat) (w:World) (l1:S.rs.length<=1048576) (l2:S.os.length<=1048576) (l3:T.rs.length<=1048576) (l4:T.os.length<=1048576) (h1:Sl w ra S.rs) (h2:Sl w oa S.os) (h3:Sl w ra' T.rs) (h4:Sl w oa' T.os):
  Calls prog 75 #[stV S.p ra S.rs.length rc oa S.os.length oc S.c,stV T.p ra' T.rs.length rc' oa' T.os.length oc' T.c] w (rB w (.bool (eqS S T))):=by
 have H1:Hid (Sl w ra S.rs/\Sl w ra' T.rs):=⟨h1,h3⟩
 have H2:Hid (Sl w oa S.os/\Sl w oa' T.os):=⟨h2,h4⟩
 clear h1 h2 h3 h4
 rcases zK (S.p == T.p) with t1 | t1
 case inr=>
  have HE:Hid (eqS S T=false):=by
   show eqS S T=false;simp [eqS,t1]
  go_enter func75,ntmps75
  go_wp2;go_ret;rw [HE.out];exact ⟨rfl,by go_grown⟩
 rcases zK (S.c == T.c) with t2 | t2
 case inr=>
  have HE:Hid (eqS S T=false):=by
   show eqS S T=false;simp [eqS,t2]
  go_enter func75,ntmps75
  go_wp2;go_ret;rw [HE.out];exact ⟨rfl,by go_grown⟩
 rcases zK (S.rs == T.rs) with t3 | t3
 case inr=>
  have HE:Hid (eqS S T=false):=by
   show eqS S T=false;simp [eqS,t3]
  have T3:Hid ((S.rs == T.rs)=false):=t3;clear t3
  go_enter func75,ntmps75
  go_wp2_with fail
  refine (qfs _ _ _ _ _ _ _ l1 l3 (H1.1.bw (by go_grown)) (H1.2.bw (by go_grown))).mono ?_;rintro e w1 ⟨rfl,b1⟩;rw [T3.out];have B1:Hid (Bw w w1):=qah (by go_grown) b1 (by simp;omega);clear b1;go_wp2;go_ret;rw [HE.out];exact ⟨rfl,B1.out⟩
 have HE:Hid (eqS S T=(S.os == T.os)):=by
  show eqS S T=(S.os == T.os);simp [eqS,t1,t2,t3]
 have T3:Hid ((S.rs == T.rs)=true):=t3;clear t3
 go_enter func75,ntmps75
 go_wp2_with fail
 refine (qfs _ _ _ _ _ _ _ l1 l3 (H1.1.bw (by go_grown)) (H1.2.bw (by go_grown))).mono ?_;rintro e w1 ⟨rfl,b1⟩;rw [T3.out];have B1:Hid (Bw w w1):=qah (by go_grown) b1 (by simp;omega);obtain ⟨hc1,hf1⟩:=qal b1;clear b1;go_wp2_with fail
 refine (qfs _ _ _ _ _ _ _ l2 l4 (H2.1.bw B1.out) (H2.2.bw B1.out)).mono ?_;rintro e w2 ⟨rfl,b2⟩;have B2:Hid (Bw w w2):=B1.trans (b2.mono B1.size);clear b2 hc1 hf1;go_wp2;go_ret;rw [HE.out];exact ⟨rfl,B2.out⟩
noncomputable def pB (p:Prop):Bool:=@decide p (Classical.propDecidable _)
theorem qgm {p:Prop} (h:p):pB p=true:=by simp [pB,h]
theorem qcg {p:Prop} (h:¬ p):pB p=false:=by simp [pB,h]
theorem qgr (S T:S4) (ra oa ra' oa':Option Addr) (rc oc rc' oc':Nat) (w:World) (l1:S.rs.length<=1048576) (l2:S.os.length<=1048576) (_l3:T.rs.length<=1048576) (_l4:T.os.length<=1048576) (h1:Sl w ra S.rs) (h2:Sl w oa S.os) (h3:Sl w ra' T.rs) (h4:Sl w oa' T.os):
  Calls prog 51 #[stV S.p ra S.rs.length rc oa S.os.length oc S.c,stV T.p ra' T.rs.length rc' oa' T.os.length oc' T.c] w (rB w (.bool (eqS S T))):=by
 have l1':(S.rs.length:Int)<=1048576:=by omega
 have l2':(S.os.length:Int)<=1048576:=by omega
 have H1:Hid (Sl w ra S.rs/\Sl w ra' T.rs):=⟨h1,h3⟩
 have H2:Hid (Sl w oa S.os/\Sl w oa' T.os):=⟨h2,h4⟩
 clear h1 h2 h3 h4 l1 l2
 rcases zK (S.p != T.p) with t1 | t1
 case inl=>
  have HE:Hid (eqS S T=false):=by
   show eqS S T=false;have:(S.p == T.p)=false:=by simpa using t1
   simp [eqS,this]
  go_enter func51,ntmps51
  go_wp2;go_ret;rw [HE.out];exact ⟨rfl,by go_grown⟩
 rcases zK (S.c != T.c) with t2 | t2
 case inl=>
  have HE:Hid (eqS S T=false):=by
   show eqS S T=false;have:(S.c == T.c)=false:=by simpa using t2
   simp [eqS,this]
  go_enter func51,ntmps51
  go_wp2;go_ret;rw [HE.out];exact ⟨rfl,by go_grown⟩
 rcases zK ((S.rs.length:Int) != (T.rs.length:Int)) with t3 | t3
 case inl=>
  have HE:Hid (eqS S T=false):=by
   show eqS S T=false
   have:(S.rs == T.rs)=false:=by
    rw [beq_eq_false_iff_ne];intro e;rw [e] at t3;simp at t3
   simp [eqS,this]
  go_enter func51,ntmps51
  go_wp2;go_ret;rw [HE.out];exact ⟨rfl,by go_grown⟩
 rcases zK ((S.os.length:Int) != (T.os.length:Int)) with t4 | t4
 case inl=>
  have HE:Hid (eqS S T=false):=by
   show eqS S T=false
   have:(S.os == T.os)=false:=by
    rw [beq_eq_false_iff_ne];intro e;rw [e] at t4;simp at t4
   simp [eqS,this]
  go_enter func51,ntmps51
  go_wp2;go_ret;rw [HE.out];exact ⟨rfl,by go_grown⟩
 have HE:Hid (eqS S T=((S.rs == T.rs) && (S.os == T.os))/\S.rs.length=T.rs.length/\S.os.length=T.os.length):=by
  have e1:(S.p == T.p)=true:=by simpa using t1
  have e2:(S.c == T.c)=true:=by simpa using t2
  have e3:S.rs.length=T.rs.length:=by simp at t3;omega
  have e4:S.os.length=T.os.length:=by simp at t4;omega
  refine ⟨?_,e3,e4⟩;show eqS S T=_;simp [eqS,e1,e2]
 have N1:Hid (BoxC ((w.alloc (oQ0 S.p ra S.rs.length rc oa S.os.length oc S.c)).alloc (oQ0 T.p ra' T.rs.length rc' oa' T.os.length oc' T.c)) w.heap.size (iV S.p) (.slice ra S.rs.length rc) (.slice oa S.os.length oc) (iV S.c)):=(BoxC.new w _ _ _ _ _).bw (zT _ _)
 have N2:Hid (BoxC ((w.alloc (oQ0 S.p ra S.rs.length rc oa S.os.length oc S.c)).alloc (oQ0 T.p ra' T.rs.length rc' oa' T.os.length oc' T.c)) (w.heap.size+1) (iV T.p) (.slice ra' T.rs.length rc') (.slice oa' T.os.length oc') (iV T.c)):=by
  have h:=BoxC.new (w.alloc (oQ0 S.p ra S.rs.length rc oa S.os.length oc S.c)) (iV T.p) (.slice ra' T.rs.length rc') (.slice oa' T.os.length oc') (iV T.c) 66
  (try dsimp only [aW] at h);rw [World.size_alloc] at h
  exact h
 have NB:Hid (Bw w ((w.alloc (oQ0 S.p ra S.rs.length rc oa S.os.length oc S.c)).alloc (oQ0 T.p ra' T.rs.length rc' oa' T.os.length oc' T.c))):=by
  show Below _ _ _
  go_grown
 go_enter func51,ntmps51
 go_wp2_with fail
 generalize (w.alloc (oQ0 S.p ra S.rs.length rc oa S.os.length oc S.c)).alloc (oQ0 T.p ra' T.rs.length rc' oa' T.os.length oc' T.c)=wb at *
 go_loopw [5] (fun i wr=>∃ k:Nat,k<=S.rs.length/\i=.int .i64 k/\Bw wb wr/\Hid (∀ j,j<k->zi S.rs j=zi T.rs j)) (fun i _=>S.rs.length - (intOf i).toNat)
 case atStart=>exact ⟨0,nD _,rfl,nE _ _,fun j hj=>by omega⟩
 case round=>
  obtain ⟨k,hk,rfl,hbw,HZ⟩:=hrel;have hw:Bw w wr:=NB.trans (hbw.mono NB.size);obtain ⟨n0,n1,n2,n3⟩:=N1.bw hbw;obtain ⟨m0,m1,m2,m3⟩:=N2.bw hbw;by_cases hlt:k<S.rs.length
  ·have hlt2:k<T.rs.length:=by have:=HE.out;omega
   obtain ⟨b,off,rfl,hbl,ck⟩:=(H1.1.bw hw).at hlt;obtain ⟨b',off',rfl,hbl',ck'⟩:=(H1.2.bw hw).at hlt2;have hlt':(k:Int)<(S.rs.length:Int):=by omega
   have hlt2':(k:Int)<(T.rs.length:Int):=by omega
   clear hlt2
   rcases zK (zi S.rs k != zi T.rs k) with t | t
   ·have HN:Hid (eqS S T=false):=by
     show eqS S T=false;rw [HE.1]
     have:(S.rs == T.rs)=false:=by
      rw [beq_eq_false_iff_ne];intro e;rw [e] at t;simp at t
     rw [this,Bool.false_and]
    go_wp2_with fail
    go_quiet (fail)
    go_wp2;go_ret;rw [HN.out];exact ⟨rfl,yC hw _⟩
   ·have HZ':Hid (∀ j,j<k+1->zi S.rs j=zi T.rs j):=fun j hj=>by
     by_cases e:j=k
     ·subst e
      simpa using t
     ·exact HZ.out j (by omega)
    clear HZ;go_wp2_with fail
    go_quiet (fail)
    go_wp2;go_roundw
    case rel=>exact ⟨k+1,by omega,by go_num,yC hbw _,HZ'.out⟩
    case measure=>simp [intOf];omega
  ·have HR:Hid ((S.rs == T.rs)=true):=by
    show (S.rs == T.rs)=true;rw [beq_iff_eq];exact qex HE.2.1 fun j hj=>HZ.out j (by omega)
   have hkl:k=S.rs.length:=by omega
   subst hkl;clear HZ hlt hk;go_wp2_with fail
   clear n0 n1 n2 n3 m0 m1 m2 m3
   go_loopw [6] (fun i wr=>∃ k:Nat,k<=S.os.length/\i=.int .i64 k/\Bw wb wr/\Hid (∀ j,j<k->zi S.os j=zi T.os j)) (fun i _=>S.os.length - (intOf i).toNat)
   case atStart=>exact ⟨0,nD _,rfl,hbw,fun j hj=>by omega⟩
   case round=>
    clear hbw hw;obtain ⟨k,hk,rfl,hbw,HZ⟩:=hrel;have hw:Bw w wr:=NB.trans (hbw.mono NB.size);obtain ⟨n0,n1,n2,n3⟩:=N1.bw hbw;obtain ⟨m0,m1,m2,m3⟩:=N2.bw hbw;by_cases hlt:k<S.os.length
    ·have hlt2:k<T.os.length:=by have:=HE.out;omega
     obtain ⟨b,off,rfl,hbl,ck⟩:=(H2.1.bw hw).at hlt;obtain ⟨b',off',rfl,hbl',ck'⟩:=(H2.2.bw hw).at hlt2;have hlt':(k:Int)<(S.os.length:Int):=by omega
     have hlt2':(k:Int)<(T.os.length:Int):=by omega
     clear hlt2
     rcases zK (zi S.os k != zi T.os k) with t | t
     ·have HN:Hid (eqS S T=false):=by
       show eqS S T=false;rw [HE.1]
       have:(S.os == T.os)=false:=by
        rw [beq_eq_false_iff_ne];intro e;rw [e] at t;simp at t
       rw [this,Bool.and_false]
      go_wp2_with fail
      go_quiet (fail)
      go_wp2;go_ret;rw [HN.out];exact ⟨rfl,yC hw _⟩
     ·have HZ':Hid (∀ j,j<k+1->zi S.os j=zi T.os j):=fun j hj=>by
       by_cases e:j=k
       ·subst e
        simpa using t
       ·exact HZ.out j (by omega)
      clear HZ;go_wp2_with fail
      go_quiet (fail)
      go_wp2;go_roundw
      case rel=>exact ⟨k+1,by omega,by go_num,yC hbw _,HZ'.out⟩
      case measure=>simp [intOf];omega
    ·have HN:Hid (eqS S T=true):=by
      show eqS S T=true;rw [HE.1,HR.out,Bool.true_and,beq_iff_eq];exact qex HE.2.2 fun j hj=>HZ.out j (by omega)
     clear HZ;go_wp2;go_ret;rw [HN.out];exact ⟨rfl,hw⟩
theorem Tryz.et : prog.globalNamed "errors.errorType" = some 0 := by kernel_rfl
theorem Tryz.rt : (prog.cutTypes.find? (·.1 == "internal/reflectlite.rtype")).map (·.2) = some 192 := by kernel_rfl
theorem Tryz.oneRow:((List.range 270).filter fun t=>prog.rowNamed t [101,114,114,111,114])=[142]:=by kernel_rfl
theorem Tryz.tsize:prog.types.size=270:=by kernel_rfl
theorem qit {W : World} (h : laidMetH prog [("errors.errorType", Rows.laid_errors_errorType)] W) : W.cell? (aQ 0 0) = some vT := by
 have h' : laidMet prog [] W /\ handlesMet prog [("errors.errorType", Rows.laid_errors_errorType)] W := h
 obtain ⟨name,u,ty,e1,e2,e3,e4,e5⟩:=h'.2 _ (List.mem_singleton.2 rfl);have en:name=[101,114,114,111,114]:=(Option.some.inj e1).symm;subst en;obtain rfl:=Option.some.inj (Tryz.rt.symm.trans e2);have hm:ty ∈ (List.range 270).filter fun t=>prog.rowNamed t [101,114,114,111,114]:=List.mem_filter.2 ⟨List.mem_range.2 (by rw [<- Tryz.tsize];exact e3),e4⟩;rw [Tryz.oneRow] at hm;obtain rfl:=List.mem_singleton.1 hm;have hh:typeHandle prog 142=.pointer (some (aQ 1 142)):=by kernel_rfl
 rw [hh] at e5;simpa using World.var?_cell Tryz.et e5 0
noncomputable def ql9 (os:Os):World:=
 let w0:=World.holding prog os ⟨#[],#[],[]⟩
 { w0 with heap := w0.heap.modify 0 fun
   | .cells _ t frozen=>.cells #[.iface 192 (.agg #[.pointer (some (aQ 1 142))])] t frozen
   | o=>o }
theorem qj8 (os : Os) (args : Array Value) : laidMetH prog [("errors.errorType", Rows.laid_errors_errorType)] ((ql9 os).forCall (fun _ _ => 0) ⟨#[], args, []⟩).memory :=
 laidMetH_of_parts (laidMet_nil _ _) (by kernel_rfl)
