import Derived.Test.YtpnlfccaggfgpaaGreatDoorEh0
import Derived.Test.YtpnlfccaggfgpaaGreatDoorEh12
import Derived.Maps.AppendAt
import Derived.OneCell
import Derived.Test.YtpnlfccaggfgpaaGreatDoorEh7
namespace Go.Proofs.YtpnlfccaggfgpaaGreatDoor
open Go.ChangeShapes Go.WideShapes Go.ChangeAt Go.RowKit Go.Deep
theorem zQ (w:World) (o:Obj):Below w.heap.size w (w.alloc o):=(Below.refl _ _).alloc (Nat.le_refl _) _
def Src (w:World) (a0:Option Addr) (cs:List Value):Prop:=cs=[]\/∃ b off,a0=some ⟨b,off,none⟩/\b<w.heap.size/\∀ j u,cs[j]? = some u->w.cell? ⟨b,off+j,none⟩=some u
theorem Src.below {w w':World} {a0:Option Addr} {cs:List Value} (h:Src w a0 cs) (hb:Below w.heap.size w w'):Src w' a0 cs:=by
 rcases h with h | ⟨b,off,e,hlt,hc⟩
 ·exact .inl h
 ·exact .inr ⟨b,off,e,zL hlt hb.size,fun j u hj=>(hb.cell (p:=⟨b,off+j,none⟩) hlt).trans (hc j u hj)⟩
structure Kind (t e:TypeId) (size bytes:Nat):Prop where
 und:Tryz.prog.underlying t=some (.slice e)
 inf:∃ i z,Tryz.prog.info? e=some i/\i.zero=some z/\i.size=size/\i.bytes=bytes/\z.cells.size=size
 pos:0<size
 sml:bytes<=128
theorem run_append_src {t e:TypeId} {size bytes:Nat} (K:Kind t e size bytes) (w:World) (ty:TypeId) (B:Nat) (v:Value) (n:Nat) (xs:List Value) (hown:w.ownsRow B e size v n xs) (a0:Option Addr) (m c:Nat) (news:List Value) (hl:news.length=m*size) (hsrc:Src w a0 news) (h1:∀ u ∈ news,u.oneCell'=true) (hnm:n+m<=4000000) (hB:B<=w.heap.size):
  ∃ v' w',(Builtin.append_ #[t,t] ty #[v,.slice a0 m c]).run Tryz.prog w=.ok v' w'/\w'.ownsRow B e size v' (n+m) (xs ++ news)/\w.grownBy w' v.ownBlock/\(v'.ownBlock=v.ownBlock\/v'.ownBlock=some w.heap.size)/\(v≠.slice none 0 0\/0<m->v'≠.slice none 0 0):=by
 obtain ⟨i,z,hi,hz,hs,hb,hzs⟩:=K.inf
 have hby:(n+m)*bytes<=140737488355328:=zP (Nat.mul_le_mul hnm K.sml) (by omega)
 cases a0 with
 | none=>
  have hn0:news=[]:=by
   rcases hsrc with h | ⟨b,off,e,_⟩
   ·exact h
   ·cases e
  subst hn0
  have hm:m=0:=by
   have:=K.pos
   simp only [List.length_nil] at hl
   rcases Nat.eq_zero_or_pos m with h | h
   ·exact h
   ·have:=Nat.mul_pos h K.pos
    omega
  subst hm
  refine ⟨v,w,?_,by simpa using hown,World.grownBy.refl _ _,.inl rfl,fun h=>h.elim id fun h=>by omega⟩
  rcases hown.2 with ⟨rfl,_⟩ | ⟨g,cap,cur,rfl,_,_,hnc,_⟩
  ·simp [Builtin.append_,run_underlying K.und,sizeOf,typeInfo,hi,Builtin.lenOf,Builtin.firstCells]
  ·simp [Builtin.append_,run_underlying K.und,sizeOf,typeInfo,hi,Builtin.lenOf,Builtin.firstCells,hnc,storeCells]
 | some a=>
  have hnews:∀ j u,news[j]? = some u->w.cell? (a.add j)=some u:=by
   rcases hsrc with h0 | ⟨b,off,e,hlt,hc⟩
   ·subst h0
    intro j u hj
    simp at hj
   ·cases e
    intro j u hj
    have ha:Addr.add ⟨b,off,none⟩ j=⟨b,off+j,none⟩:=by unfold Addr.add;split <;> simp_all
    rw [ha]
    exact hc j u hj
  obtain ⟨v',w',r1,r2,r3,r4,r5⟩:=run_append_own_at (P:=Tryz.prog) w B t ty e i z size bytes K.und hi hz hs hb hzs K.pos v n xs hown a m c news hl hnews h1 (by unfold maxLen;omega) hby hB
  exact ⟨v',w',r1,r2,r3,r5,fun h e=>h.elim (fun h=>h (r4.1 e).1) fun h=>by have:=(r4.1 e).2;omega⟩
theorem step_append_src {ops:Array Oper} {rest:List Oper} {op:Oper} {act:Act} {Q:Exit->Act->World->Prop} {t e:TypeId} {size bytes:Nat} (K:Kind t e size bytes) (w:World) (hgd:op.guard=none) (s x:Operand)
  (ho:op.op=.call { callee:=.builtin .append,args:=#[s,x],argTypes:=#[t,t] })
  (B:Nat) (v:Value) (n:Nat) (xs:List Value) (hs:act.eval s=v) (hown:w.ownsRow B e size v n xs) (a0:Option Addr) (m c:Nat) (news:List Value) (hx:act.eval x=.slice a0 m c) (hl:news.length=m*size) (hsrc:Src w a0 news) (h1:∀ u ∈ news,u.oneCell'=true) (hnm:n+m<=4000000) (hB:B<=w.heap.size)
  (h:∀ v' w',w'.ownsRow B e size v' (n+m) (xs ++ news)->w.grownBy w' v.ownBlock->(v'.ownBlock=v.ownBlock\/v'.ownBlock=some w.heap.size)->(v≠.slice none 0 0\/0<m->v'≠.slice none 0 0)->wpList Tryz.prog ops Q rest (act.put op.dst v') w'):
  wpList Tryz.prog ops Q (op :: rest) act w:=by
 obtain ⟨v',w',r1,r2,r3,r4,r5⟩:=run_append_src K w op.type B v n xs hown a0 m c news hl hsrc h1 hnm hB
 refine wpList_plain hgd fun K hK=>?_
 unfold Oper.wp execOp
 simp only [ho,resolve,invoke,builtin,Sem.run_bind,Sem.run_pure,Result.andThen_ok,List.map_toArray,List.map_cons,List.map_nil,hs,hx,r1]
 exact hK _ _ (h v' w' r2 r3 r4 r5)
theorem step_append_srcN {ops:Array Oper} {rest:List Oper} {op:Oper} {act:Act} {Q:Exit->Act->World->Prop} {t e:TypeId} {size bytes:Nat} (K:Kind t e size bytes) (w:World) {N:Nat} (hN:N=w.heap.size) (hgd:op.guard=none) (s x:Operand)
  (ho:op.op=.call { callee:=.builtin .append,args:=#[s,x],argTypes:=#[t,t] })
  (a0:Option Addr) (m c:Nat) (news:List Value) (hs:act.eval s=.slice (some ⟨N,0,none⟩) 0 0) (hx:act.eval x=.slice a0 m c) (hl:news.length=m*size) (hsrc:Src w a0 news) (h1:∀ u ∈ news,u.oneCell'=true) (hnm:m<=4000000)
  (h:∀ v' w',w'.ownsRow w.heap.size e size v' m news->Below w.heap.size w w'->v'≠.slice none 0 0->wpList Tryz.prog ops Q rest (act.put op.dst v') w'):
  wpList Tryz.prog ops Q (op :: rest) act (w.alloc (.cells #[] e)):=by
 subst hN
 have hb:Below w.heap.size w (w.alloc (.cells #[] e)):=zQ _ _
 refine step_append_src K _ hgd s x ho w.heap.size (.slice (some ⟨w.heap.size,0,none⟩) 0 0) 0 [] hs (World.ownsRow_made (base:=w.heap.size) (e:=e) (size:=size) w #[] 0 (Nat.le_refl _) (by unfold maxLen;omega) (by simp)) a0 m c news hx hl (hsrc.below hb) h1 (by omega) (by simp) ?_
 intro v' w' o g _ hne
 rw [Nat.zero_add,List.nil_append] at o
 exact h v' w' o (hb.grown g (by simp) (fun k hk=>by cases hk;exact Nat.le_refl _)) (hne (.inl (by simp)))
theorem step_append_val {ops:Array Oper} {rest:List Oper} {op:Oper} {act:Act} {Q:Exit->Act->World->Prop} {t e:TypeId} {size bytes:Nat} (K:Kind t e size bytes) (w:World) {N:Nat} (hN:N=w.heap.size) (hgd:op.guard=none) (s x:Operand)
  (ho:op.op=.call { callee:=.builtin .append,args:=#[s,x],argTypes:=#[t,t] })
  (B:Nat) (v:Value) (n:Nat) (xs:List Value) (hs:act.eval s=v) (hown:w.ownsRow B e size v n xs) (cs:Array Value) (hx:act.eval x=.slice (some ⟨N,0,none⟩) 1 1) (hl:cs.size=size) (h1:∀ u ∈ cs.toList,u.oneCell'=true) (hn:n<=2000000) (hB:B<=w.heap.size)
  (h:∀ v' w',w'.ownsRow B e size v' (n+1) (xs ++ cs.toList)->w.grownBy w' v.ownBlock->(∀ j,v'.ownBlock=some j->v.ownBlock=some j\/w.heap.size<=j)->v'≠.slice none 0 0->wpList Tryz.prog ops Q rest (act.put op.dst v') w'):
  wpList Tryz.prog ops Q (op :: rest) act (w.alloc (.cells cs e)):=by
 subst hN
 have hb:Below w.heap.size w (w.alloc (.cells cs e)):=zQ _ _
 refine step_append_src K _ hgd s x ho B v n xs hs (hown.alloc _) (some ⟨w.heap.size,0,none⟩) 1 1 cs.toList hx (by simp [hl]) (.inr ⟨w.heap.size,0,rfl,by simp,fun j u hj=>?_⟩) h1 (by omega) (by simp;omega) ?_
 ·rw [Nat.zero_add,zW _ _ _ j rfl]
  simpa using hj
 ·intro v' w' o g hbk hne
  refine h v' w' o ⟨g.os,g.tape,g.output,zP hb.size g.size,fun j hj hne=>(g.block j (zL hj hb.size) hne).trans (hb.block j hj)⟩ (fun j hj=>?_) (hne (.inr (by omega)))
  rcases hbk with a | a
  ·exact .inl (a.symm.trans hj)
  ·rw [hj] at a
   simp only [Option.some.injEq] at a
   right
   rw [a]
   simp
def Nz (z:Bool) (e:TypeId):Prop:=z=true\/e=84
theorem nzI {z:Bool}:Nz z 84:=.inr rfl
structure LL (z:Bool) (e:TypeId) (sz:Nat) (E:TypeId) (w:World) (P:Nat->Prop) (v:Value) (n:Nat) (u:Nat->Value) (L:Nat->Nat) (c:Nat->List Value):Prop where
 row:w.ownsRow 0 E 1 v n ((List.range n).map u)
 own:∀ i,i<n->w.ownsRow 0 e sz (u i) (L i) (c i)
 rb:∀ k,v.ownBlock=some k->P k
 ob:∀ i,i<n->∀ k,(u i).ownBlock=some k->P k
 ra:∀ i,i<n->∀ k,(u i).ownBlock=some k->v.ownBlock≠some k
 oa:∀ i j,i<n->j<n->i≠j->∀ k,(u i).ownBlock=some k->(u j).ownBlock≠some k
 nn:Nz z e->∀ i,i<n->u i≠.slice none 0 0
theorem ownsRow_blkL {w w':World} {B size n:Nat} {e:TypeId} {v:Value} {xs:List Value} (h:w.ownsRow B e size v n xs) (hb:∀ k,v.ownBlock=some k->w'.heap[k]? = w.heap[k]?):w'.ownsRow B e size v n xs:=by
 refine ⟨h.1,?_⟩
 rcases h.2 with hn | ⟨g,cap,cur,rfl,hB,hg,hr⟩
 ·exact .inl hn
 ·exact .inr ⟨g,cap,cur,rfl,hB,(hb g rfl).trans hg,hr⟩
theorem ownsRow_base0 {w:World} {B size n:Nat} {e:TypeId} {v:Value} {xs:List Value} (h:w.ownsRow B e size v n xs):w.ownsRow 0 e size v n xs:=h.mono (Nat.zero_le _)
section
variable {z:Bool} {e:TypeId} {sz:Nat} {E:TypeId} {w:World} {P:Nat->Prop} {v:Value} {n:Nat} {u:Nat->Value} {L:Nat->Nat} {c:Nat->List Value}
theorem LL.keep (o:LL z e sz E w P v n u L c) {w':World} (hb:∀ k,P k->k<w.heap.size->w'.heap[k]? = w.heap[k]?):LL z e sz E w' P v n u L c:=
 ⟨ownsRow_blkL o.row fun k hk=>hb k (o.rb k hk) (o.row.lt k hk).2,fun i hi=>ownsRow_blkL (o.own i hi) fun k hk=>hb k (o.ob i hi k hk) ((o.own i hi).lt k hk).2,o.rb,o.ob,o.ra,o.oa,o.nn⟩
theorem LL.below (o:LL z e sz E w P v n u L c) {w':World} (hb:Below w.heap.size w w'):LL z e sz E w' P v n u L c:=o.keep fun k _ hk=>hb.block k hk
theorem LL.mono (o:LL z e sz E w P v n u L c) {P':Nat->Prop} (h:∀ k,P k->k<w.heap.size->P' k):LL z e sz E w P' v n u L c:=
 ⟨o.row,o.own,fun k hk=>h k (o.rb k hk) (o.row.lt k hk).2,fun i hi k hk=>h k (o.ob i hi k hk) ((o.own i hi).lt k hk).2,o.ra,o.oa,o.nn⟩
theorem LL.pushG (o:LL z e sz E w P v n u L c) {w1 w2:World} {u' v':Value} (hsz:w.heap.size<=w1.heap.size) (hb:∀ k,P k->k<w.heap.size->w1.heap[k]? = w.heap[k]?) (hu:w1.ownsRow w.heap.size e sz u' (L n) (c n)) (hne:Nz z e->u'≠.slice none 0 0) (hv:w2.ownsRow 0 E 1 v' (n+1) ((List.range n).map u ++ [u'])) (g:w1.grownBy w2 v.ownBlock)
  (hv':∀ j,v'.ownBlock=some j->v.ownBlock=some j\/w1.heap.size<=j) {P':Nat->Prop} (hP:∀ k,P k->k<w.heap.size->P' k) (hP':∀ k,w.heap.size<=k->k<w2.heap.size->P' k):LL z e sz E w2 P' v' (n+1) (fun j=>if j=n then u' else u j) L c:=by
 have hvlt:∀ k,v.ownBlock=some k->k<w.heap.size:=fun k hk=>(o.row.lt k hk).2
 have hu2 : w2.ownsRow w.heap.size e sz u' (L n) (c n) := hu.kept g (by
  cases hk:u'.ownBlock with
  | none=>exact .inl rfl
  | some k=>
   refine .inr fun e=>?_
   have q1:=(hu.lt k hk).1
   have q2:=hvlt k e.symm
   omega)
 have ho2:∀ i,i<n->w2.ownsRow 0 e sz (u i) (L i) (c i):=fun i hi=>ownsRow_blkL (o.own i hi) fun k hk=>(g.block k (zL ((o.own i hi).lt k hk).2 hsz) fun e=>o.ra i hi k hk e.symm).trans (hb k (o.ob i hi k hk) ((o.own i hi).lt k hk).2)
 have lts:∀ i,i<n->∀ k,(u i).ownBlock=some k->k<w.heap.size:=fun i hi k hk=>((o.own i hi).lt k hk).2
 refine ⟨?_,fun i hi=>?_,fun k hk=>?_,fun i hi k hk=>?_,fun i hi k hk=>?_,fun i j hi hj hij k hk=>?_,fun hz i hi=>?_⟩
 ·have e:(List.range (n+1)).map (fun j=>if j=n then u' else u j)=(List.range n).map u ++ [u']:=by
   rw [List.range_succ,List.map_append]
   simp only [List.map_cons,List.map_nil,if_true]
   congr 1
   exact List.map_congr_left fun j hj=>by
    rw [if_neg]
    have:=List.mem_range.1 hj
    omega
  rw [e]
  exact hv
 ·by_cases ei:i=n
  ·subst ei
   rw [if_pos rfl]
   exact ownsRow_base0 hu2
  ·rw [if_neg ei]
   exact ho2 i (by omega)
 ·rcases hv' k hk with h | h
  ·exact hP k (o.rb k h) (hvlt k h)
  ·exact hP' k (zP hsz h) (hv.lt k hk).2
 ·by_cases ei:i=n
  ·simp only [if_pos ei] at hk
   exact hP' k (hu.lt k hk).1 (hu2.lt k hk).2
  ·simp only [if_neg ei] at hk
   exact hP k (o.ob i (by omega) k hk) (lts i (by omega) k hk)
 ·intro hvk
  by_cases ei:i=n
  ·simp only [if_pos ei] at hk
   rcases hv' k hvk with h | h
   ·have:=hvlt k h
    have:=(hu.lt k hk).1
    omega
   ·have:=(hu.lt k hk).2
    omega
  ·simp only [if_neg ei] at hk
   rcases hv' k hvk with h | h
   ·exact o.ra i (by omega) k hk h
   ·have:=lts i (by omega) k hk
    omega
 ·intro hjk
  by_cases ei:i=n
  ·have ej:j≠n:=fun e=>hij (by omega)
   simp only [if_pos ei] at hk
   simp only [if_neg ej] at hjk
   have:=lts j (by omega) k hjk
   have:=(hu.lt k hk).1
   omega
  ·simp only [if_neg ei] at hk
   by_cases ej:j=n
   ·simp only [if_pos ej] at hjk
    have:=lts i (by omega) k hk
    have:=(hu.lt k hjk).1
    omega
   ·simp only [if_neg ej] at hjk
    exact o.oa i j (by omega) (by omega) hij k hk hjk
 ·by_cases ei:i=n
  ·rw [if_pos ei]
   exact hne hz
  ·rw [if_neg ei]
   exact o.nn hz i (by omega)
theorem LL.push (o:LL z e sz E w P v n u L c) {w1 w2:World} {u' v':Value} (b1:Below w.heap.size w w1) (hu:w1.ownsRow w.heap.size e sz u' (L n) (c n)) (hne:Nz z e->u'≠.slice none 0 0) (hv:w2.ownsRow 0 E 1 v' (n+1) ((List.range n).map u ++ [u'])) (g:w1.grownBy w2 v.ownBlock)
  (hv':∀ j,v'.ownBlock=some j->v.ownBlock=some j\/w1.heap.size<=j) {P':Nat->Prop} (hP:∀ k,P k->k<w.heap.size->P' k) (hP':∀ k,w.heap.size<=k->k<w2.heap.size->P' k):LL z e sz E w2 P' v' (n+1) (fun j=>if j=n then u' else u j) L c:=
 o.pushG b1.size (fun k _ hk=>b1.block k hk) hu hne hv g hv' hP hP'
theorem LL.nil (e:TypeId) (sz:Nat) (E:TypeId) (w:World) (P:Nat->Prop) (u:Nat->Value) (L:Nat->Nat) (c:Nat->List Value):LL z e sz E w P (.slice none 0 0) 0 u L c:=
 ⟨World.ownsRow_nil _ _ _ _,fun i hi=>(by omega),fun k hk=>(by cases hk),fun i hi=>(by omega),fun i hi=>(by omega),fun i j hi=>(by omega),fun _ i hi=>by omega⟩
theorem LL.new (e:TypeId) (sz:Nat) (E:TypeId) (w:World) (P:Nat->Prop) (hP:P w.heap.size) (u:Nat->Value) (L:Nat->Nat) (c:Nat->List Value):LL z e sz E (w.alloc (.cells #[] E)) P (.slice (some ⟨w.heap.size,0,none⟩) 0 0) 0 u L c:=
 ⟨World.ownsRow_made (base:=0) (e:=E) (size:=1) w #[] 0 (Nat.zero_le _) (by unfold maxLen;omega) rfl,fun i hi=>(by omega),fun k hk=>(by cases hk;exact hP),fun i hi=>(by omega),fun i hi=>(by omega),fun i j hi=>(by omega),fun _ i hi=>by omega⟩
theorem LL.cell (o:LL z e sz E w P v n u L c) {i:Nat} (hi:i<n):∃ g cap,v=.slice (some ⟨g,0,none⟩) n cap/\P g/\g<w.heap.size/\w.cell? ⟨g,i,none⟩=some (u i)/\∀ j,w.frozen? ⟨g,j,none⟩=false:=by
 rcases o.row.2 with ⟨_,h0⟩ | ⟨g,cap,cur,rfl,hb,hg,hr⟩
 ·omega
 ·refine ⟨g,cap,rfl,o.rb g rfl,(o.row.lt g rfl).2,?_,fun j=>o.row.frozenAt j⟩
  rw [o.row.cellAt i (by omega)]
  simp [hi]
theorem LL.put {g cap:Nat} (o:LL z e sz E w P (.slice (some ⟨g,0,none⟩) n cap) n u L c) {i:Nat} (hi:i<n) {w1:World} {u':Value} {m:Nat} {c':List Value} (_hs:w.heap.size<=w1.heap.size) (g1:∀ k,k<w.heap.size->(u i).ownBlock≠some k->w1.heap[k]? = w.heap[k]?)
  (hu:w1.ownsRow 0 e sz u' m c') (hne:Nz z e->u'≠.slice none 0 0) (hb:∀ k,u'.ownBlock=some k->(u i).ownBlock=some k\/w.heap.size<=k) {P':Nat->Prop} (hP:∀ k,P k->k<w.heap.size->P' k) (hP':∀ k,w.heap.size<=k->k<w1.heap.size->P' k):
  LL z e sz E (w1.setCell ⟨g,i,none⟩ u') P' (.slice (some ⟨g,0,none⟩) n cap) n (fun j=>if j=i then u' else u j) (fun j=>if j=i then m else L j) (fun j=>if j=i then c' else c j):=by
 have hg:g<w.heap.size:=(o.row.lt g rfl).2
 have hgi:(u i).ownBlock≠some g:=fun e=>o.ra i hi g e rfl
 have row1:w1.ownsRow 0 E 1 (.slice (some ⟨g,0,none⟩) n cap) n ((List.range n).map u):=ownsRow_blkL o.row fun k hk=>by
  cases hk
  exact g1 g hg hgi
 have hu'g:u'.ownBlock≠some g:=fun e=>by
  rcases hb g e with h | h
  ·exact hgi h
  ·omega
 have lts:∀ j,j<n->∀ k,(u j).ownBlock=some k->k<w.heap.size:=fun j hj k hk=>((o.own j hj).lt k hk).2
 refine ⟨?_,fun j hj=>?_,fun k hk=>?_,fun j hj k hk=>?_,fun j hj k hk=>?_,fun a b ha hb' hab k hk=>?_,fun hz j hj=>?_⟩
 ·have h:=(World.ownsRow.stored row1 i u').1
  have e:(List.range n).map (fun j=>if j=i then u' else u j)=((List.range n).map u).set i u':=by
   apply List.ext_getElem (by simp)
   intro j h1 h2
   simp only [List.getElem_map,List.getElem_range,List.getElem_set]
   by_cases q:j=i
   ·rw [if_pos q,if_pos q.symm]
   ·rw [if_neg q,if_neg fun e=>q e.symm]
  rw [e]
  exact h
 ·by_cases ej:j=i
  ·subst ej
   simp only [if_true]
   exact ownsRow_setCell_other hu hu'g _
  ·simp only [if_neg ej]
   refine ownsRow_setCell_other (ownsRow_blkL (o.own j hj) fun k hk=>g1 k (lts j hj k hk) fun e=>o.oa j i hj hi ej k hk e) (fun e=>o.ra j hj g e rfl) _
 ·cases hk
  exact hP g (o.rb g rfl) hg
 ·by_cases ej:j=i
  ·simp only [if_pos ej] at hk
   rcases hb k hk with h | h
   ·exact hP k (o.ob i hi k h) (lts i hi k h)
   ·exact hP' k h (hu.lt k hk).2
  ·simp only [if_neg ej] at hk
   exact hP k (o.ob j hj k hk) (lts j hj k hk)
 ·intro hvk
  cases hvk
  by_cases ej:j=i
  ·simp only [if_pos ej] at hk
   exact hu'g hk
  ·simp only [if_neg ej] at hk
   exact o.ra j hj g hk rfl
 ·intro hbk
  by_cases ea:a=i
  ·have eb:b≠i:=fun e=>hab (by omega)
   simp only [if_pos ea] at hk
   simp only [if_neg eb] at hbk
   rcases hb k hk with h | h
   ·exact o.oa b i hb' hi eb k hbk h
   ·have:=lts b hb' k hbk
    omega
  ·simp only [if_neg ea] at hk
   by_cases eb:b=i
   ·simp only [if_pos eb] at hbk
    rcases hb k hbk with h | h
    ·exact o.oa a i ha hi ea k hk h
    ·have:=lts a ha k hk
     omega
   ·simp only [if_neg eb] at hbk
    exact o.oa a b ha hb' hab k hk hbk
 ·by_cases ej:j=i
  ·simp only [if_pos ej]
   exact hne hz
  ·simp only [if_neg ej]
   exact o.nn hz j hj
end
structure St8 where
 p:Int
 ra:Option Addr
 rc:Nat
 rs:List Int
 oa:Option Addr
 oc:Nat
 os:List Int
 c:Int
def St8.s (x:St8):S4:=⟨x.p,x.rs,x.os,x.c⟩
def lenS (S:Nat->S4) (i:Nat):Nat:=(S i).rs.length+(S i).os.length
structure AllState (W:World) (a0:Option Addr) (n:Nat) (q:Nat->St8):Prop where
 row:n=0\/∃ b off,a0=some ⟨b,off,none⟩/\b<W.heap.size/\∀ i,i<n->W.cell? ⟨b,off+i*4,none⟩=some (.int .i64 (q i).p)/\W.cell? ⟨b,off+i*4+1,none⟩=some (.slice (q i).ra (q i).rs.length (q i).rc)/\W.cell? ⟨b,off+i*4+2,none⟩=some (.slice (q i).oa (q i).os.length (q i).oc)/\W.cell? ⟨b,off+i*4+3,none⟩=some (.int .i64 (q i).c)
 lst:∀ i,i<n->Sl W (q i).ra (q i).rs/\Sl W (q i).oa (q i).os
theorem AllState.below {w w':World} {a0:Option Addr} {n:Nat} {q:Nat->St8} (h:AllState w a0 n q) (hb:Below w.heap.size w w'):AllState w' a0 n q:=by
 refine ⟨?_,fun i hi=>⟨(h.lst i hi).1.below hb,(h.lst i hi).2.below hb⟩⟩
 rcases h.row with h | ⟨b,off,e,hlt,hc⟩
 ·exact .inl h
 ·exact .inr ⟨b, off, e, Nat.lt_of_lt_of_le hlt hb.size, fun i hi => by
   obtain ⟨h0,h1,h2,h3⟩:=hc i hi
   exact ⟨(hb.cell hlt).trans h0,(hb.cell hlt).trans h1,(hb.cell hlt).trans h2,(hb.cell hlt).trans h3⟩⟩
theorem AllState.at {w:World} {a0:Option Addr} {n:Nat} {q:Nat->St8} (h:AllState w a0 n q) {k:Nat} (hk:k<n):∃ b off,a0=some ⟨b,off,none⟩/\w.cell? ⟨b,off+k*4,none⟩=some (.int .i64 (q k).p)/\w.cell? ⟨b,off+k*4+1,none⟩=some (.slice (q k).ra (q k).rs.length (q k).rc)/\w.cell? ⟨b,off+k*4+2,none⟩=some (.slice (q k).oa (q k).os.length (q k).oc)/\w.cell? ⟨b,off+k*4+3,none⟩=some (.int .i64 (q k).c):=by
 rcases h.row with rfl | ⟨b,off,e,-,hc⟩
 ·omega
 ·exact ⟨b,off,e,hc k hk⟩
theorem ownsRow_blk {w w':World} {B size n:Nat} {e:TypeId} {v:Value} {xs:List Value} (h:w.ownsRow B e size v n xs) (hb:∀ k,v.ownBlock=some k->w'.heap[k]? = w.heap[k]?):w'.ownsRow B e size v n xs:=by
 obtain ⟨h0,h⟩:=h
 refine ⟨h0,?_⟩
 rcases h with h | ⟨g,cap,cur,rfl,h1,h2,h3⟩
 ·exact .inl h
 ·exact .inr ⟨g,cap,cur,rfl,h1,(hb g rfl).trans h2,h3⟩
theorem OwnI.blk {w w':World} {B:Nat} {v:Value} {xs:List Int} (h:OwnI w B v xs) (hb:∀ k,v.ownBlock=some k->w'.heap[k]? = w.heap[k]?):OwnI w' B v xs:=ownsRow_blk h hb
theorem StOwn.blk {w w':World} {B:Nat} {v:Value} {p code:Int} {rs os:List Int} (h:StOwn w B v p rs os code) (hb:∀ k,hasBlock v k->w'.heap[k]? = w.heap[k]?):StOwn w' B v p rs os code:=by
 obtain ⟨vr,vo,rfl,h1,h2,h3⟩:=h
 exact ⟨vr,vo,rfl,h1.blk fun k hk=>hb k ((hasBlock_iff _ _ _ _ _).2 (.inl hk)),h2.blk fun k hk=>hb k ((hasBlock_iff _ _ _ _ _).2 (.inr hk)),h3⟩
def Cel4 (w:World) (D j:Nat) (S:S4) (v:Value):Prop:=∃ ra rc oa oc,v=stV S.p ra S.rs.length rc oa S.os.length oc S.c/\w.cell? ⟨D,j,none⟩=some (.int .i64 S.p)/\w.cell? ⟨D,j+1,none⟩=some (.slice ra S.rs.length rc)/\w.cell? ⟨D,j+2,none⟩=some (.slice oa S.os.length oc)/\w.cell? ⟨D,j+3,none⟩=some (.int .i64 S.c)
theorem Cel4.blk {w w':World} {D j:Nat} {S:S4} {v:Value} (h:Cel4 w D j S v) (hb:w'.heap[D]? = w.heap[D]?):Cel4 w' D j S v:=by
 obtain ⟨ra,rc,oa,oc,e,h0,h1,h2,h3⟩:=h
 exact ⟨ra,rc,oa,oc,e,(zH hb).trans h0,(zH hb).trans h1,(zH hb).trans h2,(zH hb).trans h3⟩
theorem infoSta:(Tryz.prog.info? 55).map (fun i=>(i.zero,i.size,i.bytes))=some (some (stV 0 none 0 0 none 0 0 0),4,64):=by kernel_rfl
def flat (f:Nat->List Value):Nat->List Value
 | 0=>[]
 | n+1=>flat f n ++ f n
theorem flat_len {f:Nat->List Value} {sz:Nat}:∀ {n:Nat},(∀ i,i<n->(f i).length=sz)->(flat f n).length=n*sz
 | 0,_=>by simp [flat]
 | n+1,h=>by
  rw [flat,List.length_append,flat_len (fun i hi=>h i (by omega)),h n (by omega),Nat.add_mul,Nat.one_mul]
theorem flat_at {f:Nat->List Value} {sz:Nat}:∀ {n:Nat},(∀ i,i<n->(f i).length=sz)->∀ {i j:Nat},i<n->j<sz->(flat f n)[i*sz+j]? = (f i)[j]?
 | 0,_,i,j,hi,_=>by omega
 | n+1,h,i,j,hi,hj=>by
  have hl:=flat_len (f:=f) (sz:=sz) (n:=n) fun i hi=>h i (by omega)
  by_cases e:i=n
  ·subst e
   rw [flat,List.getElem?_append_right (by omega),hl]
   congr 1
   omega
  ·have:i*sz+sz<=n*sz:=by
    have:=Nat.mul_le_mul_right sz (show i+1<=n by omega)
    rw [Nat.add_mul,Nat.one_mul] at this
    exact this
   rw [flat,List.getElem?_append_left (by omega)]
   exact flat_at (fun i hi=>h i (by omega)) (by omega) hj
theorem flat_one {f:Nat->List Value}:∀ {n:Nat},(∀ i,i<n->∀ u ∈ f i,u.oneCell'=true)->∀ u ∈ flat f n,u.oneCell'=true
 | 0,_,u,hu=>by simp [flat] at hu
 | n+1,h,u,hu=>by
  rw [flat,List.mem_append] at hu
  rcases hu with hu | hu
  ·exact flat_one (fun i hi=>h i (by omega)) u hu
  ·exact h n (by omega) u hu
theorem flat_congr {f g:Nat->List Value}:∀ {n:Nat},(∀ i,i<n->f i=g i)->flat f n=flat g n
 | 0,_=>rfl
 | n+1,h=>by rw [flat,flat,flat_congr fun i hi=>h i (by omega),h n (by omega)]
theorem flat_set4 {f:Nat->List Value} {n i:Nat} (hl:∀ j,j<n->(f j).length=4) (hi:i<n) (a b c d:Value):
  flat (fun j=>if j=i then [a,b,c,d] else f j) n=((((flat f n).set (i*4) a).set (i*4+1) b).set (i*4+2) c).set (i*4+3) d:=by
 have hl':∀ j,j<n->((fun j=>if j=i then [a,b,c,d] else f j) j).length=4:=fun j hj=>by
  by_cases e:j=i
  ·simp [e]
  ·simp [e,hl j hj]
 have n1:=flat_len hl
 have n2:=flat_len hl'
 apply List.ext_getElem?
 intro q
 by_cases hq:q<n*4
 ·have hk:q / 4<n:=by omega
  have hr:q % 4<4:=by omega
  have e:q=q / 4*4+q % 4:=by omega
  have e1:=flat_at hl' hk hr
  have e2:=flat_at hl hk hr
  rw [<- e] at e1 e2
  rw [e1]
  by_cases ei:q / 4=i
  ·simp only [if_pos ei]
   have hr4:q % 4=0\/q % 4=1\/q % 4=2\/q % 4=3:=by omega
   rcases hr4 with h | h | h | h <;> rw [h] <;>
    (simp only [List.getElem?_set, List.length_set, n1]
     have:i<n:=hi
     repeat (first | rw [if_pos (by omega)] | rw [if_neg (by omega)])
     simp)
  ·simp only [if_neg ei]
   simp only [List.getElem?_set,List.length_set,n1]
   rw [if_neg (by omega),if_neg (by omega),if_neg (by omega),if_neg (by omega),e2]
 ·rw [List.getElem?_eq_none (by omega),List.getElem?_eq_none (by simp only [List.length_set];omega)]
def cellsL:Value->List Value
 | .agg a=>a.toList
 | _=>[]
theorem StOwn.cellsL {w:World} {B:Nat} {v:Value} {p code:Int} {rs os:List Int} (h:StOwn w B v p rs os code):(cellsL v).length=4/\∀ u ∈ cellsL v,u.oneCell'=true:=by
 obtain ⟨vr,vo,rfl,h1,h2,-⟩:=h
 obtain ⟨a1,c1,rfl,-⟩:=h1.form
 obtain ⟨a2,c2,rfl,-⟩:=h2.form
 refine ⟨rfl,fun u hu=>?_⟩
 simp [Go.Proofs.YtpnlfccaggfgpaaGreatDoor.cellsL] at hu
 rcases hu with rfl | rfl | rfl | rfl <;> rfl
structure LS (w:World) (P:Nat->Prop) (v:Value) (n:Nat) (vs:Nat->Value) (S:Nat->S4):Prop where
 row:w.ownsRow 0 55 4 v n (flat (fun i=>cellsL (vs i)) n)
 own:∀ i,i<n->StOwn w 0 (vs i) (S i).p (S i).rs (S i).os (S i).c
 rb:∀ k,v.ownBlock=some k->P k
 ob:∀ i,i<n->∀ k,hasBlock (vs i) k->P k
 ra:∀ i,i<n->∀ k,hasBlock (vs i) k->v.ownBlock≠some k
 oa:∀ i j,i<n->j<n->i≠j->∀ k,hasBlock (vs i) k->¬ hasBlock (vs j) k
section
variable {w:World} {P:Nat->Prop} {v:Value} {n:Nat} {vs:Nat->Value} {S:Nat->S4}
theorem LS.keep (o:LS w P v n vs S) {w':World} (hb:∀ k,P k->k<w.heap.size->w'.heap[k]? = w.heap[k]?):LS w' P v n vs S:=
 ⟨ownsRow_blkL o.row fun k hk=>hb k (o.rb k hk) (o.row.lt k hk).2,fun i hi=>(o.own i hi).blk fun k hk=>hb k (o.ob i hi k hk) ((o.own i hi).lt hk).2,o.rb,o.ob,o.ra,o.oa⟩
theorem LS.below (o:LS w P v n vs S) {w':World} (hb:Below w.heap.size w w'):LS w' P v n vs S:=o.keep fun k _ hk=>hb.block k hk
theorem LS.mono (o:LS w P v n vs S) {P':Nat->Prop} (h:∀ k,P k->k<w.heap.size->P' k):LS w P' v n vs S:=
 ⟨o.row,o.own,fun k hk=>h k (o.rb k hk) (o.row.lt k hk).2,fun i hi k hk=>h k (o.ob i hi k hk) ((o.own i hi).lt hk).2,o.ra,o.oa⟩
theorem LS.nil (w:World) (P:Nat->Prop) (vs:Nat->Value) (S:Nat->S4):LS w P (.slice none 0 0) 0 vs S:=
 ⟨World.ownsRow_nil _ _ _ _,fun i hi=>(by omega),fun k hk=>(by cases hk),fun i hi=>(by omega),fun i hi=>(by omega),fun i j hi=>(by omega)⟩
theorem LS.push (o:LS w P v n vs S) {w1 w2:World} {u' v':Value} (b1:Below w.heap.size w w1) (hu:StOwn w1 w.heap.size u' (S n).p (S n).rs (S n).os (S n).c) (hv:w2.ownsRow 0 55 4 v' (n+1) (flat (fun i=>cellsL (vs i)) n ++ cellsL u')) (g:w1.grownBy w2 v.ownBlock)
  (hv':∀ j,v'.ownBlock=some j->v.ownBlock=some j\/w1.heap.size<=j) {P':Nat->Prop} (hP:∀ k,P k->k<w.heap.size->P' k) (hP':∀ k,w.heap.size<=k->k<w2.heap.size->P' k):LS w2 P' v' (n+1) (fun j=>if j=n then u' else vs j) S:=by
 have hvlt:∀ k,v.ownBlock=some k->k<w.heap.size:=fun k hk=>(o.row.lt k hk).2
 have lts:∀ i,i<n->∀ k,hasBlock (vs i) k->k<w.heap.size:=fun i hi k hk=>((o.own i hi).lt hk).2
 have hu2:StOwn w2 w.heap.size u' (S n).p (S n).rs (S n).os (S n).c:=hu.blk fun k hk=>g.block k (hu.lt hk).2 fun e=>by
  have q1:=(hu.lt hk).1
  have q2:=hvlt k e.symm
  omega
 have ho2:∀ i,i<n->StOwn w2 0 (vs i) (S i).p (S i).rs (S i).os (S i).c:=fun i hi=>(o.own i hi).blk fun k hk=>(g.block k (zL (lts i hi k hk) b1.size) fun e=>o.ra i hi k hk e.symm).trans (b1.block k (lts i hi k hk))
 refine ⟨?_,fun i hi=>?_,fun k hk=>?_,fun i hi k hk=>?_,fun i hi k hk=>?_,fun i j hi hj hij k hk=>?_⟩
 ·have e:flat (fun i=>cellsL (if i=n then u' else vs i)) (n+1)=flat (fun i=>cellsL (vs i)) n ++ cellsL u':=by
   rw [flat,if_pos rfl]
   congr 1
   exact flat_congr fun i hi=>by rw [if_neg (by omega)]
  rw [e]
  exact hv
 ·by_cases ei:i=n
  ·subst ei
   simp only [if_true]
   exact hu2.mono (Nat.zero_le _)
  ·simp only [if_neg ei]
   exact ho2 i (by omega)
 ·rcases hv' k hk with h | h
  ·exact hP k (o.rb k h) (hvlt k h)
  ·exact hP' k (zP b1.size h) (hv.lt k hk).2
 ·by_cases ei:i=n
  ·simp only [if_pos ei] at hk
   exact hP' k (hu.lt hk).1 (hu2.lt hk).2
  ·simp only [if_neg ei] at hk
   exact hP k (o.ob i (by omega) k hk) (lts i (by omega) k hk)
 ·intro hvk
  by_cases ei:i=n
  ·simp only [if_pos ei] at hk
   rcases hv' k hvk with h | h
   ·have:=hvlt k h
    have:=(hu.lt hk).1
    omega
   ·have:=(hu.lt hk).2
    omega
  ·simp only [if_neg ei] at hk
   rcases hv' k hvk with h | h
   ·exact o.ra i (by omega) k hk h
   ·have:=lts i (by omega) k hk
    have:=b1.size
    omega
 ·intro hjk
  by_cases ei:i=n
  ·have ej:j≠n:=fun e=>hij (by omega)
   simp only [if_pos ei] at hk
   simp only [if_neg ej] at hjk
   have:=lts j (by omega) k hjk
   have:=(hu.lt hk).1
   omega
  ·simp only [if_neg ei] at hk
   by_cases ej:j=n
   ·simp only [if_pos ej] at hjk
    have:=lts i (by omega) k hk
    have:=(hu.lt hjk).1
    omega
   ·simp only [if_neg ej] at hjk
    exact o.oa i j (by omega) (by omega) hij k hk hjk
theorem LS.cell (o:LS w P v n vs S) {i:Nat} (hi:i<n):∃ g cap,v=.slice (some ⟨g,0,none⟩) n cap/\P g/\g<w.heap.size/\Cel4 w g (i*4) (S i) (vs i)/\∀ j,w.frozen? ⟨g,j,none⟩=false:=by
 have hr:=o.row
 rcases hr.2 with ⟨_,h0⟩ | ⟨g,cap,cur,rfl,hb,hg,hcap,_⟩
 ·omega
 ·refine ⟨g,cap,rfl,o.rb g rfl,(o.row.lt g rfl).2,?_,fun j=>o.row.frozenAt j⟩
  have hl:∀ j,j<n->(cellsL (vs j)).length=4:=fun j hj=>(o.own j hj).cellsL.1
  have hc:∀ j,j<4->w.cell? ⟨g,i*4+j,none⟩=(cellsL (vs i))[j]?:=fun j hj=>by
   rw [o.row.cellAt (i*4+j) (by omega)]
   exact flat_at hl hi hj
  obtain ⟨vr,vo,e,h1,h2,-⟩:=o.own i hi
  obtain ⟨a1,c1,rfl,-⟩:=h1.form
  obtain ⟨a2,c2,rfl,-⟩:=h2.form
  rw [e] at hc
  exact ⟨a1,c1,a2,c2,e,hc 0 (by omega),hc 1 (by omega),hc 2 (by omega),hc 3 (by omega)⟩
theorem LS.put {g cap:Nat} (o:LS w P (.slice (some ⟨g,0,none⟩) n cap) n vs S) {i:Nat} (hi:i<n) {w1:World} {ra oa:Option Addr} {rn rc on oc:Nat} {p code:Int} {T:S4} (b1:Below w.heap.size w w1) (hu:StOwn w1 w.heap.size (stV p ra rn rc oa on oc code) T.p T.rs T.os T.c)
  {P':Nat->Prop} (hP:∀ k,P k->k<w.heap.size->P' k) (hP':∀ k,w.heap.size<=k->k<w1.heap.size->P' k):
  LS ((((w1.setCell ⟨g,i*4,none⟩ (.int .i64 p)).setCell ⟨g,i*4+1,none⟩ (.slice ra rn rc)).setCell ⟨g,i*4+2,none⟩ (.slice oa on oc)).setCell ⟨g,i*4+3,none⟩ (.int .i64 code)) P' (.slice (some ⟨g,0,none⟩) n cap) n (fun j=>if j=i then stV p ra rn rc oa on oc code else vs j) (fun j=>if j=i then T else S j):=by
 have hg:g<w.heap.size:=(o.row.lt g rfl).2
 have lts:∀ j,j<n->∀ k,hasBlock (vs j) k->k<w.heap.size:=fun j hj k hk=>((o.own j hj).lt hk).2
 have hbk:∀ k,k≠g->((((w1.setCell ⟨g,i*4,none⟩ (.int .i64 p)).setCell ⟨g,i*4+1,none⟩ (.slice ra rn rc)).setCell ⟨g,i*4+2,none⟩ (.slice oa on oc)).setCell ⟨g,i*4+3,none⟩ (.int .i64 code)).heap[k]? = w1.heap[k]?:=fun k hne=>(zO _ _ _ _ hne).trans ((zO _ _ _ _ hne).trans ((zO _ _ _ _ hne).trans (zO _ _ _ _ hne)))
 refine ⟨?_,fun j hj=>?_,fun k hk=>?_,fun j hj k hk=>?_,fun j hj k hk=>?_,fun a b ha hb hab k hk=>?_⟩
 ·have hl:∀ j,j<n->(cellsL (vs j)).length=4:=fun j hj=>(o.own j hj).cellsL.1
  have e:flat (fun j=>cellsL (if j=i then stV p ra rn rc oa on oc code else vs j)) n=flat (fun j=>if j=i then [.int .i64 p,.slice ra rn rc,.slice oa on oc,.int .i64 code] else cellsL (vs j)) n:=flat_congr fun j _=>by
   by_cases ej:j=i
   ·rw [if_pos ej,if_pos ej];rfl
   ·rw [if_neg ej,if_neg ej]
  rw [e,flat_set4 hl hi]
  exact (World.ownsRow.stored (World.ownsRow.stored (World.ownsRow.stored (World.ownsRow.stored (ownsRow_blkL o.row fun k hk=>by cases hk;exact b1.block g hg) _ _).1 _ _).1 _ _).1 _ _).1
 ·by_cases ej:j=i
  ·subst ej
   simp only [if_true]
   refine (hu.mono (Nat.zero_le _)).blk fun k hk=>hbk k ?_
   have:=(hu.lt hk).1
   omega
  ·simp only [if_neg ej]
   refine (o.own j hj).blk fun k hk=>(hbk k fun e=>?_).trans (b1.block k (lts j hj k hk))
   exact o.ra j hj k hk (by rw [e];rfl)
 ·cases hk
  exact hP g (o.rb g rfl) hg
 ·by_cases ej:j=i
  ·simp only [if_pos ej] at hk
   exact hP' k (hu.lt hk).1 (hu.lt hk).2
  ·simp only [if_neg ej] at hk
   exact hP k (o.ob j hj k hk) (lts j hj k hk)
 ·intro hvk
  by_cases ej:j=i
  ·simp only [if_pos ej] at hk
   have:=(hu.lt hk).1
   have hkg:g=k:=by simpa [Value.ownBlock] using hvk
   omega
  ·simp only [if_neg ej] at hk
   exact o.ra j hj k hk hvk
 ·intro hbk'
  by_cases ea:a=i
  ·have eb:b≠i:=fun e=>hab (by omega)
   simp only [if_pos ea] at hk
   simp only [if_neg eb] at hbk'
   have:=lts b hb k hbk'
   have:=(hu.lt hk).1
   omega
  ·simp only [if_neg ea] at hk
   by_cases eb:b=i
   ·simp only [if_pos eb] at hbk'
    have:=lts a ha k hk
    have:=(hu.lt hbk').1
    omega
   ·simp only [if_neg eb] at hbk'
    exact o.oa a b ha hb hab k hk hbk'
end
structure SysIn where
 pa:Option Addr
 pn:Nat
 pc:Nat
 pA:Nat->Option Addr
 pL:Nat->Nat
 pC:Nat->Nat
 pH:Nat->Nat->I5
 sa:Option Addr
 sn:Nat
 sc:Nat
 sQ:Nat->St8
 wa:Option Addr
 wn:Nat
 wc:Nat
 wA:Nat->Option Addr
 wL:Nat->Nat
 wC:Nat->Nat
 wH:Nat->Nat->I2
 ha:Option Addr
 hn:Nat
 hc:Nat
 hA:Nat->Option Addr
 hL:Nat->Nat
 hC:Nat->Nat
 hH:Nat->Nat->E3
def SysIn.sS (x:SysIn):Nat->S4:=fun i=>(x.sQ i).s
def SysIn.size (x:SysIn):Nat:=x.pn+sumL x.pL x.pn+(x.sn+sumL (lenS x.sS) x.sn)+(x.wn+sumL x.wL x.wn)+(x.hn+sumL x.hL x.hn)
abbrev sysV (pa:Option Addr) (pn pc:Nat) (sa:Option Addr) (sn sc:Nat) (wa:Option Addr) (wn wc:Nat) (ha:Option Addr) (hn hc:Nat):Value:=.agg #[.slice pa pn pc,.slice sa sn sc,.slice wa wn wc,.slice ha hn hc]
structure SysIn.Row (W:World) (x:SysIn):Prop where
 p:RowS W x.pa x.pn fun i=>.slice (x.pA i) (x.pL i) (x.pC i)
 s:AllState W x.sa x.sn x.sQ
 w:RowS W x.wa x.wn fun i=>.slice (x.wA i) (x.wL i) (x.wC i)
 h:RowS W x.ha x.hn fun i=>.slice (x.hA i) (x.hL i) (x.hC i)
theorem SysIn.Row.below {W w:World} {x:SysIn} (h:x.Row W) (hb:Below W.heap.size W w):x.Row w:=⟨h.p.below hb,h.s.below hb,h.w.below hb,h.h.below hb⟩
