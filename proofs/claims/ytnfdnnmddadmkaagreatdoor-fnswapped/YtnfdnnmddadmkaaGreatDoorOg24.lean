import Derived.Test.YtnfdnnmddadmkaaGreatDoorOg15
import Derived.Test.YtnfdnnmddadmkaaGreatDoorOg23
import Derived.Test.YtnfdnnmddadmkaaGreatDoorOg20
import Derived.OneCell
namespace Go.Proofs.YtnfdnnmddadmkaaGreatDoor
open Go.RowKit
def ItL (w:World) (a:Option Addr) (len:Nat) (h:Nat->I2):Prop:=len=0\/∃ b off,a=some ⟨b,off,none⟩/\b<w.heap.size/\ItAt w b off len h
theorem ItL.below {w w':World} {a:Option Addr} {len:Nat} {h:Nat->I2} (hh:ItL w a len h) (hb:Below w.heap.size w w'):ItL w' a len h:=by
 rcases hh with e | ⟨b,off,e,hlt,hc⟩
 ·exact .inl e
 ·exact .inr ⟨b,off,e,zL hlt hb.size,hc.below hb hlt⟩
theorem ItL.at {w:World} {a:Option Addr} {len:Nat} {h:Nat->I2} (hh:ItL w a len h) {k:Nat} (hk:k<len):∃ b off,a=some ⟨b,off,none⟩/\b<w.heap.size/\w.cell? ⟨b,off+k*2,none⟩=some (.bool (h k).m)/\w.cell? ⟨b,off+k*2+1,none⟩=some (.int .i64 (h k).v):=by
 rcases hh with rfl | ⟨b,off,e,hlt,hc⟩
 ·omega
 ·exact ⟨b,off,e,hlt,hc k hk⟩
theorem qd5 {n:Nat} {p code:Int} {rs os:List Int} (h1:rs.length=4) (h2:allN rs=true) (h3:0<=code/\code<=2) (h4:belB p n=true) (h5:os.length<=60) (h6:allN os=true):qc6 n p rs os code=true:=by
 have e:inB code 0 2=true:=by simp [inB];omega
 have e5:((os.length:Int)<=60):=by omega
 simp [qc6,qcx,outB,h1,h2,e,h4,e5,h6]
theorem qne {xs:List Int} {j:Nat} {v:Int} (h:allN xs=true) (hv:numB v=true):allN (xs.set j v)=true:=by
 unfold allN at h ⊢
 rw [List.all_eq_true] at h ⊢
 intro x hx
 rcases List.mem_or_eq_of_mem_set hx with h1 | h1
 ·exact h x h1
 ·rw [h1];exact hv
def OkS (len:Nat) (S:S4):Prop:=qc6 len S.p S.rs S.os S.c=true
theorem qkt {len k:Nat} {rs os:List Int} (hk:k<len) (h1:rs.length=4) (h2:allN rs=true) (h5:os.length<=60) (h6:allN os=true):OkS len (goS len k rs os 0):=by
 unfold OkS goS goP goC
 by_cases h:(len:Int)<=(k:Int)+1
 ·simp only [h,if_true]
  exact qd5 h1 h2 (by omega) (by simp [belB];omega) h5 h6
 ·simp only [h,if_false]
  exact qd5 h1 h2 (by omega) (by simp [belB];omega) h5 h6
theorem qnj {g:Nat->I5} {len:Nat} {p:Int} {rs os:List Int} {code ek eq ev:Int} (hB:doB g len p rs os code ek eq ev=true):OkS len (doS g len p rs os code ek eq ev):=by
 have hR:=qdr hB
 obtain ⟨hp,hs,rfl⟩:=qba hR
 obtain ⟨⟨a1,a2,a3,a4,rfl,n1,n2,n3,n4⟩,⟨k,rfl,hk⟩,h60,hN⟩:=qb4 hs
 have hS:doS g len k [a1,a2,a3,a4] os 0 ek eq ev=qae len (g k) k [a1,a2,a3,a4] os 0 ev:=by
  unfold doS
  rw [if_pos hB,Int.toNat_natCast]
 rw [hS]
 have hins:=qbs hp hk
 obtain ⟨⟨o1,o11⟩,⟨r0,r3⟩,⟨m0,m3⟩,⟨q0,q3⟩⟩:=qcd hins
 have hA:allN [a1,a2,a3,a4]=true:=by simp [allN,n1,n2,n3,n4]
 have hz:∀ j,j<4->numB (zi [a1,a2,a3,a4] j)=true:=fun j hj=>by
  match j,hj with
  | 0,_=>exact n1
  | 1,_=>exact n2
  | 2,_=>exact n3
  | 3,_=>exact n4
 have hkB:belB (k:Int) len=true:=by simp [belB];omega
 have hc:=hB
 unfold doB nxK nxP nxW at hc
 rw [if_pos hR,if_pos hR,if_pos hR,Int.toNat_natCast] at hc
 have v7:(g k).o=7->numB ev=true:=fun h=>by
  rw [h,show evK 7=3 from rfl,qg7] at hc
  simp only [Bool.and_eq_true] at hc
  exact hc.1.2
 have v8:(g k).o=8->numB ev=true:=fun h=>by
  rw [h,show evK 8=4 from rfl,qea (by decide) (by decide)] at hc
  unfold qek at hc
  simp only [Bool.and_eq_true,beq_iff_eq] at hc
  rw [hc.2.2]
  exact hz _ (by omega)
 unfold qae
 split
 ·exact qkt hk rfl hA h60 hN
 split
 ·rename_i h7
  exact qkt hk (by simp) (qne hA (v7 h7)) h60 hN
 split
 ·rename_i h8
  split
  ·exact qd5 rfl hA (by simp) hkB h60 hN
  ·refine qkt hk rfl hA (by simp;omega) ?_
   unfold allN at hN ⊢
   rw [List.all_append,hN]
   simp [v8 h8]
 split
 ·rename_i h9
  exact qd5 rfl hA (by simp) (qi1 hins (.inl h9)) h60 hN
 split
 ·rename_i h10
  split
  ·exact qd5 rfl hA (by simp) (qi1 hins (.inr h10)) h60 hN
  ·exact qkt hk rfl hA h60 hN
 split
 ·exact qd5 rfl hA (by simp) hkB h60 hN
 split
 ·rename_i hv
  exact qkt hk (by simp) (qne hA hv) h60 hN
 ·exact qd5 rfl hA (by simp) hkB h60 hN
def newS:S4:=⟨0,[0,0,0,0],[],0⟩
def qen (g:Nat->I5) (len:Nat) (x:E3) (S:S4):Option S4:=if doB g len S.p S.rs S.os S.c x.k x.q x.v=true then some (doS g len S.p S.rs S.os S.c x.k x.q x.v) else none
def rp (g:Nat->I5) (len:Nat) (h:Nat->E3):Nat->Option S4
 | 0=>some newS
 | k+1=>(rp g len h k).bind (qen g len (h k))
theorem qqy {g:Nat->I5} {len:Nat} {h:Nat->E3} {k:Nat} (hk:rp g len h k=none):∀ d,rp g len h (k+d)=none
 | 0=>hk
 | d+1=>by
  have:=qqy hk d
  show (rp g len h (k+d)).bind _=none
  rw [this]
  rfl
theorem qmy {g:Nat->I5} {len:Nat} {h:Nat->E3} {k m:Nat} (hk:rp g len h k=none) (hm:k<=m):rp g len h m=none:=by
 have:=qqy hk (m - k)
 rwa [show k+(m - k)=m by omega] at this
theorem qqz {g:Nat->I5} {len:Nat} {h:Nat->E3} {k:Nat} {S:S4} (hk:rp g len h k=some S) (hd:doB g len S.p S.rs S.os S.c (h k).k (h k).q (h k).v=true):rp g len h (k+1)=some (doS g len S.p S.rs S.os S.c (h k).k (h k).q (h k).v):=by
 show (rp g len h k).bind _=_
 rw [hk]
 show qen g len (h k) S=_
 unfold qen
 rw [if_pos hd]
theorem quz {g:Nat->I5} {len:Nat} {h:Nat->E3} {k:Nat} {S:S4} (hk:rp g len h k=some S) (hd:doB g len S.p S.rs S.os S.c (h k).k (h k).q (h k).v=false):rp g len h (k+1)=none:=by
 show (rp g len h k).bind _=_
 rw [hk]
 show qen g len (h k) S=_
 unfold qen
 rw [if_neg (by rw [hd];decide)]
def resS (o:Option S4):S4:=o.getD ⟨0,[],[],0⟩
theorem qje {g:Nat->I5} {len:Nat} (hp:qad g len 4=true):1<=len/\len<=30:=by
 simp only [qad,Bool.and_eq_true] at hp
 have:=hp.2.1
 simp [inB] at this
 omega
theorem qi9 {g:Nat->I5} {len:Nat} (hp:qad g len 4=true):OkS len newS:=by
 have:=qje hp
 exact qd5 rfl (by simp [newS,allN,numB,inB]) (by simp [newS]) (by simp [belB,newS];omega) (by simp [newS]) rfl
theorem qn6 {g:Nat->I5} {len:Nat} {S:S4} (hp:qad g len 4=true) (hS:OkS len S) (hc:S.c=0):qb0 g len S.p S.rs S.os S.c=true:=by
 unfold OkS at hS
 rw [qb0,hp,hS,hc]
 rfl
theorem qrz {g:Nat->I5} {len:Nat} {S:S4} {k q v:Int} (hc:S.c≠0):doB g len S.p S.rs S.os S.c k q v=false:=by
 rcases zK (doB g len S.p S.rs S.os S.c k q v) with h | h
 ·obtain ⟨-,-,h0⟩:=qba (qdr h)
  exact absurd h0 hc
 ·exact h
theorem OkS.len {n:Nat} {S:S4} (h:OkS n S):S.rs.length=4/\S.os.length<=60:=by
 obtain ⟨⟨a,b,c,d,e,-⟩,-,h60,-⟩:=qb4 h
 exact ⟨by rw [e];rfl,h60⟩
open Go.ChangeShapes Go.WideShapes Go.ChangeAt Go.Deep
theorem zQ (w:World) (o:Obj):Below w.heap.size w (w.alloc o):=(Below.refl _ _).alloc (Nat.le_refl _) _
def Src (w:World) (a0:Option Addr) (cs:List Value):Prop:=cs=[]\/∃ b off,a0=some ⟨b,off,none⟩/\b<w.heap.size/\∀ j u,cs[j]? = some u->w.cell? ⟨b,off+j,none⟩=some u
theorem Src.below {w w':World} {a0:Option Addr} {cs:List Value} (h:Src w a0 cs) (hb:Below w.heap.size w w'):Src w' a0 cs:=by
 rcases h with h | ⟨b,off,e,hlt,hc⟩
 ·exact .inl h
 ·exact .inr ⟨b,off,e,zL hlt hb.size,fun j u hj=>(hb.cell (p:=⟨b,off+j,none⟩) hlt).trans (hc j u hj)⟩
structure Kind (t e:TypeId) (size bytes:Nat):Prop where
 und:Tryz.prog.underlying t=some (.slice e)
 inf:∃ i z,Tryz.prog.info? e=some i/\i.zero=some z/\i.size=size/\i.bytes=bytes/\z.cells.size=size
 pos:0<size
 sml:bytes<=128
theorem qeo {t e:TypeId} {size bytes:Nat} (K:Kind t e size bytes) (w:World) (ty:TypeId) (B:Nat) (v:Value) (n:Nat) (xs:List Value) (hown:w.ownsRow B e size v n xs) (a0:Option Addr) (m c:Nat) (news:List Value) (hl:news.length=m*size) (hsrc:Src w a0 news) (h1:∀ u ∈ news,u.oneCell'=true) (hnm:n+m<=4000000) (hB:B<=w.heap.size):
  ∃ v' w',(Builtin.append_ #[t,t] ty #[v,.slice a0 m c]).run Tryz.prog w=.ok v' w'/\w'.ownsRow B e size v' (n+m) (xs ++ news)/\w.grownBy w' v.ownBlock/\(v'.ownBlock=v.ownBlock\/v'.ownBlock=some w.heap.size)/\(v≠.slice none 0 0\/0<m->v'≠.slice none 0 0):=by
 obtain ⟨i,z,hi,hz,hs,hb,hzs⟩:=K.inf
 have hby:(n+m)*bytes<=140737488355328:=zP (Nat.mul_le_mul hnm K.sml) (by omega)
 cases a0 with
 | none=>
  have hn0:news=[]:=by
   rcases hsrc with h | ⟨b,off,e,_⟩
   ·exact h
   ·cases e
  subst hn0
  have hm:m=0:=by
   have:=K.pos
   simp only [List.length_nil] at hl
   rcases Nat.eq_zero_or_pos m with h | h
   ·exact h
   ·have:=Nat.mul_pos h K.pos
    omega
  subst hm
  refine ⟨v,w,?_,by simpa using hown,World.grownBy.refl _ _,.inl rfl,fun h=>h.elim id fun h=>by omega⟩
  rcases hown.2 with ⟨rfl,_⟩ | ⟨g,cap,cur,rfl,_,_,hnc,_⟩
  ·simp [Builtin.append_,run_underlying K.und,sizeOf,typeInfo,hi,Builtin.lenOf,Builtin.firstCells]
  ·simp [Builtin.append_,run_underlying K.und,sizeOf,typeInfo,hi,Builtin.lenOf,Builtin.firstCells,hnc,storeCells]
 | some a=>
  have hnews:∀ j u,news[j]? = some u->w.cell? (a.add j)=some u:=by
   rcases hsrc with h0 | ⟨b,off,e,hlt,hc⟩
   ·subst h0
    intro j u hj
    simp at hj
   ·cases e
    intro j u hj
    have ha:Addr.add ⟨b,off,none⟩ j=⟨b,off+j,none⟩:=by unfold Addr.add;split <;> simp_all
    rw [ha]
    exact hc j u hj
  obtain ⟨v',w',r1,r2,r3,r4,r5⟩:=run_append_own_at (P:=Tryz.prog) w B t ty e i z size bytes K.und hi hz hs hb hzs K.pos v n xs hown a m c news hl hnews h1 (by unfold maxLen;omega) hby hB
  exact ⟨v',w',r1,r2,r3,r5,fun h e=>h.elim (fun h=>h (r4.1 e).1) fun h=>by have:=(r4.1 e).2;omega⟩
theorem qd6 {ops:Array Oper} {rest:List Oper} {op:Oper} {act:Act} {Q:Exit->Act->World->Prop} {t e:TypeId} {size bytes:Nat} (K:Kind t e size bytes) (w:World) (hgd:op.guard=none) (s x:Operand)
  (ho:op.op=.call { callee:=.builtin .append,args:=#[s,x],argTypes:=#[t,t] })
  (B:Nat) (v:Value) (n:Nat) (xs:List Value) (hs:act.eval s=v) (hown:w.ownsRow B e size v n xs) (a0:Option Addr) (m c:Nat) (news:List Value) (hx:act.eval x=.slice a0 m c) (hl:news.length=m*size) (hsrc:Src w a0 news) (h1:∀ u ∈ news,u.oneCell'=true) (hnm:n+m<=4000000) (hB:B<=w.heap.size)
  (h:∀ v' w',w'.ownsRow B e size v' (n+m) (xs ++ news)->w.grownBy w' v.ownBlock->(v'.ownBlock=v.ownBlock\/v'.ownBlock=some w.heap.size)->(v≠.slice none 0 0\/0<m->v'≠.slice none 0 0)->wpList Tryz.prog ops Q rest (act.put op.dst v') w'):
  wpList Tryz.prog ops Q (op :: rest) act w:=by
 obtain ⟨v',w',r1,r2,r3,r4,r5⟩:=qeo K w op.type B v n xs hown a0 m c news hl hsrc h1 hnm hB
 refine wpList_plain hgd fun K hK=>?_
 unfold Oper.wp execOp
 simp only [ho,resolve,invoke,builtin,Sem.run_bind,Sem.run_pure,Result.andThen_ok,List.map_toArray,List.map_cons,List.map_nil,hs,hx,r1]
 exact hK _ _ (h v' w' r2 r3 r4 r5)
theorem qct {ops:Array Oper} {rest:List Oper} {op:Oper} {act:Act} {Q:Exit->Act->World->Prop} {t e:TypeId} {size bytes:Nat} (K:Kind t e size bytes) (w:World) {N:Nat} (hN:N=w.heap.size) (hgd:op.guard=none) (s x:Operand)
  (ho:op.op=.call { callee:=.builtin .append,args:=#[s,x],argTypes:=#[t,t] })
  (a0:Option Addr) (m c:Nat) (news:List Value) (hs:act.eval s=.slice (some ⟨N,0,none⟩) 0 0) (hx:act.eval x=.slice a0 m c) (hl:news.length=m*size) (hsrc:Src w a0 news) (h1:∀ u ∈ news,u.oneCell'=true) (hnm:m<=4000000)
  (h:∀ v' w',w'.ownsRow w.heap.size e size v' m news->Below w.heap.size w w'->v'≠.slice none 0 0->wpList Tryz.prog ops Q rest (act.put op.dst v') w'):
  wpList Tryz.prog ops Q (op :: rest) act (w.alloc (.cells #[] e)):=by
 subst hN
 have hb:Below w.heap.size w (w.alloc (.cells #[] e)):=zQ _ _
 refine qd6 K _ hgd s x ho w.heap.size (.slice (some ⟨w.heap.size,0,none⟩) 0 0) 0 [] hs (World.ownsRow_made (base:=w.heap.size) (e:=e) (size:=size) w #[] 0 (Nat.le_refl _) (by unfold maxLen;omega) (by simp)) a0 m c news hx hl (hsrc.below hb) h1 (by omega) (by simp) ?_
 intro v' w' o g _ hne
 rw [Nat.zero_add,List.nil_append] at o
 exact h v' w' o (hb.grown g (by simp) (fun k hk=>by cases hk;exact Nat.le_refl _)) (hne (.inl (by simp)))
theorem qa9 {ops:Array Oper} {rest:List Oper} {op:Oper} {act:Act} {Q:Exit->Act->World->Prop} {t e:TypeId} {size bytes:Nat} (K:Kind t e size bytes) (w:World) {N:Nat} (hN:N=w.heap.size) (hgd:op.guard=none) (s x:Operand)
  (ho:op.op=.call { callee:=.builtin .append,args:=#[s,x],argTypes:=#[t,t] })
  (B:Nat) (v:Value) (n:Nat) (xs:List Value) (hs:act.eval s=v) (hown:w.ownsRow B e size v n xs) (cs:Array Value) (hx:act.eval x=.slice (some ⟨N,0,none⟩) 1 1) (hl:cs.size=size) (h1:∀ u ∈ cs.toList,u.oneCell'=true) (hn:n<=2000000) (hB:B<=w.heap.size)
  (h:∀ v' w',w'.ownsRow B e size v' (n+1) (xs ++ cs.toList)->w.grownBy w' v.ownBlock->(∀ j,v'.ownBlock=some j->v.ownBlock=some j\/w.heap.size<=j)->v'≠.slice none 0 0->wpList Tryz.prog ops Q rest (act.put op.dst v') w'):
  wpList Tryz.prog ops Q (op :: rest) act (w.alloc (.cells cs e)):=by
 subst hN
 have hb:Below w.heap.size w (w.alloc (.cells cs e)):=zQ _ _
 refine qd6 K _ hgd s x ho B v n xs hs (hown.alloc _) (some ⟨w.heap.size,0,none⟩) 1 1 cs.toList hx (by simp [hl]) (.inr ⟨w.heap.size,0,rfl,by simp,fun j u hj=>?_⟩) h1 (by omega) (by simp;omega) ?_
 ·rw [Nat.zero_add,zW _ _ _ j rfl]
  simpa using hj
 ·intro v' w' o g hbk hne
  refine h v' w' o ⟨g.os,g.tape,g.output,zP hb.size g.size,fun j hj hne=>(g.block j (zL hj hb.size) hne).trans (hb.block j hj)⟩ (fun j hj=>?_) (hne (.inr (by omega)))
  rcases hbk with a | a
  ·exact .inl (a.symm.trans hj)
  ·rw [hj] at a
   simp only [Option.some.injEq] at a
   right
   rw [a]
   simp
def Nz (z:Bool) (e:TypeId):Prop:=z=true\/e=123
theorem nzI {z:Bool}:Nz z 123:=.inr rfl
theorem nzT (e:TypeId):Nz true e:=.inl rfl
structure LL (z:Bool) (e:TypeId) (sz:Nat) (E:TypeId) (w:World) (P:Nat->Prop) (v:Value) (n:Nat) (u:Nat->Value) (L:Nat->Nat) (c:Nat->List Value):Prop where
 row:w.ownsRow 0 E 1 v n ((List.range n).map u)
 own:∀ i,i<n->w.ownsRow 0 e sz (u i) (L i) (c i)
 rb:∀ k,v.ownBlock=some k->P k
 ob:∀ i,i<n->∀ k,(u i).ownBlock=some k->P k
 ra:∀ i,i<n->∀ k,(u i).ownBlock=some k->v.ownBlock≠some k
 oa:∀ i j,i<n->j<n->i≠j->∀ k,(u i).ownBlock=some k->(u j).ownBlock≠some k
 nn:Nz z e->∀ i,i<n->u i≠.slice none 0 0
theorem qa1 {w w':World} {B size n:Nat} {e:TypeId} {v:Value} {xs:List Value} (h:w.ownsRow B e size v n xs) (hb:∀ k,v.ownBlock=some k->w'.heap[k]? = w.heap[k]?):w'.ownsRow B e size v n xs:=by
 refine ⟨h.1,?_⟩
 rcases h.2 with hn | ⟨g,cap,cur,rfl,hB,hg,hr⟩
 ·exact .inl hn
 ·exact .inr ⟨g,cap,cur,rfl,hB,(hb g rfl).trans hg,hr⟩
theorem qdk {w:World} {B size n:Nat} {e:TypeId} {v:Value} {xs:List Value} (h:w.ownsRow B e size v n xs):w.ownsRow 0 e size v n xs:=h.mono (Nat.zero_le _)
section
variable {z:Bool} {e:TypeId} {sz:Nat} {E:TypeId} {w:World} {P:Nat->Prop} {v:Value} {n:Nat} {u:Nat->Value} {L:Nat->Nat} {c:Nat->List Value}
theorem LL.keep (o:LL z e sz E w P v n u L c) {w':World} (hb:∀ k,P k->k<w.heap.size->w'.heap[k]? = w.heap[k]?):LL z e sz E w' P v n u L c:=
 ⟨qa1 o.row fun k hk=>hb k (o.rb k hk) (o.row.lt k hk).2,fun i hi=>qa1 (o.own i hi) fun k hk=>hb k (o.ob i hi k hk) ((o.own i hi).lt k hk).2,o.rb,o.ob,o.ra,o.oa,o.nn⟩
theorem LL.below (o:LL z e sz E w P v n u L c) {w':World} (hb:Below w.heap.size w w'):LL z e sz E w' P v n u L c:=o.keep fun k _ hk=>hb.block k hk
theorem LL.mono (o:LL z e sz E w P v n u L c) {P':Nat->Prop} (h:∀ k,P k->k<w.heap.size->P' k):LL z e sz E w P' v n u L c:=
 ⟨o.row,o.own,fun k hk=>h k (o.rb k hk) (o.row.lt k hk).2,fun i hi k hk=>h k (o.ob i hi k hk) ((o.own i hi).lt k hk).2,o.ra,o.oa,o.nn⟩
theorem LL.pushG (o:LL z e sz E w P v n u L c) {w1 w2:World} {u' v':Value} (hsz:w.heap.size<=w1.heap.size) (hb:∀ k,P k->k<w.heap.size->w1.heap[k]? = w.heap[k]?) (hu:w1.ownsRow w.heap.size e sz u' (L n) (c n)) (hne:Nz z e->u'≠.slice none 0 0) (hv:w2.ownsRow 0 E 1 v' (n+1) ((List.range n).map u ++ [u'])) (g:w1.grownBy w2 v.ownBlock)
  (hv':∀ j,v'.ownBlock=some j->v.ownBlock=some j\/w1.heap.size<=j) {P':Nat->Prop} (hP:∀ k,P k->k<w.heap.size->P' k) (hP':∀ k,w.heap.size<=k->k<w2.heap.size->P' k):LL z e sz E w2 P' v' (n+1) (fun j=>if j=n then u' else u j) L c:=by
 have hvlt:∀ k,v.ownBlock=some k->k<w.heap.size:=fun k hk=>(o.row.lt k hk).2
 have hu2 : w2.ownsRow w.heap.size e sz u' (L n) (c n) := hu.kept g (by
  cases hk:u'.ownBlock with
  | none=>exact .inl rfl
  | some k=>
   refine .inr fun e=>?_
   have q1:=(hu.lt k hk).1
   have q2:=hvlt k e.symm
   omega)
 have ho2:∀ i,i<n->w2.ownsRow 0 e sz (u i) (L i) (c i):=fun i hi=>qa1 (o.own i hi) fun k hk=>(g.block k (zL ((o.own i hi).lt k hk).2 hsz) fun e=>o.ra i hi k hk e.symm).trans (hb k (o.ob i hi k hk) ((o.own i hi).lt k hk).2)
 have lts:∀ i,i<n->∀ k,(u i).ownBlock=some k->k<w.heap.size:=fun i hi k hk=>((o.own i hi).lt k hk).2
 refine ⟨?_,fun i hi=>?_,fun k hk=>?_,fun i hi k hk=>?_,fun i hi k hk=>?_,fun i j hi hj hij k hk=>?_,fun hz i hi=>?_⟩
 ·have e:(List.range (n+1)).map (fun j=>if j=n then u' else u j)=(List.range n).map u ++ [u']:=by
   rw [List.range_succ,List.map_append]
   simp only [List.map_cons,List.map_nil,if_true]
   congr 1
   exact List.map_congr_left fun j hj=>by
    rw [if_neg]
    have:=List.mem_range.1 hj
    omega
  rw [e]
  exact hv
 ·by_cases ei:i=n
  ·subst ei
   rw [if_pos rfl]
   exact qdk hu2
  ·rw [if_neg ei]
   exact ho2 i (by omega)
 ·rcases hv' k hk with h | h
  ·exact hP k (o.rb k h) (hvlt k h)
  ·exact hP' k (zP hsz h) (hv.lt k hk).2
 ·by_cases ei:i=n
  ·simp only [if_pos ei] at hk
   exact hP' k (hu.lt k hk).1 (hu2.lt k hk).2
  ·simp only [if_neg ei] at hk
   exact hP k (o.ob i (by omega) k hk) (lts i (by omega) k hk)
 ·intro hvk
  by_cases ei:i=n
  ·simp only [if_pos ei] at hk
   rcases hv' k hvk with h | h
   ·have:=hvlt k h
    have:=(hu.lt k hk).1
    omega
   ·have:=(hu.lt k hk).2
    omega
  ·simp only [if_neg ei] at hk
   rcases hv' k hvk with h | h
   ·exact o.ra i (by omega) k hk h
   ·have:=lts i (by omega) k hk
    omega
 ·intro hjk
  by_cases ei:i=n
  ·have ej:j≠n:=fun e=>hij (by omega)
   simp only [if_pos ei] at hk
   simp only [if_neg ej] at hjk
   have:=lts j (by omega) k hjk
   have:=(hu.lt k hk).1
   omega
  ·simp only [if_neg ei] at hk
   by_cases ej:j=n
   ·simp only [if_pos ej] at hjk
    have:=lts i (by omega) k hk
    have:=(hu.lt k hjk).1
    omega
   ·simp only [if_neg ej] at hjk
    exact o.oa i j (by omega) (by omega) hij k hk hjk
 ·by_cases ei:i=n
  ·rw [if_pos ei]
   exact hne hz
  ·rw [if_neg ei]
   exact o.nn hz i (by omega)
theorem LL.push (o:LL z e sz E w P v n u L c) {w1 w2:World} {u' v':Value} (b1:Below w.heap.size w w1) (hu:w1.ownsRow w.heap.size e sz u' (L n) (c n)) (hne:Nz z e->u'≠.slice none 0 0) (hv:w2.ownsRow 0 E 1 v' (n+1) ((List.range n).map u ++ [u'])) (g:w1.grownBy w2 v.ownBlock)
  (hv':∀ j,v'.ownBlock=some j->v.ownBlock=some j\/w1.heap.size<=j) {P':Nat->Prop} (hP:∀ k,P k->k<w.heap.size->P' k) (hP':∀ k,w.heap.size<=k->k<w2.heap.size->P' k):LL z e sz E w2 P' v' (n+1) (fun j=>if j=n then u' else u j) L c:=
 o.pushG b1.size (fun k _ hk=>b1.block k hk) hu hne hv g hv' hP hP'
theorem LL.nil (e:TypeId) (sz:Nat) (E:TypeId) (w:World) (P:Nat->Prop) (u:Nat->Value) (L:Nat->Nat) (c:Nat->List Value):LL z e sz E w P (.slice none 0 0) 0 u L c:=
 ⟨World.ownsRow_nil _ _ _ _,fun i hi=>(by omega),fun k hk=>(by cases hk),fun i hi=>(by omega),fun i hi=>(by omega),fun i j hi=>(by omega),fun _ i hi=>by omega⟩
theorem LL.new (e:TypeId) (sz:Nat) (E:TypeId) (w:World) (P:Nat->Prop) (hP:P w.heap.size) (u:Nat->Value) (L:Nat->Nat) (c:Nat->List Value):LL z e sz E (w.alloc (.cells #[] E)) P (.slice (some ⟨w.heap.size,0,none⟩) 0 0) 0 u L c:=
 ⟨World.ownsRow_made (base:=0) (e:=E) (size:=1) w #[] 0 (Nat.zero_le _) (by unfold maxLen;omega) rfl,fun i hi=>(by omega),fun k hk=>(by cases hk;exact hP),fun i hi=>(by omega),fun i hi=>(by omega),fun i j hi=>(by omega),fun _ i hi=>by omega⟩
theorem LL.cell (o:LL z e sz E w P v n u L c) {i:Nat} (hi:i<n):∃ g cap,v=.slice (some ⟨g,0,none⟩) n cap/\P g/\g<w.heap.size/\w.cell? ⟨g,i,none⟩=some (u i)/\∀ j,w.frozen? ⟨g,j,none⟩=false:=by
 rcases o.row.2 with ⟨_,h0⟩ | ⟨g,cap,cur,rfl,hb,hg,hr⟩
 ·omega
 ·refine ⟨g,cap,rfl,o.rb g rfl,(o.row.lt g rfl).2,?_,fun j=>o.row.frozenAt j⟩
  rw [o.row.cellAt i (by omega)]
  simp [hi]
theorem LL.put {g cap:Nat} (o:LL z e sz E w P (.slice (some ⟨g,0,none⟩) n cap) n u L c) {i:Nat} (hi:i<n) {w1:World} {u':Value} {m:Nat} {c':List Value} (_hs:w.heap.size<=w1.heap.size) (g1:∀ k,k<w.heap.size->(u i).ownBlock≠some k->w1.heap[k]? = w.heap[k]?)
  (hu:w1.ownsRow 0 e sz u' m c') (hne:Nz z e->u'≠.slice none 0 0) (hb:∀ k,u'.ownBlock=some k->(u i).ownBlock=some k\/w.heap.size<=k) {P':Nat->Prop} (hP:∀ k,P k->k<w.heap.size->P' k) (hP':∀ k,w.heap.size<=k->k<w1.heap.size->P' k):
  LL z e sz E (w1.setCell ⟨g,i,none⟩ u') P' (.slice (some ⟨g,0,none⟩) n cap) n (fun j=>if j=i then u' else u j) (fun j=>if j=i then m else L j) (fun j=>if j=i then c' else c j):=by
 have hg:g<w.heap.size:=(o.row.lt g rfl).2
 have hgi:(u i).ownBlock≠some g:=fun e=>o.ra i hi g e rfl
 have row1:w1.ownsRow 0 E 1 (.slice (some ⟨g,0,none⟩) n cap) n ((List.range n).map u):=qa1 o.row fun k hk=>by
  cases hk
  exact g1 g hg hgi
 have hu'g:u'.ownBlock≠some g:=fun e=>by
  rcases hb g e with h | h
  ·exact hgi h
  ·omega
 have lts:∀ j,j<n->∀ k,(u j).ownBlock=some k->k<w.heap.size:=fun j hj k hk=>((o.own j hj).lt k hk).2
 refine ⟨?_,fun j hj=>?_,fun k hk=>?_,fun j hj k hk=>?_,fun j hj k hk=>?_,fun a b ha hb' hab k hk=>?_,fun hz j hj=>?_⟩
 ·have h:=(World.ownsRow.stored row1 i u').1
  have e:(List.range n).map (fun j=>if j=i then u' else u j)=((List.range n).map u).set i u':=by
   apply List.ext_getElem (by simp)
   intro j h1 h2
   simp only [List.getElem_map,List.getElem_range,List.getElem_set]
   by_cases q:j=i
   ·rw [if_pos q,if_pos q.symm]
   ·rw [if_neg q,if_neg fun e=>q e.symm]
  rw [e]
  exact h
 ·by_cases ej:j=i
  ·subst ej
   simp only [if_true]
   exact ownsRow_setCell_other hu hu'g _
  ·simp only [if_neg ej]
   refine ownsRow_setCell_other (qa1 (o.own j hj) fun k hk=>g1 k (lts j hj k hk) fun e=>o.oa j i hj hi ej k hk e) (fun e=>o.ra j hj g e rfl) _
 ·cases hk
  exact hP g (o.rb g rfl) hg
 ·by_cases ej:j=i
  ·simp only [if_pos ej] at hk
   rcases hb k hk with h | h
   ·exact hP k (o.ob i hi k h) (lts i hi k h)
   ·exact hP' k h (hu.lt k hk).2
  ·simp only [if_neg ej] at hk
   exact hP k (o.ob j hj k hk) (lts j hj k hk)
 ·intro hvk
  cases hvk
  by_cases ej:j=i
  ·simp only [if_pos ej] at hk
   exact hu'g hk
  ·simp only [if_neg ej] at hk
   exact o.ra j hj g hk rfl
 ·intro hbk
  by_cases ea:a=i
  ·have eb:b≠i:=fun e=>hab (by omega)
   simp only [if_pos ea] at hk
   simp only [if_neg eb] at hbk
   rcases hb k hk with h | h
   ·exact o.oa b i hb' hi eb k hbk h
   ·have:=lts b hb' k hbk
    omega
  ·simp only [if_neg ea] at hk
   by_cases eb:b=i
   ·simp only [if_pos eb] at hbk
    rcases hb k hbk with h | h
    ·exact o.oa a i ha hi ea k hk h
    ·have:=lts a ha k hk
     omega
   ·simp only [if_neg eb] at hbk
    exact o.oa a b ha hb' hab k hk hbk
 ·by_cases ej:j=i
  ·simp only [if_pos ej]
   exact hne hz
  ·simp only [if_neg ej]
   exact o.nn hz j hj
end
