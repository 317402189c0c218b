import Derived.Test.YtgkocghddlolkaaGreatDoorYl20
import Derived.Laws.CopyRow
namespace Go.Proofs.YtgkocghddlolkaaGreatDoor
open Go.Proofs.Tryz
set_option maxRecDepth 100000
set_option maxHeartbeats 2000000
open Go.RowKit Go.Deep
theorem LL.weak {z:Bool} {e:TypeId} {sz:Nat} {E:TypeId} {w:World} {P:Nat->Prop} {v:Value} {n:Nat} {u:Nat->Value} {L:Nat->Nat} {c:Nat->List Value} (o:LL z e sz E w P v n u L c):LL false e sz E w P v n u L c:=
 ⟨o.row,o.own,o.rb,o.ob,o.ra,o.oa,fun h i hi=>o.nn (h.elim (fun h=>by cases h) .inr) i hi⟩
theorem OwnS.weak {z:Bool} {w:World} {B:Nat} {c:Nat->Nat} {y:Sy} {vp vs vw vh:Value} {up us uw uh:Nat->Value} (o:OwnS z w B c y vp vs vw vh up us uw uh):OwnS false w B c y vp vs vw vh up us uw uh:=⟨o.p.weak,o.s,o.t.weak,o.h.weak⟩
theorem ZL.ll {e:TypeId} {sz:Nat} {E:TypeId} {w:World} {P:Nat->Prop} {v:Value} {n:Nat} (o:ZL E w P v n) (he:e≠77) (c:Nat->List Value) (hc:∀ i,c i=[]):LL false e sz E w P v n (fun _=>.slice none 0 0) (fun _=>0) c:=
 ⟨(by rw [List.map_const'];simpa using o.row),fun i _=>by rw [hc];exact World.ownsRow_nil _ _ _ _,o.rb,fun i _ k hk=>(by cases hk),fun i _ k hk=>(by cases hk),fun i j _ _ _ k hk=>(by cases hk),fun h _ _=>h.elim (fun h=>by cases h) (fun h=>absurd h he)⟩
theorem qai.toz {z:Bool} {w:World} {B:Nat} {y:Sy} {v:Value} (o:qai true w B y v):qai z w B y v:=by
 cases z with
 | true=>exact o
 | false=>
  obtain ⟨c,vp,vs,vw,vh,up,us,uw,uh,e,o⟩:=o;exact ⟨c,vp,vs,vw,vh,up,us,uw,uh,e,o.weak⟩
structure Sy.Sm (y:Sy):Prop where
 n:y.pn<=16/\y.sn<=16/\y.wn<=16/\y.hn<=16
 p:∀ i,i<y.pn->y.pL i<=1000
 s:∀ i,i<y.sn->(y.sS i).rs.length<=1000/\(y.sS i).os.length<=1000
 w:∀ i,i<y.wn->y.wL i<=1000
 h:∀ i,i<y.hn->y.hL i<=1000
theorem qv1 {n:Nat} {S:S4} (h:OkS n S):S.rs.length<=60/\S.os.length<=60:=by
 obtain ⟨⟨r0,r1,r2,r3,e,-⟩,-,h60,-⟩:=qb1 h;exact ⟨by rw [e];simp,h60⟩
theorem Sy.Ok.bds {y:Sy} (h:y.Ok):(∀ i,i<y.pn->y.pL i<=30)/\(∀ i,i<y.sn->OkS (y.pL i) (y.sS i))/\(∀ i,i<y.wn->y.wL i<=12)/\(∀ i,i<y.hn->y.hL i<=200):=by
 obtain ⟨⟨h1,h4⟩,hs,hh,hw⟩:=h.cn;refine ⟨fun i hi=>?_,fun i hi=>h.st (by omega),fun i hi=>?_,fun i hi=>h.le200 (by omega)⟩
 ·have h1:=h.four hi
  simp only [qac,Bool.and_eq_true,inB,decide_eq_true_eq] at h1;have:=h1.2.1;omega
 ·rw [hw] at hi
  have ha:i / y.pn<y.pn:=Nat.div_lt_of_lt_mul hi;have hb:i % y.pn<y.pn:=Nat.mod_lt _ (by omega);have e:i / y.pn*y.pn+i % y.pn=i:=by rw [Nat.mul_comm];exact Nat.div_add_mod i y.pn
  have:=h.way ha hb;rw [e] at this;exact this
theorem Sy.Ok.sm {y:Sy} (h:y.Ok):y.Sm:=by
 obtain ⟨⟨h1,h4⟩,hs,hh,hw⟩:=h.cn;obtain ⟨b1,b2,b3,b4⟩:=h.bds;have h16:y.pn*y.pn<=16:=zP (Nat.mul_le_mul h4 h4) (by omega);exact ⟨⟨by omega,by omega,by omega,by omega⟩,fun i hi=>by have:=b1 i hi;omega,fun i hi=>by have:=qv1 (b2 i hi);omega,fun i hi=>by have:=b3 i hi;omega,fun i hi=>by have:=b4 i hi;omega⟩
open Go.ChangeShapes Go.WideShapes Go.ChangeAt
theorem qai.base {z:Bool} {w:World} {B B':Nat} {y:Sy} {v:Value} (o:qai z w B y v) (h:B'<=B):qai z w B' y v:=by
 obtain ⟨c,vp,vs,vw,vh,up,us,uw,uh,e,o⟩:=o;exact ⟨c,vp,vs,vw,vh,up,us,uw,uh,e,o.p.mono fun _ q _=>⟨zP h q.1,q.2⟩,o.s.mono fun _ q _=>⟨zP h q.1,q.2⟩,o.t.mono fun _ q _=>⟨zP h q.1,q.2⟩,o.h.mono fun _ q _=>⟨zP h q.1,q.2⟩⟩
theorem qai.setBelow {z:Bool} {w:World} {B:Nat} {y:Sy} {v:Value} (o:qai z w B y v) {N:Nat} (h:N<B) (j:Nat) (u:Value):qai z (w.setCell (aQ N j) u) B y v:=by
 obtain ⟨c,vp,vs,vw,vh,up,us,uw,uh,e,o⟩:=o
 have hk:∀ i k,Cl B c i k->k<w.heap.size->(w.setCell ⟨N,j,none⟩ u).heap[k]? = w.heap[k]?:=fun i k q _=>zO _ _ _ _ fun e=>by
  have e:k=N:=e;have:=q.1;omega
 exact ⟨c,vp,vs,vw,vh,up,us,uw,uh,e,o.p.keep (hk 1),o.s.keep (hk 2),o.t.keep (hk 3),o.h.keep (hk 4)⟩
theorem qai.zero {z:Bool} (w:World) (B:Nat) (y:Sy):qai z w B { y with pn:=0,sn:=0,wn:=0,hn:=0 } (sysV none 0 0 none 0 0 none 0 0 none 0 0):=
 ⟨fun _=>0,_,_,_,_,fun _=>.slice none 0 0,fun _=>.slice none 0 0,fun _=>.slice none 0 0,fun _=>.slice none 0 0,rfl,LL.nil _ _ _ _ _ _ _ _,LS.nil _ _ _ _,LL.nil _ _ _ _ _ _ _ _,LL.nil _ _ _ _ _ _ _ _⟩
theorem qai.form {z:Bool} {w:World} {B:Nat} {y:Sy} {v:Value} (o:qai z w B y v):∃ pa pc sa sc wa wc ha hc,v=sysV pa y.pn pc sa y.sn sc wa y.wn wc ha y.hn hc:=by
 obtain ⟨c,vp,vs,vw,vh,up,us,uw,uh,rfl,o⟩:=o;obtain ⟨pa,pc,rfl⟩:=zU o.p.row;obtain ⟨sa,sc,rfl⟩:=zU o.s.row;obtain ⟨wa,wc,rfl⟩:=zU o.t.row;obtain ⟨ha,hc,rfl⟩:=zU o.h.row;exact ⟨pa,pc,sa,sc,wa,wc,ha,hc,rfl⟩
theorem qov {g:Nat->I5} {len:Nat} {eh eh':Nat->E3}:∀ {k:Nat},(∀ i,i<k->eh' i=eh i)->rp g len eh' k=rp g len eh k
 | 0,_=>rfl
 | k+1,h=>by
  show (rp g len eh' k).bind (qe5 g len (eh' k))=(rp g len eh k).bind (qe5 g len (eh k));rw [qov fun i hi=>h i (by omega),h k (by omega)]
theorem qh2 {eh eh':Nat->E3} {kd pr:Int}:∀ {k:Nat},(∀ i,i<k->eh' i=eh i)->plN eh' kd pr k=plN eh kd pr k
 | 0,_=>rfl
 | k+1,h=>by
  have e:=qh2 (kd:=kd) (pr:=pr) (k:=k) fun i hi=>h i (by omega)
  have hh:hitB eh' kd pr k=hitB eh kd pr k:=by
   unfold hitB;rw [h k (by omega)]
  unfold plN;rw [e,hh]
theorem qr2 {eh:Nat->E3} {kd pr:Int}:∀ {k i:Nat},i ∈ plN eh kd pr k->i<k
 | 0,i,h=>by simp [plN] at h
 | k+1,i,h=>by
  unfold plN at h
  split at h
  ·simp only [List.mem_append,List.mem_singleton] at h
   rcases h with h | h
   ·have:=qr2 h
    omega
   ·omega
  ·have:=qr2 h
   omega
theorem qqb {eh eh':Nat->E3} {kd pr:Int} {k:Nat} (h:∀ i,i<k->eh' i=eh i):valL eh' kd pr k=valL eh kd pr k:=by
 unfold valL;rw [qh2 h];exact List.map_congr_left fun i hi=>by rw [h i (qr2 hi)]
theorem qhr {eh eh':Nat->E3} {kd pr:Int} {k:Nat} (h:∀ i,i<k->eh' i=eh i):cnt eh' kd pr k=cnt eh kd pr k:=by
 unfold cnt;rw [qh2 h]
theorem qvl (eh:Nat->E3) (kd pr:Int) (k:Nat):cnt eh kd pr k=(valL eh kd pr k).length:=by simp [cnt,valL]
theorem qsm {eh:Nat->E3} {kd pr:Int} {n:Nat} {x:E3}:valL (fun i=>if i=n then x else eh i) kd pr (n+1)=valL eh kd pr n ++ (if x.k=kd/\x.q=pr then [x.v] else []):=by
 have e:valL (fun i=>if i=n then x else eh i) kd pr n=valL eh kd pr n:=qqb fun i hi=>by rw [if_neg (by omega)]
 by_cases h:x.k=kd/\x.q=pr
 ·have hh:hitB (fun i=>if i=n then x else eh i) kd pr n=true:=by
   rw [qc9];simp only [if_true];exact h
  rw [qkg hh,e,if_pos h];simp
 ·have hh:hitB (fun i=>if i=n then x else eh i) kd pr n=false:=by
   rcases zK (hitB (fun i=>if i=n then x else eh i) kd pr n) with t | t
   ·rw [qc9] at t
    simp only [if_true] at t;exact absurd t h
   ·exact t
  rw [qhf hh,e,if_neg h,List.append_nil]
theorem qiv {H H':Nat->I2}:∀ {n:Nat},(∀ i,i<n->H' i=H i)->numL H' n=numL H n
 | 0,_=>rfl
 | n+1,h=>by
  unfold numL;rw [qiv fun i hi=>h i (by omega),h n (by omega)]
theorem qry (H:Nat->I2) (n:Nat) (v:Int):numL (fun i=>if i=n then ⟨false,v⟩ else H i) (n+1)=numL H n ++ [v]:=by
 rw [qf0 (by simp)];rw [qiv (H:=H) fun i hi=>by rw [if_neg (by omega)]];simp
theorem qgj {H:Nat->I2} (h0:(H 0).m=false):∀ n,numL H (n+1)=(H 0).v :: numL (fun i=>H (i+1)) n
 | 0=>by rw [qf0 h0];rfl
 | n+1=>by
  rw [numL];rw [qgj h0 n]
  conv=>rhs;rw [numL]
  split <;> simp
theorem Hs.Put.more {x x':Hs} (hn:x'.n=x.n) (hl:∀ j,x.l j<=x'.l j) (he:∀ j i,i<x.l j->x'.e j i=x.e j i) {d:Nat->Nat} (h:x.Put d):x'.Put d:=by
 induction h with
 | start=>exact .start
 | next hd hp hc ih=>
  rename_i d p;refine .next ih (by omega) ⟨zL hc.1 (hl p),fun hk=>?_⟩;have e:=he p (d p) hc.1;rw [e] at hk ⊢;have hle:=hd.le;rw [qhr (fun i hi=>he p i (Nat.lt_trans hi hc.1)),qhr (fun i hi=>he _ i (zL hi (hle _)))];exact hc.2 hk
theorem qsq {a b p q n:Nat} (hb:b<n) (hq:q<n) (h:a*n+b=p*n+q):a=p/\b=q:=by
 have h1:(a*n+b) / n=a:=by rw [Nat.mul_comm,Nat.mul_add_div (by omega),Nat.div_eq_of_lt hb,Nat.add_zero]
 have h2:(p*n+q) / n=p:=by rw [Nat.mul_comm,Nat.mul_add_div (by omega),Nat.div_eq_of_lt hq,Nat.add_zero]
 have h3:a=p:=by rw [<- h1,<- h2,h]
 subst h3;exact ⟨rfl,by omega⟩
theorem qow {a b p q n:Nat} (h1:a=p) (h2:q=b):a*n+b=p*n+q:=by rw [h1,h2]
theorem Sy.Ok.next {y:Sy} (h:y.Ok) {p:Nat} (hp:p<y.pn) (hc:(y.sS p).c=0):(y.nk p=1\/y.nk p=2\/y.nk p=3\/y.nk p=4)/\(y.nk p≠2->y.nk p≠3->y.nq p=0)/\(y.nk p=2->numB (y.nv p)=true):=by
 have hr:=h.right hp hc;rw [<- hc] at hr;have e1:y.nk p=evK (y.pH p (y.sS p).p.toNat).o:=if_pos hr;have e2:y.nq p=evP (y.pH p (y.sS p).p.toNat).o (y.pH p (y.sS p).p.toNat).n:=if_pos hr;have e3:y.nv p=evW (y.pH p (y.sS p).p.toNat).o (y.pH p (y.sS p).p.toNat).a (y.sS p).rs:=if_pos hr;obtain ⟨hpr,hs,-⟩:=qbc hr;obtain ⟨⟨a1,a2,a3,a4,ers,n1,n2,n3,n4⟩,⟨k,ek,hk⟩,-,-⟩:=qb1 hs;have ek':(y.sS p).p.toNat=k:=by omega
 obtain ⟨-,-,⟨m0,m3⟩,-⟩:=qcd (qbw hpr hk);rw [ek'] at e1 e2 e3;refine ⟨?_,?_,?_⟩
 ·rw [e1]
  unfold evK
  split
  ·exact .inr (.inl rfl)
  ·split
   ·exact .inr (.inr (.inl rfl))
   ·split
    ·exact .inr (.inr (.inr rfl))
    ·exact .inl rfl
 ·intro h2 h3
  rw [e1] at h2 h3;rw [e2];unfold evK at h2 h3;unfold evP;by_cases e6:(y.pH p k).o=6
  ·rw [if_pos e6] at h2
   exact absurd rfl h2
  ·rw [if_neg e6] at h3 ⊢
   by_cases e7:(y.pH p k).o=7
   ·rw [if_pos e7] at h3
    exact absurd rfl h3
   ·rw [if_neg e7]
 ·intro h2
  rw [e1] at h2;rw [e3,ers]
  have e6:(y.pH p k).o=6:=by
   unfold evK at h2;by_cases e6:(y.pH p k).o=6
   ·exact e6
   ·rw [if_neg e6] at h2
    split at h2
    ·cases h2
    ·split at h2 <;> cases h2
  unfold evW;rw [if_pos e6];obtain ⟨j,ej⟩:∃ j:Nat,(y.pH p k).a=j:=⟨(y.pH p k).a.toNat,by omega⟩
  have hj:(y.pH p k).a.toNat<4:=by omega
  match (y.pH p k).a.toNat,hj with
  | 0,_=>exact n1
  | 1,_=>exact n2
  | 2,_=>exact n3
  | 3,_=>exact n4
structure Sy.Done (y:Sy) (p:Nat) (f:Int):Prop where
 run:(y.sS p).c=0
 room:y.hL p<200
 peer:0<=y.eq p f/\y.eq p f<(y.pn:Int)
 send:y.nk p=2->y.wL (p*y.pn+(y.eq p f).toNat)<12/\numB (y.ev p f)=true
 take:y.nk p=3->0<y.wL ((y.eq p f).toNat*y.pn+p)/\(y.wH ((y.eq p f).toNat*y.pn+p) 0).m=false/\(y.wH ((y.eq p f).toNat*y.pn+p) 0).v=y.ev p f/\numB (y.ev p f)=true
 can:doB (y.pH p) (y.pL p) (y.sS p).p (y.sS p).rs (y.sS p).os (y.sS p).c (y.nk p) (y.eq p f) (y.ev p f)=true
theorem Sy.Ok.done {y:Sy} (h:y.Ok) {p:Nat} (hp:p<y.pn) {f:Int} (hc:cmS y p f=0):y.Done p f:=by
 unfold cmS at hc;have h4:y.pn<=4:=h.cn.1.2;have h1:1<=y.pn:=h.cn.1.1;by_cases c0:(y.sS p).c=0
 case neg=>
  rw [if_pos c0] at hc;cases hc
 rw [if_neg (by simpa using c0)] at hc;by_cases c1:fuS y p (y.nk p) (y.nq p)=true
 ·rw [if_pos c1] at hc
  cases hc
 rw [if_neg c1] at hc
 have hfu:y.hL p<200/\(y.nk p=2->y.wL (p*y.pn+(y.nq p).toNat)<12):=by
  simp only [fuS,Bool.or_eq_true,decide_eq_true_eq,Bool.and_eq_true,beq_iff_eq,not_or,not_and] at c1;exact ⟨by omega,fun h2=>by have:=c1.2 h2;omega⟩
 obtain ⟨hk,hq0,hnv⟩:=h.next hp c0;by_cases k3:y.nk p=3
 ·rw [if_pos k3] at hc
  have eQ:y.eq p f=if y.nq p=9 then f else y.nq p:=if_pos k3
  rw [<- eQ] at hc;have eV:y.ev p f=(y.wH ((y.eq p f).toNat*y.pn+p) 0).v:=if_pos k3;unfold tkS at hc;by_cases b:belB (y.eq p f) y.pn=true
  case neg=>
   rw [if_neg b] at hc;cases hc
  rw [if_pos b] at hc;have hb:0<=y.eq p f/\y.eq p f<(y.pn:Int):=by simpa [belB] using b
  by_cases w0:y.wL ((y.eq p f).toNat*y.pn+p)=0
  ·rw [if_pos w0] at hc
   cases hc
  rw [if_neg w0] at hc;by_cases m0:(y.wH ((y.eq p f).toNat*y.pn+p) 0).m=true
  ·rw [if_pos m0] at hc
   cases hc
  have hv:numB (y.ev p f)=true:=by
   have:=(h.wa (y.eq p f).toNat (by omega) p hp).it 0 (by omega);simp only [qce,Bool.and_eq_true] at this;rw [eV];exact this.1
  refine ⟨c0,hfu.1,hb,(fun h2=>by rw [k3] at h2;cases h2),fun _=>⟨by omega,by simpa using m0,eV.symm,hv⟩,?_⟩;have e3:nxK (y.pH p) (y.pL p) (y.sS p).p (y.sS p).rs (y.sS p).os (y.sS p).c=3:=k3;unfold doB canB;rw [if_pos e3,k3,hv];simp only [beq_self_eq_true,Bool.true_and];by_cases e9:y.nq p=9
  ·have e9':nxP (y.pH p) (y.pL p) (y.sS p).p (y.sS p).rs (y.sS p).os (y.sS p).c=9:=e9
   rw [if_pos e9'];simp only [belB,decide_eq_true_eq];omega
  ·have e9':¬ nxP (y.pH p) (y.pL p) (y.sS p).p (y.sS p).rs (y.sS p).os (y.sS p).c=9:=e9
   rw [if_neg e9',eQ,if_neg e9];simp [Sy.nq]
 ·have eQ:y.eq p f=y.nq p:=if_neg k3
  have eV:y.ev p f=y.nv p:=if_neg k3
  have hpe:0<=y.nq p/\y.nq p<(y.pn:Int):=by
   by_cases k2:y.nk p=2
   ·exact h.peer hp k2
   ·rw [hq0 k2 k3]
    omega
  refine ⟨c0,hfu.1,by rw [eQ];exact hpe,fun h2=>⟨by rw [eQ];exact hfu.2 h2,by rw [eV];exact hnv h2⟩,fun h3=>absurd h3 k3,?_⟩;have e3:¬ nxK (y.pH p) (y.pL p) (y.sS p).p (y.sS p).rs (y.sS p).os (y.sS p).c=3:=k3;have e0:y.nk p≠0:=by omega
  unfold doB canB;rw [if_neg e3,eQ,eV];simp only [Bool.and_eq_true,bne_iff_ne,beq_iff_eq];exact ⟨e0,rfl,rfl,rfl⟩
theorem Sy.Ok.step {y:Sy} (h:y.Ok) {p:Nat} (hp:p<y.pn) {f:Int} (hc:cmS y p f=0):(y.step p f).Ok:=by
 have D:=h.done hp hc;have e:y.step p f=(y.way p (y.nk p) (y.eq p f) (y.ev p f)).evt p (y.nk p) (y.eq p f) (y.ev p f):=if_pos hc;rw [e];obtain ⟨q,hq⟩:∃ q:Nat,y.eq p f=q:=⟨(y.eq p f).toNat,by have:=D.peer;omega⟩
 have hqn:q<y.pn:=by have:=D.peer;omega
 have D':=D;obtain ⟨run,room,peer,send,take,can⟩:=D;rw [hq,Int.toNat_natCast] at send take;rw [hq] at can ⊢;generalize hV:y.ev p f=V at *;obtain ⟨kk,-,-⟩:=h.next hp run;generalize hK:y.nk p=K at *;clear hV hK e hc hq peer D'
 -- what happened to each,now
 have hH:∀ a kd pr,valL (((y.way p K q V).evt p K q V).hH a) kd pr (((y.way p K q V).evt p K q V).hL a)=valL (y.hH a) kd pr (y.hL a) ++ (if a=p/\K=kd/\(q:Int)=pr then [V] else []):=by
  intro a kd pr;show valL (if a=p then (fun i=>if i=y.hL p then (⟨K,q,V⟩:E3) else y.hH p i) else y.hH a) kd pr (if a=p then y.hL p+1 else y.hL a)=_;by_cases ea:a=p
  ·subst ea
   simp only [if_true,true_and];exact qsm
  ·rw [if_neg ea,if_neg ea,if_neg (fun h=>ea h.1),List.append_nil]
 refine ⟨h.cn,h.pr,fun a ha=>?_,fun a ha i hi=>?_,fun a ha b hb=>?_,?_⟩
 ·show repO (y.pH a) (y.pL a) (if a=p then (fun i=>if i=y.hL p then (⟨K,q,V⟩:E3) else y.hH p i) else y.hH a) (if a=p then y.hL p+1 else y.hL a)=some (if a=p then doS (y.pH p) (y.pL p) (y.sS p).p (y.sS p).rs (y.sS p).os (y.sS p).c K q V else y.sS a)
  by_cases ea:a=p
  ·subst ea
   simp only [if_true];have h0:=qbm (h.rp a hp);unfold repO;rw [if_pos ⟨h0.1,by omega⟩];have hr:Go.Proofs.YtgkocghddlolkaaGreatDoor.rp (y.pH a) (y.pL a) (fun i=>if i=y.hL a then (⟨K,q,V⟩:E3) else y.hH a i) (y.hL a)=some (y.sS a):=(qov fun i hi=>by rw [if_neg (by omega)]).trans h0.2.2;have:=qr5 hr (by simpa using can);simpa using this
  ·rw [if_neg ea,if_neg ea,if_neg ea]
   exact h.rp a ha
 ·have hi':i<(if a=p then y.hL p+1 else y.hL a):=hi
  show ((if a=p then (fun i=>if i=y.hL p then (⟨K,q,V⟩:E3) else y.hH p i) else y.hH a) i).q<(y.pn:Int);by_cases ea:a=p
  ·subst ea
   simp only [if_true] at hi' ⊢;by_cases ei:i=y.hL a
   ·rw [if_pos ei]
    show (q:Int)<_;omega
   ·rw [if_neg ei]
    exact h.pe a hp i (by omega)
  ·rw [if_neg ea] at hi' ⊢
   exact h.pe a ha i hi'
 ·have wab:=h.wa a ha b hb
  rw [hH b 3 a,hH a 2 b];show WayP (((y.way p K q V)).wH (a*y.pn+b)) ((y.way p K q V).wL (a*y.pn+b)) _ _;by_cases k2:K=2
  ·subst k2
   rw [Sy.way_send,if_neg (fun h=>by have:=h.2.1;omega),List.append_nil];show WayP (if a*y.pn+b=p*y.pn+q then (fun i=>if i=y.wL (p*y.pn+q) then ⟨false,V⟩ else y.wH (p*y.pn+q) i) else y.wH (a*y.pn+b)) (if a*y.pn+b=p*y.pn+q then y.wL (p*y.pn+q)+1 else y.wL (a*y.pn+b)) _ _;by_cases ew:a*y.pn+b=p*y.pn+q
   ·obtain ⟨rfl,rfl⟩:=qsq hb hqn ew
    simp only [if_true];rw [if_pos ⟨trivial,trivial,trivial⟩];obtain ⟨s1,s2⟩:=send rfl;refine ⟨fun i hi=>?_,by omega,?_⟩
    ·by_cases ei:i=y.wL (a*y.pn+b)
     ·rw [if_pos ei]
      simp [qce,s2]
     ·rw [if_neg ei]
      exact wab.it i (by omega)
    ·rw [qry,<- List.append_assoc,wab.eq]
   ·rw [if_neg ew,if_neg ew,if_neg (fun h=>ew (qow h.1 (Int.ofNat_inj.1 h.2.2))),List.append_nil]
    exact wab
  ·by_cases k3:K=3
   ·subst k3
    rw [Sy.way_take,if_neg (c:=a=p/\(3:Int)=2/\_) (fun h=>by have:=h.2.1;omega),List.append_nil];show WayP (if a*y.pn+b=q*y.pn+p then (fun i=>y.wH (q*y.pn+p) (i+1)) else y.wH (a*y.pn+b)) (if a*y.pn+b=q*y.pn+p then y.wL (q*y.pn+p) - 1 else y.wL (a*y.pn+b)) _ _;by_cases ew:a*y.pn+b=q*y.pn+p
    ·obtain ⟨rfl,rfl⟩:=qsq hb hp ew
     simp only [if_true];rw [if_pos ⟨trivial,trivial,trivial⟩];obtain ⟨t1,t2,t3,-⟩:=take rfl;obtain ⟨m,em⟩:∃ m,y.wL (a*y.pn+b)=m+1:=⟨y.wL (a*y.pn+b) - 1,by omega⟩
     have weq:=wab.eq;have wle:=wab.le;have wit:=wab.it;rw [em] at weq wle wit ⊢;rw [Nat.add_sub_cancel];refine ⟨fun i hi=>wit (i+1) (by omega),by omega,?_⟩;rw [qgj t2,t3] at weq;rw [List.append_assoc];exact weq
    ·rw [if_neg ew,if_neg ew,if_neg (fun h=>ew (qow (Int.ofNat_inj.1 h.2.2).symm h.1.symm)),List.append_nil]
     exact wab
   ·rw [Sy.way_no y p k2 k3,if_neg (fun h=>k3 h.2.1),if_neg (fun h=>k2 h.2.1),List.append_nil,List.append_nil]
    exact wab
 ·obtain ⟨d,hd,hall⟩:=h.ro
  have hd':((y.way p K q V).evt p K q V).hs.Put d:=by
   refine Hs.Put.more (x:=y.hs) (x':=((y.way p K q V).evt p K q V).hs) rfl (fun j=>?_) (fun j i hi=>?_) hd
   ·show y.hL j<=if j=p then y.hL p+1 else y.hL j
    by_cases ej:j=p
    ·rw [if_pos ej,ej];omega
    ·rw [if_neg ej];exact Nat.le_refl _
   ·have hi':i<y.hL j:=hi
    show (if j=p then (fun i=>if i=y.hL p then (⟨K,q,V⟩:E3) else y.hH p i) else y.hH j) i=y.hH j i;by_cases ej:j=p
    ·subst ej
     rw [if_pos rfl,if_neg (by omega)]
    ·rw [if_neg ej]
  have hdp:d p=y.hL p:=hall p hp
  have epH:∀ a,a≠p->((y.way p K q V).evt p K q V).hs.e a=y.hH a:=fun a ha=>by
   show (if a=p then _ else y.hH a)=_;rw [if_neg ha]
  have epp:((y.way p K q V).evt p K q V).hs.e p=fun i=>if i=y.hL p then (⟨K,q,V⟩:E3) else y.hH p i:=by
   show (if p=p then _ else y.hH p)=_;rw [if_pos rfl];rfl
  have elp:((y.way p K q V).evt p K q V).hs.l p=y.hL p+1:=by
   show (if p=p then _ else y.hL p)=_;rw [if_pos rfl];rfl
  have ece:∀ a kd pr,a<y.pn->cnt (((y.way p K q V).evt p K q V).hs.e a) kd pr (d a)=(valL (y.hH a) kd pr (y.hL a)).length:=fun a kd pr ha=>by
   have hda:d a=y.hL a:=hall a ha;rw [hda,<- qvl];refine qhr fun i hi=>?_;by_cases ea:a=p
   ·subst ea
    rw [epp];show (if i=y.hL a then (⟨K,q,V⟩:E3) else y.hH a i)=y.hH a i;rw [if_neg (by omega)]
   ·rw [epH a ea]
  refine ⟨up d p,.next hd' hp ⟨by rw [elp,hdp];omega,fun hk=>?_⟩,fun a ha=>?_⟩
  ·have ee:((y.way p K q V).evt p K q V).hs.e p (d p)=⟨K,q,V⟩:=by rw [epp,hdp];exact if_pos rfl
   rw [ee] at hk ⊢;have hk':K=3:=hk;show cnt _ 3 (q:Int) _<cnt (((y.way p K q V).evt p K q V).hs.e (q:Int).toNat) 2 p (d (q:Int).toNat);rw [Int.toNat_natCast,ece p 3 q hp,ece q 2 p hqn];obtain ⟨t1,t2,-⟩:=take hk';obtain ⟨m,em⟩:∃ m,y.wL (q*y.pn+p)=m+1:=⟨y.wL (q*y.pn+p) - 1,by omega⟩
   have weq:=(h.wa q hqn p hp).eq;rw [em,qgj t2] at weq;have:=congrArg List.length weq;simp only [List.length_append,List.length_cons] at this;omega
  ·have hda:d a=y.hL a:=hall a ha
   by_cases ea:a=p
   ·subst ea
    rw [qbi,elp,hdp]
   ·rw [up_other ea,hda]
    show y.hL a=if a=p then _ else y.hL a
    rw [if_neg ea]
theorem qjx (eh:Nat->E3) (kd pr:Int):∀ (n j q:Nat),(plN eh kd pr n)[j]? = some q->q<n/\hitB eh kd pr q=true/\cnt eh kd pr q=j
 | 0,j,q,h=>by simp [plN] at h
 | n+1,j,q,h=>by
  rcases zK (hitB eh kd pr n) with t | t
  ·rw [plN,if_pos t] at h
   by_cases hj:j<(plN eh kd pr n).length
   ·rw [List.getElem?_append_left hj] at h
    obtain ⟨h1,h2,h3⟩:=qjx eh kd pr n j q h;exact ⟨by omega,h2,h3⟩
   ·rw [List.getElem?_append_right (by omega)] at h
    have hj2:j - (plN eh kd pr n).length=0:=by
     by_cases e:j - (plN eh kd pr n).length=0
     ·exact e
     ·rw [List.getElem?_eq_none (by simp;omega)] at h
      cases h
    rw [hj2] at h;simp at h;subst h;refine ⟨by omega,t,?_⟩;unfold cnt;omega
  ·rw [plN,if_neg (by rw [t];decide)] at h
   obtain ⟨h1,h2,h3⟩:=qjx eh kd pr n j q h;exact ⟨by omega,h2,h3⟩
theorem qlj {eh:Nat->E3} {kd pr:Int} {len n:Nat} (h:n<cnt eh kd pr len):∃ q:Nat,nthV eh kd pr len n=q/\q<len/\hitB eh kd pr q=true/\cnt eh kd pr q=n:=by
 have hl:n<(plI eh kd pr len).length:=by rw [qcx];exact h
 obtain ⟨q,h1,h2,h3⟩:=qlk eh kd pr len n hl;obtain ⟨-,h4,h5⟩:=qjx eh kd pr len n q h3;refine ⟨q,?_,h2,h4,h5⟩;unfold nthV;rw [if_pos (by simp [belB];omega),Int.toNat_natCast];exact h1
theorem qrx {eh:Nat->E3} {kd pr:Int} {len n:Nat} (h:cnt eh kd pr len<=n):nthV eh kd pr len n = -1:=by
 unfold nthV;rw [if_neg];have hl:(plI eh kd pr len).length<=n:=by rw [qcx];exact h
 simp [belB];omega
theorem qrw {eh:Nat->E3} {kd pr:Int} {len len' n:Nat} (h:n<cnt eh kd pr len) (hl:len<=len'):nthV eh kd pr len' n=nthV eh kd pr len n:=by
 obtain ⟨q,h1,h2,h3,h4⟩:=qlj h;rw [h1];exact qhe (by omega) h3 (by rw [qcx];show (n:Int)=(cnt eh kd pr q:Nat);omega)
structure Sy.Cut (y:Sy) (c:List Int):Prop where
 len:c.length=y.pn
 le:∀ p,p<y.pn->0<=zi c p/\zi c p<=(y.hL p:Int)
noncomputable def cutB (y:Sy) (c:List Int):Bool:=y.okB && qB (y.Cut c)
def cN (c:List Int) (p:Nat):Nat:=(zi c p).toNat
def sN (y:Sy) (c:Nat->Nat) (a b:Nat):Nat:=cnt (y.hH a) 2 b (c a)
def tN (y:Sy) (c:Nat->Nat) (a b:Nat):Nat:=cnt (y.hH b) 3 a (c b)
def Sy.Wh (y:Sy) (c:Nat->Nat):Prop:=∀ a,a<y.pn->∀ b,b<y.pn->tN y c a b<=sN y c a b
def ovN (y:Sy) (c:Nat->Nat) (a b:Nat):Int:=nthV (y.hH b) 3 a (c b) (sN y c a b:Nat)
theorem qu6 {y:Sy} {c:Nat->Nat} {a b:Nat} (h:tN y c a b<=sN y c a b):ovN y c a b = -1:=qrx h
theorem qm5 {y:Sy} {c:Nat->Nat} {a b:Nat} (h:¬ tN y c a b<=sN y c a b):∃ k:Nat,ovN y c a b=k/\k<c b/\hitB (y.hH b) 3 a k=true/\cnt (y.hH b) 3 a k=sN y c a b:=qlj (by unfold tN at h;omega)
theorem qtw {y:Sy} {c:Nat->Nat} {a b:Nat} (h:¬ tN y c a b<=sN y c a b) (hl:c b<=y.hL b):nthV (y.hH b) 3 a (y.hL b) (sN y c a b:Nat)=ovN y c a b:=qrw (by unfold tN at h;omega) hl
theorem qfe {y:Sy} {c:Nat->Nat} {a b:Nat}:ovN y c a b<0 ↔ tN y c a b<=sN y c a b:=by
 refine ⟨fun h=>?_,fun h=>by rw [qu6 h];decide⟩;by_cases hc:tN y c a b<=sN y c a b
 ·exact hc
 ·obtain ⟨k,e,-⟩:=qm5 hc
  omega
noncomputable def whB (y:Sy) (c:List Int):Bool:=cutB y c && qB (y.Wh (cN c))
structure Sy.Cl (y:Sy) (c e:List Int):Prop where
 len:e.length=y.pn
 le:∀ p,p<y.pn->0<=zi e p/\zi e p<=zi c p
 gr:∀ d:Nat->Nat,(∀ p,p<y.pn->(d p:Int)<=zi c p)->y.Wh d->∀ p,p<y.pn->(d p:Int)<=zi e p
theorem Sy.Cl.start {y:Sy} {c:List Int} (h:y.Cut c):y.Cl c c:=⟨h.len,fun p hp=>⟨(h.le p hp).1,Int.le_refl _⟩,fun _ h _=>h⟩
theorem Sy.Cl.cut {y:Sy} {c e:List Int} (h:y.Cl c e) (hc:y.Cut c):y.Cut e:=⟨h.len,fun p hp=>⟨(h.le p hp).1,Int.le_trans (h.le p hp).2 (hc.le p hp).2⟩⟩
theorem qiz {e:List Int} {b p:Nat} {k:Int} (hb:b<e.length):zi (e.set b k) p=if p=b then k else zi e p:=by
 by_cases h:p=b
 ·subst h
  rw [if_pos rfl,qjd e p k hb]
 ·rw [if_neg h,qmo e p b k h]
theorem Sy.Cl.next {y:Sy} {c e:List Int} {a b:Nat} (h:y.Cl c e) (ha:a<y.pn) (hb:b<y.pn) (ho:0<=ovN y (cN e) a b):y.Cl c (e.set b (ovN y (cN e) a b))/\0<=ovN y (cN e) a b/\ovN y (cN e) a b<zi e b:=by
 have hn:¬ tN y (cN e) a b<=sN y (cN e) a b:=fun hc=>by
  have:=qfe.2 hc;omega
 obtain ⟨k,e1,e2,e3,e4⟩:=qm5 hn;have eb:=(h.le b hb)
 have hkb:(k:Int)<zi e b:=by unfold cN at e2;omega
 refine ⟨⟨by rw [List.length_set];exact h.len,fun p hp=>?_,fun d hd hw p hp=>?_⟩,ho,by omega⟩
 ·rw [qiz (by rw [h.len];exact hb)]
  by_cases ep:p=b
  ·subst ep
   rw [if_pos rfl];omega
  ·rw [if_neg ep]
   exact h.le p hp
 ·rw [qiz (by rw [h.len];exact hb)]
  have h0:=h.gr d hd hw p hp;by_cases ep:p=b
  ·subst ep
   rw [if_pos rfl,e1];by_cases hc:(d p:Int)<=k
   ·exact hc
   ·exfalso
    have h1 : sN y d a p ≤ sN y (cN e) a p := qc5 _ _ _ (by
     have:=h.gr d hd hw a ha;unfold cN
     omega)
    have h2:cnt (y.hH p) 3 a (k+1)<=tN y d a p:=qc5 _ _ _ (by omega);rw [qd9 e3,e4] at h2;have:=hw a ha p hb;omega
  ·rw [if_neg ep]
   exact h0
theorem Sy.Cl.same {y:Sy} {c e e':List Int} (h:y.Cl c e) (hw:y.Wh (cN e)) (h':y.Cl c e') (hw':y.Wh (cN e')):e=e':=by
 refine qnz (h.len.trans h'.len.symm) fun p hp=>?_;have hp':p<y.pn:=by rw [<- h.len];exact hp
 have h1:=h.gr (cN e') (fun q hq=>by have:=h'.le q hq;unfold cN;omega) hw' p hp';have h2:=h'.gr (cN e) (fun q hq=>by have:=h.le q hq;unfold cN;omega) hw p hp';have h3:=h.le p hp';have h4:=h'.le p hp';unfold cN at h1 h2;omega
open Classical in
noncomputable def clS (y:Sy) (c:List Int):List Int:=if h:cutB y c=true/\∃ e,y.Cl c e/\y.Wh (cN e) then h.2.choose else []
theorem qwi {y:Sy} {c:List Int} (h:cutB y c=false):clS y c=[]:=by
 unfold clS;rw [dif_neg];rw [h];simp
theorem qi6 {y:Sy} {c e:List Int} (h:cutB y c=true) (h1:y.Cl c e) (h2:y.Wh (cN e)):clS y c=e:=by
 unfold clS;have hx:cutB y c=true/\∃ e,y.Cl c e/\y.Wh (cN e):=⟨h,e,h1,h2⟩
 rw [dif_pos hx];exact hx.2.choose_spec.1.same hx.2.choose_spec.2 h1 h2
theorem qch {y:Sy} {c:List Int} (h:cutB y c=true):y.Ok/\y.Cut c:=by
 unfold cutB at h;simp only [Bool.and_eq_true] at h;exact ⟨Sy.ok_of h.1,qoq.1 h.2⟩
noncomputable def flS (y:Sy):List Int:=if y.okB=true then (List.range y.hn).map fun p=>(y.hL p:Int) else []
def flT (y:Sy) (k:Nat):List Int:=(List.range k).map fun p=>(y.hL p:Int)
theorem qn1 (y:Sy) (k:Nat):flT y (k+1)=flT y k ++ [(y.hL k:Int)]:=by
 unfold flT;rw [List.range_succ,List.map_append];rfl
theorem qci (y:Sy) (k:Nat):(flT y k).length=k:=by simp [flT]
open Go.Sort
theorem Sl.all {w:World} {a0:Option Addr} {xs:List Int} (h:Sl w a0 xs) (hn:0<xs.length):∃ b off,a0=some ⟨b,off,none⟩/\b<w.heap.size/\∀ i,i<xs.length->w.cell? ⟨b,off+i,none⟩=some (.int .i64 (zi xs i)):=by
 rcases h with rfl | h
 ·simp at hn
 ·exact h
theorem RowS.all {w:World} {a0:Option Addr} {n:Nat} {f:Nat->Value} (h:RowS w a0 n f) (hn:0<n):∃ b off,a0=some ⟨b,off,none⟩/\b<w.heap.size/\∀ i,i<n->w.cell? ⟨b,off+i,none⟩=some (f i):=by
 rcases h with rfl | h
 ·omega
 ·exact h
theorem BoxC.belowB {w w':World} {b:Nat} {v0 v1 v2 v3:Value} {B:Nat} (h:BoxC w b v0 v1 v2 v3) (hb:Below B w w') (hB:b<B):BoxC w' b v0 v1 v2 v3:=by
 obtain ⟨h0,h1,h2,h3⟩:=h;exact ⟨(hb.cell (p:=(aQ b 0)) hB).trans h0,(hb.cell (p:=(aQ b 1)) hB).trans h1,(hb.cell (p:=(aQ b 2)) hB).trans h2,(hb.cell (p:=(aQ b 3)) hB).trans h3⟩
theorem Sy.Cut.nat {y:Sy} {c:List Int} (h:y.Cut c) {p:Nat} (hp:p<y.pn):zi c p=(cN c p:Nat):=by
 have:=h.le p hp;unfold cN;omega
theorem Sy.Cut.leN {y:Sy} {c:List Int} (h:y.Cut c) {p:Nat} (hp:p<y.pn):cN c p<=y.hL p:=by
 have:=h.le p hp;unfold cN;omega
theorem qis (x:SysIn) (ca:Option Addr) (cc:Nat) (c:List Int) (a b:Nat) (w:World) (hG:SysG w x) (hcap:∀ i,i<x.hn->x.hL i<=x.hC i) (hO:x.y.Ok) (hC:x.y.Cut c) (hc:Sl w ca c) (ha:a<x.pn) (hb:b<x.pn):
  Calls prog 61 #[x.v,.slice ca c.length cc,.int .i64 a,.int .i64 b] w (rB w (.int .i64 (ovN x.y (cN c) a b))):=by
 have hhn:x.hn=x.pn:=hO.cn.2.2.1;have hah:a<x.hn:=by omega
 have hbh:b<x.hn:=by omega
 have hla:x.hL a<=200:=hO.hl200 ha;have hlb:x.hL b<=200:=hO.hl200 hb;have hka:cN c a<=x.hL a:=hC.leN ha;have hkb:cN c b<=x.hL b:=hC.leN hb;have eza:=hC.nat (p:=a) ha;have ezb:=hC.nat (p:=b) hb;have hcl:c.length=x.pn:=hC.len;have hcpa:=hcap a hah;have hcpb:=hcap b hbh;have HG:Hid (SysG w x):=hG;have HSl:Hid (Sl w ca c):=hc;have hac:(a:Int)<(c.length:Int):=by omega
 have hbc:(b:Int)<(c.length:Int):=by omega
 have ha':(a:Int)<(x.hn:Int):=by omega
 have hb':(b:Int)<(x.hn:Int):=by omega
 have HNo:Hid (tN x.y (cN c) a b<=sN x.y (cN c) a b->ovN x.y (cN c) a b = -1):=qu6;have HYes:Hid (¬ tN x.y (cN c) a b<=sN x.y (cN c) a b->nthV (x.hH b) 3 a (x.hL b) (sN x.y (cN c) a b:Nat)=ovN x.y (cN c) a b):=fun h=>qtw h hkb;have hsl:sN x.y (cN c) a b<=200:=zP (qkw _ _ _ _) (by omega);have htl:tN x.y (cN c) a b<=200:=zP (qkw _ _ _ _) (by omega);have ka:=qe0 (x.hA a) (x.hL a) (x.hC a) (cN c a) (by omega);have kb:=qe0 (x.hA b) (x.hL b) (x.hC b) (cN c b) (by omega);have HC1:Hid (∀ wx,Bw w wx->Calls prog 59 #[.slice (x.hA a) (cN c a) (x.hC a),.int .i64 2,.int .i64 b] wx (rB wx (.int .i64 (sN x.y (cN c) a b:Nat)))):=fun wx hb=>qcz (x.hA a) (cN c a) (x.hC a) (x.hH a) 2 b wx (by omega) (((hG.below hb).hi a hah).take (by omega));have HC2:Hid (∀ wx,Bw w wx->Calls prog 59 #[.slice (x.hA b) (cN c b) (x.hC b),.int .i64 3,.int .i64 a] wx (rB wx (.int .i64 (tN x.y (cN c) a b:Nat)))):=fun wx hb=>qcz (x.hA b) (cN c b) (x.hC b) (x.hH b) 3 a wx (by omega) (((hG.below hb).hi b hbh).take (by omega));have HNt:Hid (∀ wx,Bw w wx->Calls prog 99 #[.slice (x.hA b) (x.hL b) (x.hC b),.int .i64 3,.int .i64 a,.int .i64 (sN x.y (cN c) a b:Nat)] wx (rB wx (.int .i64 (nthV (x.hH b) 3 a (x.hL b) (sN x.y (cN c) a b:Nat))))):=fun wx hb=>qsc (x.hA b) (x.hL b) (x.hC b) (x.hH b) 3 a _ wx (by omega) ((hG.below hb).hi b hbh) (by omega) (by omega);generalize sN x.y (cN c) a b=sn at *;generalize tN x.y (cN c) a b=tn at *;generalize ovN x.y (cN c) a b=ov at *;generalize nthV (x.hH b) 3 a (x.hL b) (sn:Nat)=nv at *;have HR:Hid (a<c.length/\b<c.length/\a<x.hn/\b<x.hn/\zi c a=(cN c a:Nat)/\zi c b=(cN c b:Nat)):=⟨by omega,by omega,hah,hbh,eza,ezb⟩
 have BW:Hid (Bw w (w.alloc (x.oX))):=zT _ _;have NB:Hid (x.bX (w.alloc (x.oX)) w.heap.size):=BoxC.new w _ _ _ _ _;have hsl':(sn:Int)<=200:=by omega
 have htl':(tn:Int)<=200:=by omega
 clear hG hcap hO hC hc hhn hah hbh hcl eza ezb hcpa hcpb;obtain ⟨cb,co,rfl,-,-⟩:=HSl.all (by have:=HR.out;omega)
 have HSc:Hid (∀ wx,Bw w wx->∀ i,i<c.length->wx.cell? ⟨cb,co+i,none⟩=some (.int .i64 (zi c i))):=fun wx hb i hi=>by
  obtain ⟨b',o',e,-,h⟩:=(HSl.below hb).at hi;simp only [Option.some.injEq,Addr.mk.injEq] at e;obtain ⟨rfl,rfl,-⟩:=e;exact h
 have HRow:Hid (∃ hb ho,x.ha=some ⟨hb,ho,none⟩/\∀ wx,Bw w wx->∀ i,i<x.hn->wx.cell? ⟨hb,ho+i,none⟩=some (.slice (x.hA i) (x.hL i) (x.hC i))):=by
  obtain ⟨b1,o1,e1,-,-⟩:=HG.h.all (by have:=HR.out;omega);refine ⟨b1,o1,e1,fun wx hb i hi=>?_⟩;obtain ⟨b',o',e,h⟩:=(HG.below hb).h.at hi;rw [e1] at e;simp only [Option.some.injEq,Addr.mk.injEq] at e;obtain ⟨rfl,rfl,-⟩:=e;exact h
 obtain ⟨hbb,hoo,ehh,hrow⟩:=HRow.out;have HRw:Hid (∀ wx,Bw w wx->∀ i,i<x.hn->wx.cell? ⟨hbb,hoo+i,none⟩=some (.slice (x.hA i) (x.hL i) (x.hC i))):=hrow;have HE:Hid (x.ha=some (aQ hbb hoo)):=ehh;clear HRow hrow ehh
 go_enter func61,ntmps61
 go_upto_region 1 with fail
 generalize w.alloc (x.oX)=W2 at *;have b3:=NB.2.2.2;rw [HE.out] at b3;have q3:=cell_regrown b3;have qa:=cell_regrown (HRw.out W2 BW.out a HR.2.2.1);have qc:=cell_regrown ((HSc.out W2 BW.out a HR.1).trans (by rw [HR.2.2.2.2.1]));have HQ2:Hid (∀ d os,Bw w (grow (redrawn W2 d) os)):=fun d os=>BW.trans ((below_regrown W2 d os).mono BW.size);clear b3;refine wp_region_quiet_below (by kernel_rfl) (by kernel_rfl) ?_
 repeat (quiet_step (first|(go_at_call 59;exact Calls.regrown_of (HC1.out _ (HQ2.out _ _)))))
 refine wpQuiet_nil ?_;intro _ hw';obtain ⟨⟨dd,os⟩,hw''⟩:=hw';subst hw'';have B3:Hid (Bw w (grow (redrawn W2 dd) os)/\x.bX (grow (redrawn W2 dd) os) w.heap.size):=⟨HQ2.out dd os,NB.below (below_regrown W2 dd os)⟩
 generalize grow (redrawn W2 dd) os=w3 at *;clear q3 qa qc HQ2 BW NB HC1 ka;have b3:=B3.2.2.2.2;rw [HE.out] at b3;have q3:=cell_regrown b3;have qa:=cell_regrown (HRw.out w3 B3.1 b HR.2.2.2.1);have qc:=cell_regrown ((HSc.out w3 B3.1 b HR.2.1).trans (by rw [HR.2.2.2.2.2]));have HQ2:Hid (∀ d os,Bw w (grow (redrawn w3 d) os)):=fun d os=>B3.1.trans ((below_regrown w3 d os).mono B3.1.size);clear b3;go_upto_region 2 with fail
 refine wp_region_quiet_below (by kernel_rfl) (by kernel_rfl) ?_
 repeat (quiet_step (first|(go_at_call 59;exact Calls.regrown_of (HC2.out _ (HQ2.out _ _)))))
 refine wpQuiet_nil ?_;intro _ hw';obtain ⟨⟨dd,os⟩,hw''⟩:=hw';subst hw'';have B4:Hid (Bw w (grow (redrawn w3 dd) os)/\x.bX (grow (redrawn w3 dd) os) w.heap.size):=⟨HQ2.out dd os,B3.2.below (below_regrown w3 dd os)⟩
 generalize grow (redrawn w3 dd) os=w4 at *;clear q3 qa qc HQ2 B3 HC2 kb;by_cases hts:tn<=sn
 ·have hts':(tn:Int)<=(sn:Int):=by omega
  have HV:=HNo.out hts;clear HNo HYes;go_wp2;go_ret;exact ⟨qnb HV.symm,B4.1⟩
 ·have hts':¬ (tn:Int)<=(sn:Int):=by omega
  have HV:Hid (nv=ov):=HYes.out hts;clear HNo HYes;have b3:=B4.2.2.2.2;rw [HE.out] at b3;have qa:=HRw.out w4 B4.1 b HR.2.2.2.1;go_wp2_with fail
  refine (HNt.out w4 B4.1).mono ?_;rintro e w5 ⟨rfl,q5⟩;have B5:Hid (Bw w w5):=B4.1.trans (q5.mono B4.1.size);rw [HV.out];clear q5 b3 qa B4 HNt HV;go_wp2;go_ret;exact ⟨rfl,B5.out⟩
theorem qm3 (x:SysIn) (ca:Option Addr) (cc:Nat) (c:List Int) (w:World) (hG:SysG w x) (hcap:∀ i,i<x.hn->x.hL i<=x.hC i) (hO:x.y.Ok) (hC:x.y.Cut c) (hc:Sl w ca c):
  Calls prog 60 #[x.v,.slice ca c.length cc] w (rB w (.bool (qB (x.y.Wh (cN c))))):=by
 have hcl:c.length=x.pn:=hC.len;have h4:x.pn<=4:=hO.cn.1.2;have hl':(c.length:Int)<=4:=by omega
 have HQ:Hid (c.length=x.pn):=hcl;have HOv:Hid (∀ wx,Bw w wx->∀ a b,a<c.length->b<c.length->Calls prog 61 #[x.v,.slice ca c.length cc,.int .i64 (a:Nat),.int .i64 (b:Nat)] wx (rB wx (.int .i64 (ovN x.y (cN c) a b)))):=fun wx hb a b ha hb'=>qis x ca cc c a b wx (hG.below hb) hcap hO hC (hc.below hb) (by omega) (by omega);have BW:Hid (Bw w (w.alloc (x.oX))):=zT _ _;have NB:Hid (x.bX (w.alloc (x.oX)) w.heap.size):=BoxC.new w _ _ _ _ _;clear hG hcap hO hC hc hcl h4
 go_enter func60,ntmps60
 go_upto_region 1 with fail
 generalize w.alloc (x.oX)=W2 at *;go_wp2_with fail
 go_loopw [5] (fun i wr=>∃ k:Nat,k<=c.length/\i=.int .i64 k/\Hid (Bw w wr/\x.bX wr w.heap.size)/\Hid (∀ a,a<k->∀ b,b<c.length->tN x.y (cN c) a b<=sN x.y (cN c) a b)) (fun i _=>c.length - (intOf i).toNat)
 case atStart=>exact ⟨0,Nat.zero_le _,rfl,⟨BW.out,NB.out⟩,fun j hj=>by omega⟩
 case round=>
  clear BW NB;obtain ⟨k,hk,rfl,HB,HK⟩:=hrel;by_cases hlt:k<c.length
  ·have hlt':(k:Int)<(c.length:Int):=by omega
   go_wp2_with fail
   go_loopw [6] (fun i wr=>∃ j:Nat,j<=c.length/\i=.int .i64 j/\Hid (Bw w wr/\x.bX wr w.heap.size)/\Hid (∀ b,b<j->tN x.y (cN c) k b<=sN x.y (cN c) k b)) (fun i _=>c.length - (intOf i).toNat)
   case atStart=>exact ⟨0,Nat.zero_le _,rfl,HB.out,fun j hj=>by omega⟩
   case round=>
    clear HB;obtain ⟨j,hj,rfl,HB,HJ⟩:=hrel;by_cases hjt:j<c.length
    ·have hjt':(j:Int)<(c.length:Int):=by omega
     obtain ⟨b0,b1,b2,b3⟩:=HB.2;go_wp2_with fail
     refine (HOv.out _ HB.1 k j hlt hjt).mono ?_;rintro e w3 ⟨rfl,q3⟩;have B3:Hid (Bw w w3/\x.bX w3 w.heap.size):=⟨HB.1.trans (q3.mono HB.1.size),HB.2.below q3⟩
     have HN:Hid (ovN x.y (cN c) k j<0 ↔ tN x.y (cN c) k j<=sN x.y (cN c) k j):=qfe;generalize ovN x.y (cN c) k j=ov at *;clear q3 b0 b1 b2 b3 HB;by_cases ho:0<=ov
     ·have HV:Hid (qB (x.y.Wh (cN c))=false):=qat fun h=>by
       have h1:=HN.2 (h k (by have:=HQ.out;show k<x.pn;omega) j (by have:=HQ.out;show j<x.pn;omega));omega
      go_wp2;go_ret;rw [HV.out];exact ⟨rfl,B3.1⟩
     ·have HJ':Hid (∀ b,b<j+1->tN x.y (cN c) k b<=sN x.y (cN c) k b):=fun b hb=>by
       by_cases e:b=j
       ·subst e
        exact HN.1 (by omega)
       ·exact HJ.out b (by omega)
      clear HJ HN;go_wp2;go_roundw
      case rel=>exact ⟨j+1,by omega,by go_num,B3.out,HJ'.out⟩
      case measure=>simp [intOf];omega
    ·have HK':Hid (∀ a,a<k+1->∀ b,b<c.length->tN x.y (cN c) a b<=sN x.y (cN c) a b):=fun a ha b hb=>by
      by_cases e:a=k
      ·subst e
       exact HJ.out b (by omega)
      ·exact HK.out a (by omega) b hb
     clear HK HJ;go_wp2;go_roundw
     case rel=>exact ⟨k+1,by omega,by go_num,HB.out,HK'.out⟩
     case measure=>simp [intOf];omega
  ·have HV:Hid (qB (x.y.Wh (cN c))=true):=qay fun a ha b hb=>HK.out a (by have:=HQ.out;have h1:a<x.pn:=ha;omega) b (by have:=HQ.out;have h1:b<x.pn:=hb;omega)
   have B3:=HB.1;clear HK HB;go_wp2;go_ret;rw [HV.out];exact ⟨rfl,B3⟩
theorem qns (xs:List Int) (n k:Nat):zi (xs.drop n) k=zi xs (n+k):=by
 unfold zi;simp [List.getD_eq_getElem?_getD,List.getElem?_drop]
def wyL (h:Hs) (a b:Nat):List Int:=(valL (h.e a) 2 b (h.l a)).drop (cnt (h.e b) 3 a (h.l b))
def itL (l:List Int):Nat->I2:=fun j=>⟨false,zi l j⟩
def Sy.ah (y:Sy) (d:Nat->Nat):Hs:=⟨y.pn,d,y.hH⟩
noncomputable def wfB (h:Hs):Bool:=qB (∀ a,a<h.n->∀ b,b<h.n->(wyL h a b).length<=12)
def Sy.atY (y:Sy) (d:Nat->Nat):Sy where
 pn:=y.pn
 pL:=y.pL
 pH:=y.pH
 sn:=y.pn
 sS:=fun p=>resS (repO (y.pH p) (y.pL p) (y.hH p) (d p))
 wn:=y.pn*y.pn
 wL:=fun i=>(wyL (y.ah d) (i / y.pn) (i % y.pn)).length
 wH:=fun i=>itL (wyL (y.ah d) (i / y.pn) (i % y.pn))
 hn:=y.pn
 hL:=d
 hH:=y.hH
def Sy.nil (y:Sy):Sy:={ y with pn:=0,sn:=0,wn:=0,hn:=0 }
noncomputable def Sy.atW (y:Sy) (d:Nat->Nat):Sy:=if wfB (y.ah d)=true then y.atY d else y.nil
noncomputable def atB (y:Sy) (c:List Int):Bool:=whB y c && wfB (y.ah (cN c))
noncomputable def atS (y:Sy) (c:List Int):Sy:=if whB y c=true then y.atW (cN c) else y.nil
theorem qwb {a b n:Nat} (hb:b<n):(a*n+b) / n=a/\(a*n+b) % n=b:=by
 have hn:0<n:=by omega
 constructor
 ·rw [Nat.mul_comm,Nat.mul_add_div hn,Nat.div_eq_of_lt hb]
  omega
 ·rw [Nat.mul_comm,Nat.mul_add_mod]
  exact Nat.mod_eq_of_lt hb
theorem qfv (x:SysIn) (ca:Option Addr) (cc:Nat) (c:List Int) (w:World) (hG:SysG w x) (hL:x.Len) (hc:Sl w ca c) (hcl:c.length<=1048576) (hV:w.cell? (aQ 0 0)=some vT):
  Calls prog 45 #[x.v,.slice ca c.length cc] w (rB w (.bool (cutB x.y c))):=by
 have HG:Hid (SysG w x):=hG;have HC:Hid (Sl w ca c):=hc;have hl':(c.length:Int)<=1048576:=by omega
 have hh':(x.hn:Int)<=1048576:=by have:=hL.h.1;omega
 have HLh:Hid (∀ i,i<x.hn->x.hL i<=1048576):=hL.h.2;have HS:Hid (∀ wx,Bw w wx->Calls prog 9 #[x.v] wx (rB wx (.bool x.y.okB))):=fun wx hb=>qbp x wx (hG.below hb) hL ((hb.cell (p:=⟨0,0,none⟩) (zJ w _ hV)).trans hV);have BW:Hid (Bw w (w.alloc (x.oX))):=zT _ _;have NB:Hid (x.bX (w.alloc (x.oX)) w.heap.size):=BoxC.new w _ _ _ _ _;have HX:Hid (cutB x.y c=(x.y.okB && qB (x.y.Cut c))):=rfl;generalize cutB x.y c=R at *;clear hG hL hV hc
 go_enter func45,ntmps45
 go_wp2_with fail
 generalize w.alloc (x.oX)=W2 at *;refine (HS.out W2 BW.out).mono ?_;rintro e w1 ⟨rfl,q1⟩;have B1:Hid (Bw w w1/\x.bX w1 w.heap.size):=⟨BW.trans (q1.mono BW.size),NB.below q1⟩
 clear q1 BW NB HS
 rcases zK x.y.okB with t | t
 case inr=>
  have HV:Hid (R=false):=by
   show R=false;rw [HX.out,t];rfl
  rw [t];clear t HX;go_wp2;go_ret;rw [HV.out];exact ⟨rfl,B1.1⟩
 have HN:Hid (x.hn=x.pn):=(Sy.ok_of t).cn.2.2.1
 have HV:Hid (R=qB (x.y.Cut c)):=by
  show R=_;rw [HX.out,t];rfl
 rw [t];clear t HX;have b3:=B1.2.2.2.2
 rcases zK ((c.length:Int) != (x.hn:Int)) with t | t
 case inl=>
  have HZ:Hid (R=false):=by
   show R=false;rw [HV.out];refine qat fun h=>?_;have h1:c.length=x.pn:=h.len;rw [h1,HN.out] at t;simp at t
  clear HV;go_wp2;go_ret;rw [HZ.out];exact ⟨rfl,B1.1⟩
 have HQ:Hid (c.length=x.hn):=by
  have h:(c.length:Int)=(x.hn:Int):=by simpa using t
  show c.length=x.hn;omega
 go_wp2_with fail
 clear b3 t
 go_loopw [20] (fun i wr=>∃ k:Nat,k<=c.length/\i=.int .i64 k/\Hid (Bw w wr/\x.bX wr w.heap.size)/\Hid (∀ j,j<k->0<=zi c j/\zi c j<=(x.hL j:Int))) (fun i _=>c.length - (intOf i).toNat)
 case atStart=>exact ⟨0,Nat.zero_le _,rfl,B1.out,fun j hj=>by omega⟩
 case round=>
  clear B1;obtain ⟨k,hk,rfl,HB,HK⟩:=hrel;by_cases hlt:k<c.length
  ·have hlt':(k:Int)<(c.length:Int):=by omega
   have hkn:k<x.hn:=by have:=HQ.out;omega
   have hkn':(k:Int)<(x.hn:Int):=by omega
   obtain ⟨cb,co,rfl,-,c0⟩:=(HC.below HB.1).at hlt;obtain ⟨bh,oh,eh,ch⟩:=(HG.below HB.1).h.at hkn;have b3:=HB.2.2.2.2;rw [eh] at b3;clear eh;generalize hZ:zi c k=Z at *;have HX:Hid (zi c k=Z):=hZ;clear hZ;by_cases hz0:Z<0
   ·have HZ:Hid (R=false):=by
     show R=false;rw [HV.out];refine qat fun h=>?_;have h1:=(h.le k (by have:=HQ.out;have:=HN.out;show k<x.pn;omega)).1;rw [HX.out] at h1;omega
    have B3:=HB.1;clear HV HK HB;go_wp2;go_ret;rw [HZ.out];exact ⟨rfl,B3⟩
   ·by_cases hz1:(x.hL k:Int)<Z
    ·have HZ:Hid (R=false):=by
      show R=false;rw [HV.out];refine qat fun h=>?_;have h1:=(h.le k (by have:=HQ.out;have:=HN.out;show k<x.pn;omega)).2;rw [HX.out] at h1;have h2:Z<=(x.hL k:Int):=h1;omega
     have B3:=HB.1;clear HV HK HB;go_wp2;go_ret;rw [HZ.out];exact ⟨rfl,B3⟩
    ·have HK':Hid (∀ j,j<k+1->0<=zi c j/\zi c j<=(x.hL j:Int)):=fun j hj=>by
      by_cases e:j=k
      ·subst e
       rw [HX.out];omega
      ·exact HK.out j (by omega)
     clear HK HX;go_wp2;go_roundw
     case rel=>exact ⟨k+1,by omega,by go_num,HB.out,HK'.out⟩
     case measure=>simp [intOf];omega
  ·have HZ:Hid (R=true):=by
    show R=true;rw [HV.out];exact qay ⟨HQ.trans HN.out,fun p hp=>HK.out p (by have:=HQ.out;have:=HN.out;have h1:p<x.pn:=hp;omega)⟩
   have B3:=HB.1;clear HK HB;go_wp2;go_ret;rw [HZ.out];exact ⟨rfl,B3⟩
theorem qnr {w w':World} {b o n B:Nat} (h:w.there b o n) (hb:Below B w w') (hB:b<B):w'.there b o n:=fun j hj=>by
 obtain ⟨h1,h2⟩:=h j hj;have e:=hb.block b hB;exact ⟨(congrArg (Option.isSome) (zH (a:=⟨b,o+j,none⟩) e)).trans h1,(zI (a:=⟨b,o+j,none⟩) e).trans h2⟩
theorem qr3 {w:World} {B b n cap:Nat} {E:TypeId} {a:Option Addr} {f:Nat->Value} {xs cl:List Value} (h:RowS w a n f) (ho:w.ownsRow B E 1 (.slice a n cap) n xs) (hb:b<B):RowS (w.setCells b 0 cl) a n f:=by
 rcases h with h | ⟨g,off,rfl,hlt,hc⟩
 ·exact .inl h
 ·have hg:g≠b:=by
   rcases ho.2 with ⟨e,h0⟩ | ⟨g',cap',cur,e,hB,_⟩
   ·cases e
   ·simp only [Value.slice.injEq,Option.some.injEq,Addr.mk.injEq] at e
    omega
  have ht:qar (fun k=>k=b) w (w.setCells b 0 cl):=qar.sets (P:=fun k=>k=b) rfl _ _ (qar.refl _ _);exact .inr ⟨g,off,rfl,zL hlt ht.size,fun i hi=>(ht.cell hlt hg _).trans (hc i hi)⟩
theorem qsb (a:Option Addr) (len cap h:Nat) (hh:h<=cap) (w:World):(Instr.slice 36 (.slice a len cap) none (some (.int .i64 (h:Int))) (some (.int .i64 (h:Int)))).run prog w=.ok (.slice a h h) w:=by
 have hh':(h:Int)<=(cap:Int):=by omega
 cases a with
 | none=>simp [go_sem,sliced,hh']
 | some a=>simp [go_sem,sliced,hh']
theorem qt4 {w:World} {B:Nat} {E:TypeId} {v:Value} {n:Nat} {u:Nat->Value} (h:w.ownsRow B E 1 v n ((List.range n).map u)):∃ a cap,v=.slice a n cap/\RowS w a n u:=by
 rcases h.2 with ⟨rfl,h0⟩ | ⟨g,cap,cur,rfl,hb,_⟩
 ·exact ⟨none,0,by rw [h0],.inl h0⟩
 ·refine ⟨_,cap,rfl,.inr ⟨g,0,rfl,(h.lt g rfl).2,fun i hi=>?_⟩⟩
  rw [Nat.zero_add,World.ownsRow.cellAt h i (by omega)];simp [hi]
def hcL (ha:Option Addr) (hn hc:Nat):List Value:=[.slice ha hn hc,.int .i64 0,.int .i64 0,.int .i64 0,.int .i64 0,.int .i64 0,.int .i64 0,.int .i64 0,.int .i64 0,.int .i64 0,.int .i64 0,.int .i64 0,.int .i64 0,.int .i64 0,.int .i64 0,.int .i64 0,.int .i64 0,.int .i64 0,.int .i64 0,.int .i64 0,.int .i64 0]
theorem qmq (ha:Option Addr) (hn hc:Nat):(hcL ha hn hc).length=21:=rfl
theorem qmr (ha:Option Addr) (hn hc:Nat):∀ v ∈ hcL ha hn hc,v.oneCell'=true:=by
 intro v hv;simp only [hcL,List.mem_cons,List.not_mem_nil,or_false] at hv
 rcases hv with rfl | rfl | rfl | rfl | rfl | rfl | rfl | rfl | rfl | rfl | rfl | rfl | rfl | rfl | rfl | rfl | rfl | rfl | rfl | rfl | rfl <;> rfl
theorem qfa:(prog.info? 50).map (·.size)=some 21:=by kernel_rfl
theorem qj1 {fn:Func} {ra:Nat} {ty:TypeId} (h:fn.results=#[.cell ra ty]) (tmps:Array Value) (w:World) (N:Nat) (cs:List Value) (d:TypeDesc) (ha:tmps.getD ra undef=.pointer (some (aQ N 0))) (hc:w.rangeAt N 0 cs) (hu:prog.underlying ty=some d) (hd:d.isRow=true) (hi:(prog.info? ty).map (·.size)=some cs.length):
  (results fn tmps).run prog w=.ok (.agg cs.toArray) w:=by
 have hl:=run_loadVar_mid (P:=prog) w N 0 ty cs d hc hu hd hi;rw [Array.getD_eq_getD_getElem?] at ha;simp [results,h,ha,asAddr,hl]
theorem qfu (x:SysIn) (ca:Option Addr) (cc:Nat) (c:List Int) (w:World) (hG:SysG w x) (hcap:∀ i,i<x.hn->x.hL i<=x.hC i) (hhn:x.hn=x.pn) (h4:x.pn<=4) (hC:x.y.Cut c) (hc:Sl w ca c):
  Calls prog 46 #[x.v,.slice ca c.length cc] w fun e w'=>∃ ha hc,e=.returned (.agg (hcL ha c.length hc).toArray)/\RowS w' ha c.length (fun i=>.slice (x.hA i) (cN c i) (cN c i))/\Bw w w':=by
 have HG:Hid (SysG w x):=hG;have HSl:Hid (Sl w ca c):=hc;have hcl:c.length=x.pn:=hC.len;have hl':(c.length:Int)<=4:=by omega
 have HQ:Hid (c.length=x.hn/\c.length<=4):=⟨by omega,by omega⟩
 have HZ:Hid (∀ p,p<c.length->zi c p=(cN c p:Nat)/\cN c p<=x.hC p):=fun p hp=>⟨hC.nat (by show p<x.pn;omega),zP (hC.leN (by show p<x.pn;omega)) (hcap p (by omega))⟩
 obtain ⟨cs,hcs,hmk⟩:=qct qjm c.length (by omega);have HCS:Hid (cs.size=c.length):=hcs;have BW:Hid (Bw w ((w.alloc (x.oX)).alloc (zQ4))):=(zT _ _).trans ((zT _ _).mono (by simp));have NB:Hid (x.bX ((w.alloc (x.oX)).alloc (zQ4)) w.heap.size):=(BoxC.new w _ _ _ _ _).below (zT _ _);have NT:Hid (((w.alloc (x.oX)).alloc (zQ4)).there (w.heap.size+1) 0 21):=qbs _ _ _ _ _ rfl (by simp);have NS:Hid (((w.alloc (x.oX)).alloc (zQ4)).heap.size=w.heap.size+2):=by show _=_;simp
 clear hG hcap hhn h4 hC hc hcl hcs
 go_enter func46,ntmps46
 go_upto_region 1 with fail
 generalize (w.alloc (x.oX)).alloc (zQ4)=W2 at *;go_upto_region 2 with fail
 clear hmk
 have O0:Hid ((W2.alloc (.cells cs 36)).ownsRow (w.heap.size+2) 36 1 (sG W2.heap.size 0 c.length) 0 ((List.range 0).map fun i=>.slice (x.hA i) (cN c i) (cN c i))):=by
  have:=World.ownsRow_made (base:=w.heap.size+2) (e:=36) (size:=1) W2 cs c.length (by rw [NS.out];omega) (by unfold maxLen;have:=HQ.out;omega) (by rw [HCS.out,Nat.mul_one]);exact this
 have B0:Hid (Below (w.heap.size+2) W2 (W2.alloc (.cells cs 36))):=(zT _ _).mono (by rw [NS.out];omega);generalize W2.alloc (.cells cs 36)=W3 at *;go_wp2_with fail
 go_loopw [5,13] (fun o i wr=>∃ k:Nat,k<=c.length/\i=.int .i64 k/\Hid (wr.ownsRow (w.heap.size+2) 36 1 o k ((List.range k).map fun i=>.slice (x.hA i) (cN c i) (cN c i))/\Below (w.heap.size+2) W2 wr)) (fun _ i _=>c.length - (intOf i).toNat)
 case atStart=>exact ⟨0,Nat.zero_le _,rfl,O0.out,B0.out⟩
 case round=>
  clear O0 B0;obtain ⟨k,hk,rfl,HB⟩:=hrel;have BE:Hid (Bw w wr/\x.bX wr w.heap.size/\w.heap.size+2<=wr.heap.size):=⟨BW.trans (HB.2.mono (by omega)),NB.belowB HB.2 (by omega),by have:=HB.2.size;have:=NS.out;omega⟩
  by_cases hlt:k<c.length
  ·have hlt':(k:Int)<(c.length:Int):=by omega
   have hkn:k<x.hn:=by have:=HQ.out;omega
   have hkn':(k:Int)<(x.hn:Int):=by omega
   obtain ⟨cb,co,rfl,-,c0⟩:=(HSl.below BE.1).at hlt;obtain ⟨bh,oh,eh,ch⟩:=(HG.below BE.1).h.at hkn;have b3:=BE.2.1.2.2.2;rw [eh] at b3;clear eh;rw [(HZ.out k hlt).1] at c0;have ks:=qsb (x.hA k) (x.hL k) (x.hC k) (cN c k) (HZ.out k hlt).2;have HK2:Hid (k<=2000000):=by show _<=_;have:=HQ.out;omega
   go_wp2_with (at_builtin;refine qap qjm wr rfl rfl _ _ rfl (w.heap.size+2) u5 k _ rfl HB.1 #[.slice (x.hA k) (cN c k) (cN c k)] rfl rfl (by intro u hu;simp at hu;subst hu;rfl) HK2.out BE.2.2 ?_;intro v5 w5 o5 g5 q5 n5;have F5:Hid (w5.ownsRow (w.heap.size+2) 36 1 v5 (k+1) ((List.range (k+1)).map fun i=>.slice (x.hA i) (cN c i) (cN c i))/\Below (w.heap.size+2) W2 w5):=⟨by rw [List.range_succ,List.map_append];exact o5,Below.grown HB.2 g5 BE.2.2 (fun j hj=>(HB.1.lt j hj).1)⟩;clear o5 g5 q5 n5)
   go_roundw
   case rel=>exact ⟨k+1,by omega,by go_num,F5.out⟩
   case measure=>simp [intOf];omega
  ·have hkl:k=c.length:=by omega
   have F5:Hid (wr.ownsRow (w.heap.size+2) 36 1 u5 c.length ((List.range c.length).map fun i=>.slice (x.hA i) (cN c i) (cN c i))):=by
    have:=HB.1;rw [hkl] at this;exact this
   obtain ⟨ea,ec,rfl,rs⟩:=qt4 F5.out;have RS:Hid (RowS wr ea c.length fun i=>.slice (x.hA i) (cN c i) (cN c i)):=rs;have hl:=qmq ea c.length ec;have ho:=qmr ea c.length ec;generalize hcs:hcL ea c.length ec=cl at *;have HCL:Hid (hcL ea c.length ec=cl):=hcs;have hs:cl.toArray.size=21:=by simpa using hl
   have HT:Hid (wr.there (w.heap.size+1) 0 cl.toArray.size):=by
    show wr.there _ _ _;rw [hs];exact qnr NT.out HB.2 (by omega)
   have HI:Hid ((prog.info? 50).map (·.size)=some cl.length):=by show _=_;rw [hl];exact qfa
   have HO:Hid (cl.toArray.all (·.oneCell')=true):=all_oneCell_toArray ho;have OW:Hid (∀ j,(Value.slice ea c.length ec).ownBlock=some j->w.heap.size+2<=j):=fun j hj=>(F5.lt j hj).1;have RK:Hid (RowS (wr.setCells (w.heap.size+1) 0 cl) ea c.length fun i=>.slice (x.hA i) (cN c i) (cN c i)):=qr3 RS.out (F5.out) (by omega);have BK:Hid (Bw w (wr.setCells (w.heap.size+1) 0 cl)):=BE.1.trans ((qar.sets (P:=fun b=>b=w.heap.size+1) rfl _ _ (qar.refl _ _)).below BE.1.size fun b e=>by omega);clear hcs hl ho hs HB hkl rs RS F5 BE;go_wp2_with (refine wpList_store_mid rfl 50 (.tmp 4) (.tmp 31) rfl (w.heap.size+1) 0 cl.toArray rfl (by rw [<- HCL.out];rfl) HT.out (by simpa using HI.out) HO.out ?_)
   have HR:Hid ((wr.setCells (w.heap.size+1) 0 cl).rangeAt (w.heap.size+1) 0 cl):=World.rangeAt_setCells_same _ _ _ _ (by simpa using HT.out);clear HT;generalize wr.setCells (w.heap.size+1) 0 cl=W5 at *;exact bodyPost_ret (qj1 results46 _ _ (w.heap.size+1) cl _ rfl HR.out Tryz.underlying50 rfl HI.out) rfl ⟨ea,ec,by rw [HCL.out],RK.out,BK.out⟩
theorem qlq (X hc:Nat) (ha:Option Addr) (hA:Nat->Option Addr) (hC:Nat->Nat) (y:Hs) (a b:Nat) (w:World) (c0:w.cell? ⟨X,0,none⟩=some (.slice ha y.n hc)) (hE:HisE w ha hA hC y) (hl:∀ i,i<y.n->y.l i<=200) (han:a<y.n):
  Calls prog 69 #[.pointer (some (aQ X 0)),.int .i64 a,.int .i64 b] w fun e w'=>∃ a1 c1,e=.returned (.slice a1 (valL (y.e a) 2 b (y.l a)).length c1)/\OwnI w' w.heap.size (.slice a1 (valL (y.e a) 2 b (y.l a)).length c1) (valL (y.e a) 2 b (y.l a))/\Bw w w':=by
 have HE:Hid (EvL w (hA a) (y.l a) (y.e a)):=hE.ev a han;have HLb:Hid (y.l a<=1048576):=by have:=hl a han;show _<=_;omega
 have ha':(a:Int)<(y.n:Int):=by omega
 obtain ⟨bh,oh,eh,ch⟩:=hE.row.at han;rw [eh] at c0;clear hE hl eh
 go_enter func69,ntmps69
 go_wp2_with fail
 refine (qda (hA a) (y.l a) _ (y.e a) 2 b w HLb.out HE.out).mono ?_;rintro e w1 ⟨v,rfl,o1,b1⟩;obtain ⟨a1,c1,rfl,-⟩:=o1.form;have O1:Hid (OwnI w1 w.heap.size (.slice a1 (valL (y.e a) 2 b (y.l a)).length c1) (valL (y.e a) 2 b (y.l a))/\Bw w w1):=⟨o1,b1⟩
 clear o1 b1 c0 ch;go_wp2;go_ret;exact ⟨_,_,rfl,O1.out⟩
theorem qia (X hc:Nat) (ha:Option Addr) (hA:Nat->Option Addr) (hC:Nat->Nat) (y:Hs) (a b:Nat) (w:World) (c0:w.cell? ⟨X,0,none⟩=some (.slice ha y.n hc)) (hE:HisE w ha hA hC y) (hl:∀ i,i<y.n->y.l i<=200) (han:a<y.n) (hbn:b<y.n):
  Calls prog 49 #[.pointer (some (aQ X 0)),.int .i64 a,.int .i64 b] w (rB w (.int .i64 (nthV (y.e b) 3 a (y.l b) (cnt (y.e a) 2 b (y.l a):Nat)))):=by
 have HS:Hid (∀ wx,Bw w wx->Calls prog 69 #[.pointer (some ⟨X,0,none⟩),.int .i64 a,.int .i64 b] wx fun e w'=>∃ a1 c1,e=.returned (.slice a1 (cnt (y.e a) 2 b (y.l a)) c1)/\Bw wx w'):=fun wx hb=>by
  refine (qlq X hc ha hA hC y a b wx ((hb.cell (p:=(aQ X 0)) (zJ w _ c0)).trans c0) (hE.below hb) hl han).mono ?_;rintro e w1 ⟨a1,c1,rfl,-,q⟩;exact ⟨a1,c1,by rw [qb7];rfl,q⟩
 have HN:Hid (∀ wx,Bw w wx->Calls prog 94 #[.slice (hA b) (y.l b) (hC b),.int .i64 3,.int .i64 a,.int .i64 (cnt (y.e a) 2 b (y.l a):Nat)] wx (rB wx (.int .i64 (nthV (y.e b) 3 a (y.l b) (cnt (y.e a) 2 b (y.l a):Nat))))):=fun wx hb=>qla (hA b) (y.l b) (hC b) (y.e b) 3 a _ wx (by have:=hl b hbn;omega) ((hE.below hb).ev b hbn);have hcn:cnt (y.e a) 2 b (y.l a)<=200:=zP (qkw _ _ _ _) (hl a han);have hbn':(b:Int)<(y.n:Int):=by omega
 obtain ⟨bh,oh,eh,ch⟩:=hE.row.at hbn;rw [eh] at c0;clear hE hl eh;generalize nthV (y.e b) 3 a (y.l b) (cnt (y.e a) 2 b (y.l a):Nat)=V at *;generalize cnt (y.e a) 2 b (y.l a)=cn at *;have hcn':(cn:Int)<=200:=by omega
 have HC0:Hid (w.cell? (aQ X 0)=some (.slice (some (aQ bh oh)) y.n hc)):=c0;have HC1:Hid (w.cell? ⟨bh,oh+b,none⟩=some (.slice (hA b) (y.l b) (hC b))):=ch
 go_enter func49,ntmps49
 go_wp2_with fail
 go_region_law (first
  | (refine qds rfl 69 _ _ rfl #[.pointer (some (aQ X 0)),.int .i64 a,.int .i64 b] (by simp [Act.eval,Act.put]) (yB func69 (by kernel_rfl) rfl) (HS.out w.drew (Below.refl _ _).drew) ?_;rintro e w1 ⟨a1,c1,rfl,b1⟩;refine ⟨_,rfl,?_⟩;have q1:Bw w w1:=(Below.refl w.heap.size w).drew.trans b1;have c2:=(q1.cell (p:=(aQ X 0)) (zJ w _ HC0.out)).trans HC0.out;have c3:=(q1.cell (p:=⟨bh,oh+b,none⟩) (zJ w _ HC1.out)).trans HC1.out;have Q1:Hid (Bw w w1):=q1;clear b1 q1)
  | (refine qds rfl 94 _ _ rfl #[.slice (hA b) (y.l b) (hC b),.int .i64 3,.int .i64 a,.int .i64 (cn:Nat)] (by simp [Act.eval,Act.put]) (yB func94 (by kernel_rfl) rfl) (HN.out w1 Q1.out) ?_;rintro e w2 ⟨rfl,b2⟩;refine ⟨_,rfl,?_⟩;have Q2:Hid (Bw w w2):=Q1.trans (b2.mono Q1.size);clear b2))
 all_goals
  clear Q1;go_wp2;go_ret;exact ⟨rfl,Q2.out⟩
theorem qlc (X hc:Nat) (ha:Option Addr) (hA:Nat->Option Addr) (hC:Nat->Nat) (y:Hs) (w:World) (c0:w.cell? ⟨X,0,none⟩=some (.slice ha y.n hc)) (hE:HisE w ha hA hC y) (hl:∀ i,i<y.n->y.l i<=200) (h4:y.n<=4):
  Calls prog 91 #[.pointer (some ⟨X,0,none⟩)] w fun e w'=>e=.returned (.bool (qB (∀ a,a<y.n->∀ b,b<y.n->nthV (y.e b) 3 a (y.l b) (cnt (y.e a) 2 b (y.l a):Nat)<0)))/\Bw w w':=by
 have HOv:Hid (∀ wx,Bw w wx->∀ a b,a<y.n->b<y.n->Calls prog 49 #[.pointer (some ⟨X,0,none⟩),.int .i64 (a:Nat),.int .i64 (b:Nat)] wx (rB wx (.int .i64 (nthV (y.e b) 3 a (y.l b) (cnt (y.e a) 2 b (y.l a):Nat))))):=fun wx hb a b ha' hb'=>qia X hc ha hA hC y a b wx ((hb.cell (p:=⟨X,0,none⟩) (zJ w _ c0)).trans c0) (hE.below hb) hl ha' hb';have HC0:Hid (∀ wx,Bw w wx->wx.cell? ⟨X,0,none⟩=some (.slice ha y.n hc)):=fun wx hb=>(hb.cell (p:=⟨X,0,none⟩) (zJ w _ c0)).trans c0;have hl':(y.n:Int)<=4:=by omega
 clear hE hl;generalize hov:(fun a b:Nat=>nthV (y.e b) 3 a (y.l b) (cnt (y.e a) 2 b (y.l a):Nat))=ov;have e1:∀ a b:Nat,nthV (y.e b) 3 a (y.l b) (cnt (y.e a) 2 b (y.l a):Nat)=ov a b:=fun a b=>by rw [<- hov]
 simp only [e1] at HOv ⊢;clear e1 hov
 go_enter func91,ntmps91
 go_wp2_with fail
 clear c0
 go_loopw [10] (fun i wr=>∃ k:Nat,k<=y.n/\i=.int .i64 k/\Hid (Bw w wr)/\Hid (∀ a,a<k->∀ b,b<y.n->ov a b<0)) (fun i _=>y.n - (intOf i).toNat)
 case atStart=>exact ⟨0,Nat.zero_le _,rfl,Below.refl _ _,fun j hj=>by omega⟩
 case round=>
  obtain ⟨k,hk,rfl,HB,HK⟩:=hrel;by_cases hlt:k<y.n
  ·have hlt':(k:Int)<(y.n:Int):=by omega
   have c1:=HC0.out wr HB.out;go_wp2_with fail
   clear c1
   go_loopw [18] (fun i wr=>∃ j:Nat,j<=y.n/\i=.int .i64 j/\Hid (Bw w wr)/\Hid (∀ b,b<j->ov k b<0)) (fun i _=>y.n - (intOf i).toNat)
   case atStart=>exact ⟨0,Nat.zero_le _,rfl,HB.out,fun j hj=>by omega⟩
   case round=>
    clear HB;obtain ⟨j,hj,rfl,HB,HJ⟩:=hrel;by_cases hjt:j<y.n
    ·have hjt':(j:Int)<(y.n:Int):=by omega
     go_wp2_with fail
     refine (HOv.out _ HB.out k j hlt hjt).mono ?_;rintro e w3 ⟨rfl,q3⟩;have B3:Hid (Bw w w3):=HB.trans (q3.mono HB.size);clear q3 HB;by_cases ho:0<=ov k j
     ·have HV:Hid (qB (∀ a,a<y.n->∀ b,b<y.n->ov a b<0)=false):=qat fun h=>by
       have h1:=h k hlt j hjt;omega
      go_wp2;go_ret;rw [HV.out];exact ⟨rfl,B3.out⟩
     ·have HJ':Hid (∀ b,b<j+1->ov k b<0):=fun b hb=>by
       by_cases e:b=j
       ·subst e
        omega
       ·exact HJ.out b (by omega)
      clear HJ;go_wp2;go_roundw
      case rel=>exact ⟨j+1,by omega,by go_num,B3.out,HJ'.out⟩
      case measure=>simp [intOf];omega
    ·have HK':Hid (∀ a,a<k+1->∀ b,b<y.n->ov a b<0):=fun a ha b hb=>by
      by_cases e:a=k
      ·subst e
       exact HJ.out b (by omega)
      ·exact HK.out a (by omega) b hb
     clear HK HJ;go_wp2;go_roundw
     case rel=>exact ⟨k+1,by omega,by go_num,HB.out,HK'.out⟩
     case measure=>simp [intOf];omega
  ·have HV:Hid (qB (∀ a,a<y.n->∀ b,b<y.n->ov a b<0)=true):=qay fun a ha b hb=>HK.out a (by omega) b hb
   have B3:=HB.out;clear HK HB;go_wp2;go_ret;rw [HV.out];exact ⟨rfl,B3⟩
def Sy.at (y:Sy) (c:List Int):Hs:=⟨c.length,cN c,y.hH⟩
theorem qq5 {x:SysIn} {w w':World} {ha:Option Addr} {c:List Int} (hG:SysG w x) (hb:Bw w w') (hC:x.y.Cut c) (hhn:x.hn=x.pn) (hr:RowS w' ha c.length (fun i=>.slice (x.hA i) (cN c i) (cN c i))):HisE w' ha x.hA (cN c) (x.y.at c):=
 ⟨hr, fun i hi => by
  have hi':i<x.pn:=by have h1:c.length=x.pn:=hC.len;have h2:i<c.length:=hi;omega
  exact ((hG.below hb).hi i (by omega)).take (hC.leN hi')⟩
theorem qn6 {w:World} {X hc n:Nat} {ha:Option Addr} {cs:List Value} (h:w.rangeAt X 0 cs) (e:hcL ha n hc=cs):w.cell? (aQ X 0)=some (.slice ha n hc):=by
 subst e;have:=h 0 (.slice ha n hc) rfl;simpa using this
structure Al (g h:Nat->E3) (m r:Nat):Prop where
 le:r<=m
 eq:∀ i,i<r->g i=h i
 ne:r<m->g r≠h r
theorem Al.one {g h:Nat->E3} {m r r':Nat} (a:Al g h m r) (b:Al g h m r'):r=r':=by
 rcases Nat.lt_trichotomy r r' with h1 | h1 | h1
 ·exact absurd (b.eq r h1) (a.ne (zL h1 b.le))
 ·exact h1
 ·exact absurd (a.eq r' h1) (b.ne (zL h1 a.le))
theorem qqr (a b:E3):qdl a.k a.q a.v b.k b.q b.v=true ↔ a=b:=by
 cases a;cases b;simp [qdl]
theorem qqg (ea fa:Option Addr) (n m c d:Nat) (g u:Nat->E3) (w:World) (hn:n<=1048576) (hm:m<=1048576) (h0:EvL w ea n g) (h1:EvL w fa m u):
  Calls prog 77 #[.slice ea n c,.slice fa m d] w fun e w'=>∃ r,e=.returned (.int .i64 (r:Nat))/\Al g u (min n m) r/\Bw w w':=by
 have H0:Hid (EvL w ea n g):=h0;have H1:Hid (EvL w fa m u):=h1;have hn':(n:Int)<=1048576:=by omega
 have hm':(m:Int)<=1048576:=by omega
 obtain ⟨mm,hmm⟩:∃ mm,mm=min n m:=⟨_,rfl⟩
 have hmi:min (n:Int) (m:Int)=(mm:Int):=by omega
 have HM:Hid (mm=min n m):=hmm;have hmb:(mm:Int)<=1048576:=by omega
 clear h0 h1 hmm
 go_enter func77,ntmps77
 go_wp2_with fail
 all_goals
  go_loopw [11] (fun i wr=>∃ k:Nat,k<=mm/\i=.int .i64 k/\Hid (Bw w wr/\∀ i,i<k->g i=u i)) (fun i _=>mm - (intOf i).toNat)
  case atStart=>exact ⟨0,Nat.zero_le _,rfl,Below.refl _ _,fun i hi=>by omega⟩
  case round=>
   obtain ⟨k,hk,rfl,HK⟩:=hrel;by_cases hlt:k<mm
   ·have hlt':(k:Int)<(mm:Int):=by omega
    have hkn:k<n:=by have:=HM.out;omega
    have hkm:k<m:=by have:=HM.out;omega
    have hkn':(k:Int)<(n:Int):=by omega
    have hkm':(k:Int)<(m:Int):=by omega
    obtain ⟨b,off,rfl,hbl,ck0,ck1,ck2⟩:=(H0.below HK.1).at hkn;obtain ⟨b',off',rfl,hbl',dk0,dk1,dk2⟩:=(H1.below HK.1).at hkm;obtain ⟨T,hT⟩:∃ T,qdl (g k).k (g k).q (g k).v (u k).k (u k).q (u k).v=T:=⟨_,rfl⟩
    have HT:Hid (qdl (g k).k (g k).q (g k).v (u k).k (u k).q (u k).v=T):=hT;clear hT;go_upto_region 4 with fail
    have q0:Bw wr wr.drew:=(Below.refl wr.heap.size wr).drew;refine qah (fun w'=>w'.cell? ⟨b,off+k*3,none⟩=some (.int .i64 (g k).k)/\w'.cell? ⟨b,off+k*3+1,none⟩=some (.int .i64 (g k).q)/\w'.cell? ⟨b,off+k*3+2,none⟩=some (.int .i64 (g k).v)/\w'.cell? ⟨b',off'+k*3,none⟩=some (.int .i64 (u k).k)/\w'.cell? ⟨b',off'+k*3+1,none⟩=some (.int .i64 (u k).q)/\w'.cell? ⟨b',off'+k*3+2,none⟩=some (.int .i64 (u k).v)) (fun _=>false) (by kernel_rfl) ?_;have hHeld:(fun w':World=>w'.cell? ⟨b,off+k*3,none⟩=some (.int .i64 (g k).k)/\w'.cell? ⟨b,off+k*3+1,none⟩=some (.int .i64 (g k).q)/\w'.cell? ⟨b,off+k*3+2,none⟩=some (.int .i64 (g k).v)/\w'.cell? ⟨b',off'+k*3,none⟩=some (.int .i64 (u k).k)/\w'.cell? ⟨b',off'+k*3+1,none⟩=some (.int .i64 (u k).q)/\w'.cell? ⟨b',off'+k*3+2,none⟩=some (.int .i64 (u k).v)) wr.drew:=⟨(q0.cell (p:=(aQ b _)) hbl).trans ck0,(q0.cell (p:=(aQ b _)) hbl).trans ck1,(q0.cell (p:=(aQ b _)) hbl).trans ck2,(q0.cell (p:=(aQ b' _)) hbl').trans dk0,(q0.cell (p:=(aQ b' _)) hbl').trans dk1,(q0.cell (p:=(aQ b' _)) hbl').trans dk2⟩
    refine qax [0,1,2,3,4,5,6,7] ?_;iterate 8 (refine qa8 rfl hHeld ?_)
    refine qaq ?_;have hne:=qu4 (g k).k (g k).q (g k).v (u k).k (u k).q (u k).v;rw [HT.out] at hne;refine qcv 8 rfl hHeld ⟨.bool (!T),fun wq _=>?_,?_⟩
    ·go_simp
    (try simp only [Act.put,zD,zE,zF])
    refine qan (by kernel_rfl) ?_ _;have HK':Hid (Bw w wr.drew):=HK.1.trans (q0.mono HK.1.size);clear hHeld hne q0 ck0 ck1 ck2 dk0 dk1 dk2 hbl hbl';cases T with
    | false=>
     have HR : Hid (Al g u (min n m) k) := ⟨by have := HM.out; omega, HK.2, fun _ e => by
      have:=(qqr _ _).2 e;rw [HT.out] at this
      cases this⟩
     go_wp2;go_ret;exact ⟨k,rfl,HR.out,HK'.out⟩
    | true=>
     have HE:Hid (∀ i,i<k+1->g i=u i):=fun i hi=>by
      by_cases e:i=k
      ·subst e
       exact (qqr _ _).1 HT.out
      ·exact HK.2 i (by omega)
     go_wp2;go_roundw
     case rel=>exact ⟨k+1,by omega,by go_num,HK'.out,HE.out⟩
     case measure=>simp [intOf];omega
   ·have hkm:k=mm:=by omega
    have HR:Hid (Al g u (min n m) k):=⟨by have:=HM.out;omega,HK.2,fun hh=>by have:=HM.out;omega⟩
    have hg1:(mm:Int)<=(k:Int):=by omega
    first | have hg2:(m:Int)<=(k:Int):=by omega | have hg2:(n:Int)<=(k:Int):=by omega
    clear hkm hlt;go_wp2;go_ret
    first | exact ⟨k,congrArg (fun z:Int=>Ending.returned (.int .i64 z)) (show (m:Int)=k by omega),HR.out,HK.1⟩ | exact ⟨k,congrArg (fun z:Int=>Ending.returned (.int .i64 z)) (show (n:Int)=k by omega),HR.out,HK.1⟩
theorem qk9 (x:SysIn) (w:World) (hG:SysG w x) (hL:x.Len) (hV:w.cell? (aQ 0 0)=some vT):
  Calls prog 15 #[x.v] w fun e w'=>∃ u,e=.returned u/\OwnI w' w.heap.size u (flS x.y)/\Bw w w':=by
 have HG:Hid (SysG w x):=hG;have hl':(x.hn:Int)<=1048576:=by have:=hL.h.1;omega
 have HLh:Hid (∀ i,i<x.hn->x.hL i<=1048576):=hL.h.2;have HS:Hid (∀ wx,Bw w wx->Calls prog 9 #[x.v] wx (rB wx (.bool x.y.okB))):=fun wx hb=>qbp x wx (hG.below hb) hL ((hb.cell (p:=⟨0,0,none⟩) (zJ w _ hV)).trans hV);have BW:Hid (Bw w ((w.alloc (x.oX)).alloc (.cells #[] 3))):=(zT _ _).trans ((zT _ _).mono (by simp));have NB:Hid (x.bX ((w.alloc (x.oX)).alloc (.cells #[] 3)) w.heap.size):=(BoxC.new w _ _ _ _ _).below (zT _ _);have NO:Hid (OwnI ((w.alloc (x.oX)).alloc (.cells #[] 3)) (w.heap.size+1) (.slice (some ⟨w.heap.size+1,0,none⟩) 0 0) []):=qey (w.alloc (x.oX)) (by simp)
 have LT:Hid (w.heap.size+1<=((w.alloc (x.oX)).alloc (.cells #[] 3)).heap.size):=by
  show _<=_;simp
 clear hG hL hV
 go_enter func15,ntmps15
 go_wp2_with fail
 generalize (w.alloc (x.oX)).alloc (.cells #[] 3)=W2 at *;refine (HS.out W2 BW.out).mono ?_;rintro e w1 ⟨rfl,q1⟩;have B1:Hid (OwnI w1 (w.heap.size+1) (.slice (some ⟨w.heap.size+1,0,none⟩) 0 0) []/\Bw w w1/\x.bX w1 w.heap.size/\w.heap.size+1<=w1.heap.size):=⟨NO.below q1,BW.trans (q1.mono BW.size),NB.below q1,zP LT.out q1.size⟩
 clear q1 BW NB NO LT HS
 rcases zK x.y.okB with t | t
 case inr=>
  have HV:Hid (flS x.y=[]):=by
   show flS x.y=[];rw [flS,if_neg (by rw [t];simp)]
  rw [t];clear t;go_wp2;go_ret;rw [HV.out];exact ⟨_,rfl,B1.1.mono (by omega),B1.2.1⟩
 have HV:Hid (flS x.y=flT x.y x.hn):=if_pos t;rw [t];clear t;have b3:=B1.2.2.1.2.2.2;go_wp2_with fail
 clear b3
 go_loopw [3,14] (fun o i wr=>∃ k:Nat,k<=x.hn/\i=.int .i64 k/\Hid (OwnI wr (w.heap.size+1) o (flT x.y k)/\Bw w wr/\x.bX wr w.heap.size/\w.heap.size+1<=wr.heap.size)) (fun _ i _=>x.hn - (intOf i).toNat)
 case atStart=>exact ⟨0,Nat.zero_le _,rfl,B1.out⟩
 case round=>
  clear B1;obtain ⟨k,hk,rfl,HB⟩:=hrel;by_cases hlt:k<x.hn
  ·have hlt':(k:Int)<(x.hn:Int):=by omega
   obtain ⟨bh,oh,eh,ch⟩:=(HG.below HB.2.1).h.at hlt;rw [eh];have EH:Hid (x.ha=some (aQ bh oh)):=eh;clear eh;have hfl:=qci x.y k;have hlk:(x.hL k:Int)<=1048576:=by have:=HLh.out k hlt;omega
   have HF:Hid (flT x.y (k+1)=flT x.y k ++ [(x.hL k:Int)]):=qn1 x.y k;have HFl:Hid ((flT x.y k).length<=1048576):=by show _<=_;omega
   clear hfl;go_wp2_with (at_builtin;refine qdi wr rfl _ _ rfl (w.heap.size+1) u3 (flT x.y k) rfl HB.1 (x.hL k:Int) rfl HFl.out HB.2.2.2 ?_;intro v' w4 o4 b4;have H4:Hid (OwnI w4 (w.heap.size+1) v' (flT x.y (k+1))/\Bw w w4/\x.bX w4 w.heap.size/\w.heap.size+1<=w4.heap.size):=⟨o4.to HF.out,HB.2.1.trans (b4.mono (by omega)),HB.2.2.1.belowB b4 (by omega),zP HB.2.2.2 b4.size⟩;clear o4 b4)
   go_roundw
   case rel=>exact ⟨k+1,by omega,by go_num,H4⟩
   case measure=>simp [intOf];omega
  ·have hkl:k=x.hn:=by omega
   have H4:Hid (OwnI wr w.heap.size u3 (flS x.y)/\Bw w wr):=by
    have:=HB.out;rw [hkl] at this;rw [HV.out];exact ⟨this.1.mono (by omega),this.2.1⟩
   clear HB hkl;go_wp2;go_ret;exact ⟨_,rfl,H4.out⟩
theorem qp8 {w:World} {B:Nat} {a:Option Addr} {cap lo:Nat} {xs:List Int} (h:OwnI w B (.slice a xs.length cap) xs) (hl:lo<=xs.length):
  ∃ a',(∀ w',(Instr.slice 40 (.slice a xs.length cap) (some (.int .i64 (lo:Int))) none none).run prog w'=.ok (.slice a' (xs.drop lo).length (cap - lo)) w')/\∀ k,k<(xs.drop lo).length->∃ g o,a'=some ⟨g,o,none⟩/\B<=g/\g<w.heap.size/\w.cell? ⟨g,o+k,none⟩=some (.int .i64 (zi (xs.drop lo) k)):=by
 have hl':(lo:Int)<=(xs.length:Int):=by omega
 rcases h.2 with ⟨e,h0⟩ | ⟨g,cp,cur,e,hb,hg,hnc,-⟩
 ·simp only [Value.slice.injEq] at e
  obtain ⟨rfl,-,rfl⟩:=e;have h00:lo=0:=by omega
  subst h00;refine ⟨none,fun w'=>?_,fun k hk=>?_⟩
  ·rw [h0]
   simp [go_sem,h0]
  ·simp at hk
   omega
 ·simp only [Value.slice.injEq] at e
  obtain ⟨rfl,-,rfl⟩:=e;by_cases hc:cap=lo
  ·refine ⟨some (aQ g 0),fun w'=>?_,fun k hk=>?_⟩
   ·have e1:xs.length=lo:=by omega
    subst hc;simp [go_sem,e1]
   ·simp at hk
    omega
  ·refine ⟨some (aQ g lo),fun w'=>?_,fun k hk=>⟨g,lo,rfl,hb,(h.lt g rfl).2,?_⟩⟩
   ·simp [go_sem,hl',hc,Addr.add]
    exact fun h=>h.symm
   ·rw [qns]
    exact h.cell (by simp at hk;omega)
theorem qqa (X hc:Nat) (ha:Option Addr) (hA:Nat->Option Addr) (hC:Nat->Nat) (y:Hs) (a b:Nat) (w:World) (c0:w.cell? ⟨X,0,none⟩=some (.slice ha y.n hc)) (hE:HisE w ha hA hC y) (hl:∀ i,i<y.n->y.l i<=200) (hbn:b<y.n):
  Calls prog 67 #[.pointer (some (aQ X 0)),.int .i64 a,.int .i64 b] w fun e w'=>∃ a1 c1,e=.returned (.slice a1 (cnt (y.e b) 3 a (y.l b)) c1)/\Bw w w':=by
 have HE:Hid (EvL w (hA b) (y.l b) (y.e b)):=hE.ev b hbn;have HLb:Hid (y.l b<=1048576):=by have:=hl b hbn;show _<=_;omega
 have hb':(b:Int)<(y.n:Int):=by omega
 obtain ⟨bh,oh,eh,ch⟩:=hE.row.at hbn;rw [eh] at c0;clear hE hl eh
 go_enter func67,ntmps67
 go_wp2_with fail
 refine (qda (hA b) (y.l b) _ (y.e b) 3 a w HLb.out HE.out).mono ?_;rintro e w1 ⟨v,rfl,o1,b1⟩;obtain ⟨a1,c1,rfl,-⟩:=o1.form;have O1:Hid (Bw w w1):=b1;clear o1 b1 c0 ch;go_wp2;go_ret;exact ⟨_,_,by rw [qb7];rfl,O1.out⟩
theorem ql4 (X hc:Nat) (ha:Option Addr) (hA:Nat->Option Addr) (hC:Nat->Nat) (y:Hs) (a b:Nat) (w:World) (c0:w.cell? ⟨X,0,none⟩=some (.slice ha y.n hc)) (hE:HisE w ha hA hC y) (hl:∀ i,i<y.n->y.l i<=200) (han:a<y.n) (hbn:b<y.n) (hle:cnt (y.e b) 3 a (y.l b)<=cnt (y.e a) 2 b (y.l a)):
  Calls prog 111 #[.pointer (some (aQ X 0)),.int .i64 a,.int .i64 b] w fun e w'=>∃ a1 c1,e=.returned (.slice a1 (wyL y a b).length c1)/\w'.ownsRow w.heap.size 80 2 (.slice a1 (wyL y a b).length c1) (wyL y a b).length (fT (itL (wyL y a b)) (wyL y a b).length)/\Value.slice a1 (wyL y a b).length c1≠nS/\Bw w w':=by
 have HS:Hid (∀ wx,Bw w wx->Calls prog 69 #[.pointer (some ⟨X,0,none⟩),.int .i64 a,.int .i64 b] wx fun e w'=>∃ a1 c1,e=.returned (.slice a1 (valL (y.e a) 2 b (y.l a)).length c1)/\OwnI w' wx.heap.size (.slice a1 (valL (y.e a) 2 b (y.l a)).length c1) (valL (y.e a) 2 b (y.l a))/\Bw wx w'):=fun wx hb=>qlq X hc ha hA hC y a b wx ((hb.cell (p:=⟨X,0,none⟩) (zJ w _ c0)).trans c0) (hE.below hb) hl han;have HT:Hid (∀ wx,Bw w wx->Calls prog 67 #[.pointer (some ⟨X,0,none⟩),.int .i64 a,.int .i64 b] wx fun e w'=>∃ a1 c1,e=.returned (.slice a1 (cnt (y.e b) 3 a (y.l b)) c1)/\Bw wx w'):=fun wx hb=>qqa X hc ha hA hC y a b wx ((hb.cell (p:=⟨X,0,none⟩) (zJ w _ c0)).trans c0) (hE.below hb) hl hbn
 have hlv:(valL (y.e a) 2 b (y.l a)).length<=200:=by
  rw [qb7];exact zP (qf3 _ _ _ _) (hl a han)
 have hle':cnt (y.e b) 3 a (y.l b)<=(valL (y.e a) 2 b (y.l a)).length:=by
  rw [qb7];exact hle
 have hzs:wyL y a b=(valL (y.e a) 2 b (y.l a)).drop (cnt (y.e b) 3 a (y.l b)):=rfl;rw [hzs];clear hzs c0 hE hl hle;generalize cnt (y.e b) 3 a (y.l b)=tn at *;generalize valL (y.e a) 2 b (y.l a)=xs at *;have HO0:Hid ((w.alloc (.cells #[] 80)).ownsRow w.heap.size 80 2 (sG w.heap.size 0 0) 0 []):=World.ownsRow_made (base:=w.heap.size) (e:=80) (size:=2) w #[] 0 (Nat.le_refl _) (by unfold maxLen;omega) (by simp);have BW:Hid (Bw w (w.alloc (.cells #[] 80))/\(w.alloc (.cells #[] 80)).heap.size=w.heap.size+1):=⟨zT _ _,by simp⟩
 have HLE:Hid (tn<=xs.length/\xs.length<=200):=⟨hle',hlv⟩
 clear hle'
 go_enter func111,ntmps111
 go_wp2_with fail
 generalize w.alloc (.cells #[] 80)=W1 at *;refine (HS.out W1 BW.1).mono ?_;rintro e w1 ⟨a1,c1,rfl,o1,q1⟩;have O1:Hid (OwnI w1 W1.heap.size (.slice a1 xs.length c1) xs/\Bw W1 w1):=⟨o1,q1⟩
 clear o1 q1 HS;go_wp2_with fail
 refine (HT.out w1 (BW.1.trans (O1.2.mono BW.1.size))).mono ?_;rintro e w2 ⟨a2,c2,rfl,q2⟩;obtain ⟨a3,ks,hcell⟩:=qp8 (O1.1.below q2) HLE.1;have HC:Hid (∀ k,k<(xs.drop tn).length->∃ g o,a3=some ⟨g,o,none⟩/\W1.heap.size<=g/\g<w2.heap.size/\w2.cell? ⟨g,o+k,none⟩=some (.int .i64 (zi (xs.drop tn) k))):=hcell;have hzl:(xs.drop tn).length<=200:=by rw [List.length_drop];omega
 have hzl':((xs.drop tn).length:Int)<=200:=by omega
 have O2:Hid (w2.ownsRow w.heap.size 80 2 (sG w.heap.size 0 0) 0 []/\Bw W1 w2):=⟨qav HO0.out fun k hk=>(O1.2.trans (q2.mono O1.2.size)).block k (HO0.lt k hk).2,O1.2.trans (q2.mono O1.2.size)⟩
 generalize hzs:xs.drop tn=zs at *;have HZS:Hid (xs.drop tn=zs):=hzs;clear hcell q2 O1 HT HO0 hlv HLE hzs;go_wp2_with fail
 clear ks
 go_loopw [7,22] (fun o i wr=>∃ k:Nat,k<=zs.length/\i=.int .i64 k/\Hid (wr.ownsRow w.heap.size 80 2 o k (fT (itL zs) k)/\o≠nS/\(∀ j,o.ownBlock=some j->j=w.heap.size\/w2.heap.size<=j)/\Bw w wr/\w2.heap.size<=wr.heap.size/\∀ g,W1.heap.size<=g->g<w2.heap.size->wr.heap[g]? = w2.heap[g]?)) (fun _ i _=>zs.length - (intOf i).toNat)
 case atStart=>exact ⟨0,Nat.zero_le _,rfl,O2.1,by simp,fun j hj=>by cases hj;exact .inl rfl,BW.1.trans (O2.2.mono BW.1.size),Nat.le_refl _,fun _ _ _=>rfl⟩
 case round=>
  clear O2;obtain ⟨k,hk,rfl,HB⟩:=hrel;by_cases hlt:k<zs.length
  ·have hlt':(k:Int)<(zs.length:Int):=by omega
   obtain ⟨g,o,rfl,hg1,hg2,ck⟩:=HC.out k hlt;have ck:wr.cell? ⟨g,o+k,none⟩=some (.int .i64 (zi zs k)):=(zH (HB.2.2.2.2.2 g hg1 hg2)).trans ck;have HK2:Hid (k<=2000000):=by show _<=_;omega
   have hgl:g<wr.heap.size:=by have:=HB.2.2.2.2.1;omega
   go_wp2_with (at_builtin; refine qap kndT wr rfl rfl _ _ rfl w.heap.size u7 k _ rfl HB.1 #[.bool false, .int .i64 (zi zs k)] rfl rfl (by intro u hu; simp at hu; rcases hu with rfl | rfl <;> rfl) HK2.out HB.2.2.2.1.size ?_; intro v5 w5 o5 g5 q5 n5; have F5 : Hid (w5.ownsRow w.heap.size 80 2 v5 (k + 1) (fT (itL zs) (k + 1)) ∧ v5 ≠ nS ∧ (∀ j, v5.ownBlock = some j → j = w.heap.size ∨ w2.heap.size ≤ j) ∧ Below w.heap.size w w5 ∧ w2.heap.size ≤ w5.heap.size ∧ ∀ g, W1.heap.size ≤ g → g < w2.heap.size → w5.heap[g]? = w2.heap[g]?) := ⟨o5, n5, fun j hj => by
     rcases q5 j hj with h | h
     ·exact HB.2.2.1 j h
     ·exact .inr (Nat.le_trans HB.2.2.2.2.1 h), Below.grown HB.2.2.2.1 g5 HB.2.2.2.1.size (fun j hj => (HB.1.lt j hj).1), Nat.le_trans HB.2.2.2.2.1 g5.size, fun b h1 h2 => (g5.block b (Nat.lt_of_lt_of_le h2 HB.2.2.2.2.1) (fun hj => by
      have e1:=BW.2
      rcases HB.2.2.1 b hj.symm with h | h <;> omega)).trans (HB.2.2.2.2.2 b h1 h2)⟩;clear o5 g5 q5 n5)
   go_roundw
   case rel=>exact ⟨k+1,by omega,by go_num,F5.out⟩
   case measure=>simp [intOf];omega
  ·have hkn:k=zs.length:=by omega
   subst hkn;obtain ⟨a4,c4,rfl⟩:=zU HB.1;go_wp2;go_ret;rw [HZS.out];exact ⟨a4,c4,rfl,HB.1,HB.2.1,HB.2.2.2.1⟩
theorem qqd (X hc:Nat) (ha:Option Addr) (hA:Nat->Option Addr) (hC:Nat->Nat) (y:Hs) (w:World) (c0:w.cell? ⟨X,0,none⟩=some (.slice ha y.n hc)) (hE:HisE w ha hA hC y) (hl:∀ i,i<y.n->y.l i<=200) (h4:y.n<=4) (hle:∀ a,a<y.n->∀ b,b<y.n->cnt (y.e b) 3 a (y.l b)<=cnt (y.e a) 2 b (y.l a)):
  Calls prog 92 #[.pointer (some (aQ X 0))] w fun e w'=>∃ v u,e=.returned (.tuple #[v,.bool (wfB y)])/\(wfB y=true->LT true w' (fun k=>w.heap.size<=k/\k<w'.heap.size) v (y.n*y.n) u (fun i=>(wyL y (i / y.n) (i % y.n)).length) (fun i=>itL (wyL y (i / y.n) (i % y.n))))/\Bw w w':=by
 have HU:Hid (∀ wx,Bw w wx->∀ a b,a<y.n->b<y.n->Calls prog 111 #[.pointer (some ⟨X,0,none⟩),.int .i64 (a:Nat),.int .i64 (b:Nat)] wx fun e w'=>∃ a1 c1,e=.returned (.slice a1 (wyL y a b).length c1)/\w'.ownsRow wx.heap.size 80 2 (.slice a1 (wyL y a b).length c1) (wyL y a b).length (fT (itL (wyL y a b)) (wyL y a b).length)/\Value.slice a1 (wyL y a b).length c1≠nS/\Bw wx w'):=fun wx hb a b ha' hb'=>ql4 X hc ha hA hC y a b wx ((hb.cell (p:=⟨X,0,none⟩) (zJ w _ c0)).trans c0) (hE.below hb) hl ha' hb' (hle a ha' b hb');have HC0:Hid (∀ wx,Bw w wx->wx.cell? ⟨X,0,none⟩=some (.slice ha y.n hc)):=fun wx hb=>(hb.cell (p:=⟨X,0,none⟩) (zJ w _ c0)).trans c0;have hl':(y.n:Int)<=4:=by omega
 have HW:Hid (∀ a b,a<y.n->(wyL y a b).length<=200):=fun a b ha'=>by
  unfold wyL;rw [List.length_drop,qb7];have h1:=qf3 (y.e a) 2 b (y.l a);have h2:=hl a ha';omega
 have HF:Hid (wfB y=qB (∀ a,a<y.n->∀ b,b<y.n->(wyL y a b).length<=12)):=rfl;clear hE hl hle c0;generalize wfB y=R at *;obtain ⟨L,hLe⟩:∃ L:Nat->Nat,(fun i=>(wyL y (i / y.n) (i % y.n)).length)=L:=⟨_,rfl⟩
 obtain ⟨H,hHe⟩:∃ H:Nat->Nat->I2,(fun i=>itL (wyL y (i / y.n) (i % y.n)))=H:=⟨_,rfl⟩
 rw [hLe,hHe]
 have HLH:Hid (∀ k j,j<y.n->(wyL y k j).length=L (k*y.n+j)/\itL (wyL y k j)=H (k*y.n+j)):=fun k j hj=>by
  obtain ⟨e1,e2⟩:=qwb (a:=k) hj;rw [<- hLe,<- hHe];dsimp only;rw [e1,e2];exact ⟨rfl,rfl⟩
 clear hLe hHe
 go_enter func92,ntmps92
 have c1:=HC0.out (w.alloc (.cells #[] 95)) (zT _ _);go_wp2_with fail
 clear c1
 go_loopw [4,14] (fun v i wr=>∃ k:Nat,k<=y.n/\i=.int .i64 k/\Hid ((∃ u,LT true wr (fun b=>w.heap.size<=b/\b<wr.heap.size) v (k*y.n) u L H)/\Bw w wr)/\Hid (∀ a,a<k->∀ b,b<y.n->(wyL y a b).length<=12)) (fun _ i _=>y.n - (intOf i).toNat)
 case atStart=>exact ⟨0,Nat.zero_le _,rfl,⟨⟨fun _=>.slice none 0 0,by rw [Nat.zero_mul];exact LL.new _ _ _ w _ (by simp) _ _ _⟩,zT _ _⟩,fun j hj=>by omega⟩
 case round=>
  obtain ⟨k,hk,rfl,HB,HK⟩:=hrel;by_cases hlt:k<y.n
  ·have hlt':(k:Int)<(y.n:Int):=by omega
   have c1:=HC0.out wr HB.2;go_wp2_with fail
   clear c1
   go_loopw [4,22] (fun v i wr=>∃ j:Nat,j<=y.n/\i=.int .i64 j/\Hid ((∃ u,LT true wr (fun b=>w.heap.size<=b/\b<wr.heap.size) v (k*y.n+j) u L H)/\Bw w wr)/\Hid (∀ b,b<j->(wyL y k b).length<=12)) (fun _ i _=>y.n - (intOf i).toNat)
   case atStart=>exact ⟨0,Nat.zero_le _,rfl,HB.out,fun j hj=>by omega⟩
   case round=>
    clear HB;obtain ⟨j,hj,rfl,HB,HJ⟩:=hrel;by_cases hjt:j<y.n
    ·have hjt':(j:Int)<(y.n:Int):=by omega
     go_wp2_with fail
     refine (HU.out _ HB.2 k j hlt hjt).mono ?_;rintro e w3 ⟨a3,c3,rfl,o3,n3,q3⟩;have hm:=HW.out k j hlt;by_cases ho:12<(wyL y k j).length
     ·have HV:Hid (R=false):=by
       show R=false;rw [HF.out]
       exact qat fun h=>by
        have h1:=h k hlt j hjt;omega
      have ho':(12:Int)<((wyL y k j).length:Int):=by omega
      have B3:Hid (Bw w w3):=HB.2.trans (q3.mono HB.2.size);generalize (wyL y k j).length=m at *;clear o3 n3 q3 HB;go_wp2;exact bodyPost_ret (v:=.tuple #[nS,.bool false]) (by simp [results,results92,go_sem]) rfl ⟨_,fun _=>.slice none 0 0,by rw [HV.out],fun h=>(by rw [HV.out] at h;cases h),B3.out⟩
     ·have ho':¬ (12:Int)<((wyL y k j).length:Int):=by omega
      have HJ':Hid (∀ b,b<j+1->(wyL y k b).length<=12):=fun b hb=>by
       by_cases e:b=j
       ·subst e
        omega
       ·exact HJ.out b (by omega)
      rw [(HLH.out k j hjt).1,(HLH.out k j hjt).2] at o3;rw [(HLH.out k j hjt).1] at n3 ho' hm ⊢;have h16:k*y.n<=4*4:=Nat.mul_le_mul (by omega) h4;have HK2:Hid (k*y.n+j<=2000000):=by show _<=_;omega
      have F4:Hid (w3.ownsRow wr.heap.size 80 2 (.slice a3 (L (k*y.n+j)) c3) (L (k*y.n+j)) (fT (H (k*y.n+j)) (L (k*y.n+j)))/\Bw wr w3/\Value.slice a3 (L (k*y.n+j)) c3≠nS):=⟨o3,q3,n3⟩
      obtain ⟨⟨u,oz⟩,bz⟩:=HB.out;have OZ:Hid (LT true wr (fun b=>w.heap.size<=b/\b<wr.heap.size) u4 (k*y.n+j) u L H):=oz;have BZ:Hid (Bw w wr):=bz;clear HJ o3 n3 q3 ho oz bz HB h16;generalize hkk:k*y.n+j=kk at *;have HKK:Hid (k*y.n+j=kk):=hkk;clear hkk;go_wp2_with (at_builtin;refine qap qmv w3 rfl rfl _ _ rfl 0 u4 kk _ rfl (OZ.below F4.2.1).row #[.slice a3 (L kk) c3] rfl rfl (by intro u hu;simp at hu;subst hu;rfl) HK2.out (Nat.zero_le _) ?_;intro v5 w5 o5 g5 q5 n5;have F5:Hid (LT true w5 (fun b=>w.heap.size<=b/\b<w5.heap.size) v5 (kk+1) (fun j=>if j=kk then .slice a3 (L kk) c3 else u j) L H/\Bw w w5):=⟨OZ.push F4.2.1 F4.1 (fun _=>F4.2.2) o5 g5 q5 (fun j hj _=>⟨hj.1,zL hj.2 (zP F4.2.1.size g5.size)⟩) (fun j hj hj'=>⟨zP BZ.size hj,hj'⟩),Below.grown (BZ.trans (F4.2.1.mono BZ.size)) g5 (zP BZ.size F4.2.1.size) (fun j hj=>(OZ.rb j hj).1)⟩;clear o5 g5 q5 n5)
      go_roundw
      case rel=>exact ⟨j+1,by omega,by go_num,⟨⟨_,by rw [<- Nat.add_assoc,HKK.out];exact F5.1⟩,F5.2⟩,HJ'.out⟩
      case measure=>simp [intOf];omega
    ·have HK':Hid (∀ a,a<k+1->∀ b,b<y.n->(wyL y a b).length<=12):=fun a ha b hb=>by
      by_cases e:a=k
      ·subst e
       exact HJ.out b (by omega)
      ·exact HK.out a (by omega) b hb
     have hjn:j=y.n:=by omega
     have HB':Hid ((∃ u,LT true wr (fun b=>w.heap.size<=b/\b<wr.heap.size) u4 ((k+1)*y.n) u L H)/\Bw w wr):=by
      have:=HB.out;rw [hjn] at this;rw [Nat.add_mul,Nat.one_mul];exact this
     clear HK HJ HB hjn;go_wp2;go_roundw
     case rel=>exact ⟨k+1,by omega,by go_num,HB'.out,HK'.out⟩
     case measure=>simp [intOf];omega
  ·have HV:Hid (R=true):=by
    show R=true;rw [HF.out];exact qay fun a ha b hb=>HK.out a (by omega) b hb
   have hkn:k=y.n:=by omega
   subst hkn;obtain ⟨⟨u,oz⟩,bz⟩:=HB.out;have OZ:Hid (LT true wr (fun b=>w.heap.size<=b/\b<wr.heap.size) u4 (y.n*y.n) u L H/\Bw w wr):=⟨oz,bz⟩
   clear HK HB oz bz;go_wp2;exact bodyPost_ret (v:=.tuple #[u4,.bool true]) (by simp [results,results92,go_sem]) rfl ⟨_,u,by rw [HV.out],fun _=>OZ.1,OZ.2⟩
structure AtP (z:Bool) (B N:Nat) (c:Nat->Nat) (y:Sy) (wx:World) (vp vs vw vh:Value) (up us uw uh:Nat->Value):Prop where
 bx:BoxC wx N vp vs vw vh
 fr:∀ j,wx.frozen? ⟨N,j,none⟩=false
 cN:c N=0
 bN:B<=N
 o:OwnS z wx B c y vp vs vw vh up us uw uh
section
variable {z:Bool} {B N:Nat} {c:Nat->Nat} {y:Sy} {wr:World} {vp vs vw vh:Value} {up us uw uh:Nat->Value}
theorem AtP.lt (h:AtP z B N c y wr vp vs vw vh up us uw uh):N<wr.heap.size:=zJ wr _ h.bx.1
theorem AtP.below (h:AtP z B N c y wr vp vs vw vh up us uw uh) {w':World} (hb:Bw wr w'):AtP z B N c y w' vp vs vw vh up us uw uh:=
 ⟨h.bx.below hb,fun j=>by rw [zI (hb.block N h.lt)];exact h.fr j,h.cN,h.bN,h.o.below hb⟩
theorem AtP.state (h:AtP z B N c y wr vp vs vw vh up us uw uh) {w1 w3:World} {u' v':Value} (b1:Bw wr w1) (hu:qae w1 wr.heap.size u' (y.sS y.sn).p (y.sS y.sn).rs (y.sS y.sn).os (y.sS y.sn).c) (hv:w3.ownsRow 0 73 4 v' (y.sn+1) (flat (fun i=>cellsL (us i)) y.sn ++ cellsL u')) (g:w1.grownBy w3 vs.ownBlock) (hv':∀ j,v'.ownBlock=some j->vs.ownBlock=some j\/w1.heap.size<=j):
  AtP z B N (rcol c wr.heap.size 2) { y with sn:=y.sn+1 } (w3.setCell (aQ N 1) v') vp v' vw vh up (fun j=>if j=y.sn then u' else us j) uw uh:=by
 have hN:=h.lt;have hkeep:∀ k,k<wr.heap.size->c k≠2->w3.heap[k]? = wr.heap[k]?:=fun k hk hc=>(g.block k (zL hk b1.size) fun e=>hc (h.o.s.rb k e.symm).2).trans (b1.block k hk);have hset:∀ k,k≠N->(w3.setCell ⟨N,1,none⟩ v').heap[k]? = w3.heap[k]?:=fun k hk=>zO _ _ _ _ hk;have hcN:rcol c wr.heap.size 2 N=0:=(qa1 hN).trans h.cN;have hBN:w3.heap[N]? = wr.heap[N]?:=hkeep N hN (by rw [h.cN];decide)
 have hkk:∀ i,i≠2->i≠0->∀ k,Cl B (rcol c wr.heap.size 2) i k->k<wr.heap.size->(w3.setCell ⟨N,1,none⟩ v').heap[k]? = wr.heap[k]?:=fun i h2 h0 k hk hl=>by
  have e:c k=i:=(qa1 hl).symm.trans hk.2;exact (hset k fun en=>h0 (by rw [<- e,en,h.cN])).trans (hkeep k hl (by rw [e];exact h2))
 have hP:∀ i k,Cl B c i k->k<wr.heap.size->Cl B (rcol c wr.heap.size 2) i k:=fun i k hk hl=>hk.old hl;have hP':∀ k,wr.heap.size<=k->k<w3.heap.size->Cl B (rcol c wr.heap.size 2) 2 k:=fun k hk _=>⟨zP h.bN (zP (Nat.le_of_lt hN) hk),qaj hk⟩
 obtain ⟨x0,x1,x2,x3⟩:=h.bx;have hc:∀ j,w3.cell? ⟨N,j,none⟩=wr.cell? ⟨N,j,none⟩:=fun j=>zH hBN
 have hnew:∀ k,Cl B (rcol c wr.heap.size 2) 2 k->k<w3.heap.size->(w3.setCell ⟨N,1,none⟩ v').heap[k]? = w3.heap[k]?:=fun k hk _=>hset k fun e=>by
  have e2:=hk.2;rw [e,hcN] at e2;cases e2
 refine ⟨⟨?_,?_,?_,?_⟩,fun j=>?_,hcN,h.bN,⟨?_,?_,?_,?_⟩⟩
 ·rw [World.cell?_setCell_other _ _ _ _ (by simp),hc];exact x0
 ·exact World.cell?_setCell_same _ _ _ ((hc 1).trans x1)
 ·rw [World.cell?_setCell_other _ _ _ _ (by simp),hc];exact x2
 ·rw [World.cell?_setCell_other _ _ _ _ (by simp),hc];exact x3
 ·rw [World.frozen?_setCell,zI hBN];exact h.fr j
 ·exact (h.o.p.mono (hP 1)).keep (hkk 1 (by decide) (by decide))
 ·exact (h.o.s.push b1 hu hv g hv' (hP 2) hP').keep hnew
 ·exact (h.o.t.mono (hP 3)).keep (hkk 3 (by decide) (by decide))
 ·exact (h.o.h.mono (hP 4)).keep (hkk 4 (by decide) (by decide))
theorem AtP.hist (h:AtP z B N c y wr vp vs vw vh up us uw uh) {w1 w3:World} {u' v':Value} (b1:Bw wr w1) (hu:w1.ownsRow wr.heap.size 83 3 u' (y.hL y.hn) (fE (y.hH y.hn) (y.hL y.hn))) (hne:u'≠nS) (hv:w3.ownsRow 0 36 1 v' (y.hn+1) ((List.range y.hn).map uh ++ [u'])) (g:w1.grownBy w3 vh.ownBlock) (hv':∀ j,v'.ownBlock=some j->vh.ownBlock=some j\/w1.heap.size<=j):
  AtP z B N (rcol c wr.heap.size 4) { y with hn:=y.hn+1 } (w3.setCell (aQ N 3) v') vp vs vw v' up us uw (fun j=>if j=y.hn then u' else uh j):=by
 have hN:=h.lt;have hkeep:∀ k,k<wr.heap.size->c k≠4->w3.heap[k]? = wr.heap[k]?:=fun k hk hc=>(g.block k (zL hk b1.size) fun e=>hc (h.o.h.rb k e.symm).2).trans (b1.block k hk);have hset:∀ k,k≠N->(w3.setCell ⟨N,3,none⟩ v').heap[k]? = w3.heap[k]?:=fun k hk=>zO _ _ _ _ hk;have hcN:rcol c wr.heap.size 4 N=0:=(qa1 hN).trans h.cN;have hBN:w3.heap[N]? = wr.heap[N]?:=hkeep N hN (by rw [h.cN];decide)
 have hkk:∀ i,i≠4->i≠0->∀ k,Cl B (rcol c wr.heap.size 4) i k->k<wr.heap.size->(w3.setCell ⟨N,3,none⟩ v').heap[k]? = wr.heap[k]?:=fun i h2 h0 k hk hl=>by
  have e:c k=i:=(qa1 hl).symm.trans hk.2;exact (hset k fun en=>h0 (by rw [<- e,en,h.cN])).trans (hkeep k hl (by rw [e];exact h2))
 have hP:∀ i k,Cl B c i k->k<wr.heap.size->Cl B (rcol c wr.heap.size 4) i k:=fun i k hk hl=>hk.old hl;have hP':∀ k,wr.heap.size<=k->k<w3.heap.size->Cl B (rcol c wr.heap.size 4) 4 k:=fun k hk _=>⟨zP h.bN (zP (Nat.le_of_lt hN) hk),qaj hk⟩
 obtain ⟨x0,x1,x2,x3⟩:=h.bx;have hc:∀ j,w3.cell? ⟨N,j,none⟩=wr.cell? ⟨N,j,none⟩:=fun j=>zH hBN
 have hnew:∀ k,Cl B (rcol c wr.heap.size 4) 4 k->k<w3.heap.size->(w3.setCell ⟨N,3,none⟩ v').heap[k]? = w3.heap[k]?:=fun k hk _=>hset k fun e=>by
  have e2:=hk.2;rw [e,hcN] at e2;cases e2
 refine ⟨⟨?_,?_,?_,?_⟩,fun j=>?_,hcN,h.bN,⟨?_,?_,?_,?_⟩⟩
 ·rw [World.cell?_setCell_other _ _ _ _ (by simp),hc];exact x0
 ·rw [World.cell?_setCell_other _ _ _ _ (by simp),hc];exact x1
 ·rw [World.cell?_setCell_other _ _ _ _ (by simp),hc];exact x2
 ·exact World.cell?_setCell_same _ _ _ ((hc 3).trans x3)
 ·rw [World.frozen?_setCell,zI hBN];exact h.fr j
 ·exact (h.o.p.mono (hP 1)).keep (hkk 1 (by decide) (by decide))
 ·exact (h.o.s.mono (hP 2)).keep (hkk 2 (by decide) (by decide))
 ·exact (h.o.t.mono (hP 3)).keep (hkk 3 (by decide) (by decide))
 ·exact (h.o.h.push b1 hu (fun _=>hne) hv g hv' (hP 4) hP').keep hnew
end
theorem AtP.box {z:Bool} {B N:Nat} {c:Nat->Nat} {y:Sy} {wr w1 w3:World} {vp vs vw vh:Value} {up us uw uh:Nat->Value} (h:AtP z B N c y wr vp vs vw vh up us uw uh) (b1:Bw wr w1) {ob:Option Nat} (g:w1.grownBy w3 ob) (hob:∀ k,ob=some k->c k≠0):BoxC w3 N vp vs vw vh/\∀ j,w3.frozen? ⟨N,j,none⟩=false:=by
 have hN:=h.lt;have e:w3.heap[N]? = wr.heap[N]?:=(g.block N (zL hN b1.size) fun e=>hob N e.symm h.cN).trans (b1.block N hN);obtain ⟨x0,x1,x2,x3⟩:=h.bx;exact ⟨⟨(zH e).trans x0,(zH e).trans x1,(zH e).trans x2,(zH e).trans x3⟩,fun j=>(zI e).trans (h.fr j)⟩
theorem AtP.gS {z:Bool} {B N:Nat} {c:Nat->Nat} {y:Sy} {wr:World} {vp vs vw vh:Value} {up us uw uh:Nat->Value} (h:AtP z B N c y wr vp vs vw vh up us uw uh):∀ k,vs.ownBlock=some k->B<=k/\c k≠0:=fun k hk=>⟨(h.o.s.rb k hk).1,by rw [(h.o.s.rb k hk).2];decide⟩
theorem AtP.gH {z:Bool} {B N:Nat} {c:Nat->Nat} {y:Sy} {wr:World} {vp vs vw vh:Value} {up us uw uh:Nat->Value} (h:AtP z B N c y wr vp vs vw vh up us uw uh):∀ k,vh.ownBlock=some k->B<=k/\c k≠0:=fun k hk=>⟨(h.o.h.rb k hk).1,by rw [(h.o.h.rb k hk).2];decide⟩
theorem qlo {t e:TypeId} {size bytes:Nat} (K:Kind t e size bytes) (w:World) (ty:TypeId) (a0:Option Addr) (m c:Nat) (news:List Value) (hl:news.length=m*size) (hsrc:Src w a0 news) (h1:∀ u ∈ news,u.oneCell'=true) (cs:Array Value) (hz:cs.size=m*size):
  (Builtin.copy_ #[t,t] ty #[.slice (some (aQ w.heap.size 0)) m m,.slice a0 m c]).run prog (w.alloc (.cells cs e))=.ok (goInt m) (w.alloc (.cells news.toArray e)):=by
 obtain ⟨i,z,hi,-,hs,-,-⟩:=K.inf;have hg:(w.alloc (.cells cs e)).heap[w.heap.size]? = some (.cells cs e (0,0)):=heap_alloc_new w _;have hst:=run_storeCells_at prog w.heap.size 0 e news 0 cs (w.alloc (.cells cs e)) hg (by rw [hl,hz];omega) h1;have hmin:Nat.min m m=m:=Nat.min_self m;cases a0 with
 | none=>
  have hn0:news=[]:=by
   rcases hsrc with h | ⟨b,off,e,_⟩
   ·exact h
   ·cases e
  subst hn0
  have hm:m=0:=by
   simp only [List.length_nil] at hl
   rcases Nat.eq_zero_or_pos m with h | h
   ·exact h
   ·have:=Nat.mul_pos h K.pos
    omega
  subst hm
  have hc:cs=#[]:=by
   have:cs.size=0:=by omega
   exact Array.eq_empty_of_size_eq_zero this
  subst hc;simp [Builtin.copy_,run_underlying K.und,Builtin.lenOf,Builtin.firstCells,sizeOf,typeInfo,hi,storeCells]
 | some a=>
  have hnews:∀ j u,news[j]? = some u->(w.alloc (.cells cs e)).cell? (a.add j)=some u:=by
   rcases hsrc with h0 | ⟨b,off,e,hlt,hc⟩
   ·subst h0
    intro j u hj;simp at hj
   ·cases e
    intro j u hj;have ha:Addr.add ⟨b,off,none⟩ j=⟨b,off+j,none⟩:=by unfold Addr.add;split <;> simp_all
    rw [ha];exact ((zQ w _).cell (p:=⟨b,off+j,none⟩) hlt).trans (hc j u hj)
  have hld:=run_loadCells_list (P:=prog) (w.alloc (.cells cs e)) a news hnews;rw [hl] at hld;simp only [List.take_zero,List.nil_append,Nat.zero_add] at hst;rw [List.drop_of_length_le (by simp [hl,hz]),List.append_nil,qej] at hst;simp [Builtin.copy_,run_underlying K.und,Builtin.lenOf,Builtin.firstCells,sizeOf,typeInfo,hi,hs,hld,hst]
theorem qj4 {t e:TypeId} {size bytes:Nat} (K:Kind t e size bytes) (n:Nat) (hn:n<=1048576):∃ cs:Array Value,cs.size=n*size/\∀ w:World,(Instr.makeSlice t (.int .i64 (n:Int)) (.int .i64 (n:Int))).run prog w=.ok (sG w.heap.size n n) (w.alloc (.cells cs e)):=by
 obtain ⟨i,z,hi,hz,hs,hb,hzs⟩:=K.inf;refine ⟨madeCells z.cells (n*size),size_madeCells _ _,fun w=>?_⟩
 have hby:i.bytes*n<=281474976710656:=by
  rw [hb];exact zP (Nat.mul_le_mul K.sml hn) (by omega)
 have hby':(i.bytes:Int)*(n:Int)<=281474976710656:=by rw [<- Int.natCast_mul];exact Int.ofNat_le.2 hby
 have h:=run_make (P:=prog) w t e i z K.und hi hz .i64 .i64 (n:Int) (n:Int) (by omega) (by omega) hby' (by omega);rw [hs,Int.toNat_natCast] at h;exact h
theorem qht (ea:Option Addr) (n cap:Nat) (H:Nat->E3) (w:World) (hn:n<=1048576) (hS:Src w ea (fE H n)):
  Calls prog 93 #[.slice ea n cap] w fun e w'=>∃ a1 c1,e=.returned (.slice a1 n c1)/\w'.ownsRow w.heap.size 83 3 (.slice a1 n c1) n (fE H n)/\Value.slice a1 n c1≠nS/\Bw w w':=by
 have hn':(n:Int)<=1048576:=by omega
 obtain ⟨cs,hcs,hmk⟩:=qj4 kndE n hn;have hcp:=qlo kndE w 3 ea n cap (fE H n) (qk3 _ _) hS (qn0 _ _) cs hcs
 have HO:Hid ((w.alloc (.cells (fE H n).toArray 83)).ownsRow w.heap.size 83 3 (sG w.heap.size n n) n (fE H n)/\Bw w (w.alloc (.cells (fE H n).toArray 83))):=by
  refine ⟨?_,zQ _ _⟩;have:=World.ownsRow_lit (base:=w.heap.size) (e:=83) (size:=3) w (fE H n).toArray n (Nat.le_refl _) (by unfold maxLen;omega) (by simp [qk3]);exact this
 clear hS hcs
 go_enter func93,ntmps93
 go_wp2;go_ret;exact ⟨_,_,rfl,HO.1,by simp,HO.2⟩
