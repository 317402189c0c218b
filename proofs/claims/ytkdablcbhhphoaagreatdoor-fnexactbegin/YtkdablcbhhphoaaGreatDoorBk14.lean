import Derived.Test.YtkdablcbhhphoaaGreatDoorBk11
import Derived.Test.YtkdablcbhhphoaaGreatDoorBk13
import Derived.BigRegion
namespace Go.Proofs.YtkdablcbhhphoaaGreatDoor
set_option maxRecDepth 100000
set_option maxHeartbeats 4000000
open Go.RowKit
def cnt (eh:Nat->E3) (kd pr:Int) (n:Nat):Nat:=(plN eh kd pr n).length
theorem qv5 (eh:Nat->E3) (kd pr:Int):cnt eh kd pr 0=0:=rfl
theorem qkm {eh:Nat->E3} {kd pr:Int} {n:Nat} (h:hitB eh kd pr n=true):cnt eh kd pr (n+1)=cnt eh kd pr n+1:=by
 unfold cnt;rw [plN,if_pos h,List.length_append];rfl
theorem qpj {eh:Nat->E3} {kd pr:Int} {n:Nat} (h:hitB eh kd pr n=false):cnt eh kd pr (n+1)=cnt eh kd pr n:=by
 unfold cnt;rw [plN,if_neg (by rw [h];decide)]
theorem qxe (eh:Nat->E3) (kd pr:Int) (n:Nat):cnt eh kd pr n<=n:=qru eh kd pr n
theorem qkn (eh:Nat->E3) (kd pr:Int) {a b:Nat} (h:a<=b):cnt eh kd pr a<=cnt eh kd pr b:=by
 induction b with
 | zero=>
  have:a=0:=by omega
  subst this;exact Nat.le_refl _
 | succ b ih=>
  by_cases e:a=b+1
  ·subst e
   exact Nat.le_refl _
  ·have:=ih (by omega)
   rcases zK (hitB eh kd pr b) with t | t
   ·rw [qkm t]
    omega
   ·rw [qpj t]
    exact this
theorem qec {eh:Nat->E3} {kd pr:Int} {i:Nat}:hitB eh kd pr i=true ↔ (eh i).k=kd/\(eh i).q=pr:=by
 simp [hitB]
structure Hs where
 n:Nat
 l:Nat->Nat
 e:Nat->Nat->E3
def Hs.Peers (x:Hs):Prop:=∀ p,p<x.n->∀ i,i<x.l p->0<=(x.e p i).q/\(x.e p i).q<(x.n:Int)
def Hs.Can (x:Hs) (d:Nat->Nat) (p:Nat):Prop:=
 d p<x.l p/\((x.e p (d p)).k=3->cnt (x.e p) 3 (x.e p (d p)).q (d p)<cnt (x.e (x.e p (d p)).q.toNat) 2 p (d (x.e p (d p)).q.toNat))
def up (d:Nat->Nat) (p:Nat):Nat->Nat:=fun i=>if i=p then d i+1 else d i
theorem qd9 (d:Nat->Nat) (p:Nat):up d p p=d p+1:=by simp [up]
theorem up_other {d:Nat->Nat} {p i:Nat} (h:i≠p):up d p i=d i:=by simp [up,h]
inductive Hs.Put (x:Hs):(Nat->Nat)->Prop
 | start:x.Put (fun _=>0)
 | next {d:Nat->Nat} {p:Nat}:x.Put d->p<x.n->x.Can d p->x.Put (up d p)
def Hs.All (x:Hs) (d:Nat->Nat):Prop:=∀ p,p<x.n->d p=x.l p
def Hs.Row (x:Hs):Prop:=∃ d,x.Put d/\x.All d
theorem Hs.Put.le {x:Hs} {d:Nat->Nat} (h:x.Put d):∀ p,d p<=x.l p:=by
 induction h with
 | start=>exact fun _=>Nat.zero_le _
 | next _ _ hc ih=>
  rename_i d p _ _;intro i;by_cases e:i=p
  ·subst e
   rw [qd9];exact hc.1
  ·rw [up_other e]
   exact ih i
theorem Hs.Put.stuck {x:Hs} {d s:Nat->Nat} (h:x.Put d) (hp:x.Peers) (hs:∀ p,p<x.n->¬ x.Can s p):∀ p,p<x.n->d p<=s p:=by
 induction h with
 | start=>exact fun _ _=>Nat.zero_le _
 | next _ hpn hc ih=>
  rename_i d p _;intro i hi;by_cases e:i=p
  ·subst e
   rw [qd9];have h1:=ih i hi;by_cases e:d i=s i
   ·exfalso
    refine hs i hi ⟨by rw [<- e];exact hc.1,fun hk=>?_⟩;rw [<- e] at hk ⊢;have h2:=hc.2 hk;have hq:=hp i hi (d i) hc.1;exact zL h2 (qkn _ _ _ (ih _ (by omega)))
   ·omega
  ·rw [up_other e]
   exact ih i hi
theorem Hs.row_iff {x:Hs} {s:Nat->Nat} (h:x.Put s) (hp:x.Peers) (hs:∀ p,p<x.n->¬ x.Can s p):x.Row ↔ x.All s:=by
 refine ⟨fun ⟨d,hd,ha⟩ p hpn=>?_,fun ha=>⟨s,h,ha⟩⟩;have h1:=hd.stuck hp hs p hpn;have h2:=h.le p;have h3:=ha p hpn;omega
def Hs.opn (x:Hs) (d:Nat->Nat) (a b:Nat):Int:=(cnt (x.e a) 2 b (d a):Int) - (cnt (x.e b) 3 a (d b):Int)
theorem Hs.opn_start (x:Hs) (a b:Nat):x.opn (fun _=>0) a b=0:=by simp [Hs.opn,qv5]
theorem Hs.can_iff {x:Hs} {d:Nat->Nat} {p:Nat} (hp:x.Peers) (hpn:p<x.n):x.Can d p ↔ d p<x.l p/\((x.e p (d p)).k=3->0<x.opn d (x.e p (d p)).q.toNat p):=by
 unfold Hs.Can Hs.opn;refine and_congr_right fun hl=>?_;have hq:=hp p hpn _ hl;rw [show (((x.e p (d p)).q.toNat:Nat):Int)=(x.e p (d p)).q by omega];refine ⟨fun h hk=>?_,fun h hk=>?_⟩
 ·have:=h hk
  omega
 ·have:=h hk
  omega
theorem Hs.opn_up {x:Hs} {d:Nat->Nat} {p a b:Nat}:x.opn (up d p) a b=x.opn d a b+(if a=p/\(x.e p (d p)).k=2/\(x.e p (d p)).q=(b:Int) then 1 else 0) - (if b=p/\(x.e p (d p)).k=3/\(x.e p (d p)).q=(a:Int) then 1 else 0):=by
 have hA:(cnt (x.e a) 2 b (up d p a):Int)=cnt (x.e a) 2 b (d a)+(if a=p/\(x.e p (d p)).k=2/\(x.e p (d p)).q=(b:Int) then 1 else 0):=by
  by_cases e:a=p
  ·subst e
   rw [qd9]
   rcases zK (hitB (x.e a) 2 b (d a)) with t | t
   ·rw [qkm t,if_pos ⟨rfl,qec.1 t⟩]
    omega
   ·rw [qpj t,if_neg (fun h=>by rw [qec.2 h.2] at t;cases t)]
    omega
  ·rw [up_other e,if_neg (fun h=>e h.1)]
   omega
 have hB:(cnt (x.e b) 3 a (up d p b):Int)=cnt (x.e b) 3 a (d b)+(if b=p/\(x.e p (d p)).k=3/\(x.e p (d p)).q=(a:Int) then 1 else 0):=by
  by_cases e:b=p
  ·subst e
   rw [qd9]
   rcases zK (hitB (x.e b) 3 a (d b)) with t | t
   ·rw [qkm t,if_pos ⟨rfl,qec.1 t⟩]
    omega
   ·rw [qpj t,if_neg (fun h=>by rw [qec.2 h.2] at t;cases t)]
    omega
  ·rw [up_other e,if_neg (fun h=>e h.1)]
   omega
 unfold Hs.opn;rw [hA,hB];omega
theorem qd4 {n:Nat} {p code:Int} {rs os:List Int} (h1:rs.length=4) (h2:allN rs=true) (h3:0<=code/\code<=2) (h4:belB p n=true) (h5:os.length<=60) (h6:allN os=true):qc6 n p rs os code=true:=by
 have e:inB code 0 2=true:=by simp [inB];omega
 have e5:((os.length:Int)<=60):=by omega
 simp [qc6,qcy,outB,h1,h2,e,h4,e5,h6]
theorem qq7 {xs:List Int} {j:Nat} {v:Int} (h:allN xs=true) (hv:numB v=true):allN (xs.set j v)=true:=by
 unfold allN at h ⊢;rw [List.all_eq_true] at h ⊢;intro x hx
 rcases List.mem_or_eq_of_mem_set hx with h1 | h1
 ·exact h x h1
 ·rw [h1];exact hv
def OkS (len:Nat) (S:S4):Prop:=qc6 len S.p S.rs S.os S.c=true
theorem qnd {len k:Nat} {rs os:List Int} (hk:k<len) (h1:rs.length=4) (h2:allN rs=true) (h5:os.length<=60) (h6:allN os=true):OkS len (goS len k rs os 0):=by
 unfold OkS goS goP goC;by_cases h:(len:Int)<=(k:Int)+1
 ·simp only [h,if_true]
  exact qd4 h1 h2 (by omega) (by simp [belB];omega) h5 h6
 ·simp only [h,if_false]
  exact qd4 h1 h2 (by omega) (by simp [belB];omega) h5 h6
theorem qrb {g:Nat->I5} {len:Nat} {p:Int} {rs os:List Int} {code ek eq ev:Int} (hB:doB g len p rs os code ek eq ev=true):OkS len (doS g len p rs os code ek eq ev):=by
 have hR:=qdr hB;obtain ⟨hp,hs,rfl⟩:=qbb hR;obtain ⟨⟨a1,a2,a3,a4,rfl,n1,n2,n3,n4⟩,⟨k,rfl,hk⟩,h60,hN⟩:=qck hs
 have hS:doS g len k [a1,a2,a3,a4] os 0 ek eq ev=qah len (g k) k [a1,a2,a3,a4] os 0 ev:=by
  unfold doS;rw [if_pos hB,Int.toNat_natCast]
 rw [hS];have hins:=qbt hp hk;obtain ⟨⟨o1,o11⟩,⟨r0,r3⟩,⟨m0,m3⟩,⟨q0,q3⟩⟩:=qcb hins;have hA:allN [a1,a2,a3,a4]=true:=by simp [allN,n1,n2,n3,n4]
 have hz:∀ j,j<4->numB (zi [a1,a2,a3,a4] j)=true:=fun j hj=>by
  match j,hj with
  | 0,_=>exact n1
  | 1,_=>exact n2
  | 2,_=>exact n3
  | 3,_=>exact n4
 have hkB:belB (k:Int) len=true:=by simp [belB];omega
 have hc:=hB;unfold doB nxK nxP nxW at hc;rw [if_pos hR,if_pos hR,if_pos hR,Int.toNat_natCast] at hc
 have v7:(g k).o=7->numB ev=true:=fun h=>by
  rw [h,show evK 7=3 from rfl,qib] at hc;simp only [Bool.and_eq_true] at hc;exact hc.1.2
 have v8:(g k).o=8->numB ev=true:=fun h=>by
  rw [h,show evK 8=4 from rfl,qeb (by decide) (by decide)] at hc;unfold qel at hc;simp only [Bool.and_eq_true,beq_iff_eq] at hc;rw [hc.2.2];exact hz _ (by omega)
 unfold qah
 split
 ·exact qnd hk rfl hA h60 hN
 split
 ·rename_i h7
  exact qnd hk (by simp) (qq7 hA (v7 h7)) h60 hN
 split
 ·rename_i h8
  split
  ·exact qd4 rfl hA (by simp) hkB h60 hN
  ·refine qnd hk rfl hA (by simp;omega) ?_
   unfold allN at hN ⊢;rw [List.all_append,hN];simp [v8 h8]
 split
 ·rename_i h9
  exact qd4 rfl hA (by simp) (qk8 hins (.inl h9)) h60 hN
 split
 ·rename_i h10
  split
  ·exact qd4 rfl hA (by simp) (qk8 hins (.inr h10)) h60 hN
  ·exact qnd hk rfl hA h60 hN
 split
 ·exact qd4 rfl hA (by simp) hkB h60 hN
 split
 ·rename_i hv
  exact qnd hk (by simp) (qq7 hA hv) h60 hN
 ·exact qd4 rfl hA (by simp) hkB h60 hN
theorem Tl.widen {w:World} {B C C' N:Nat} {p c:Int} {ra:Option Addr} {rn rc:Nat} {oa:Option Addr} {on oc:Nat} {rs os:List Int} (h:Tl w B C N p c ra rn rc oa on oc rs os) (h1:C<=C') (h2:C'<=w.heap.size):Tl w B C' N p c ra rn rc oa on oc rs os:=
 ⟨h.lo,zL h.hi h1,h2,h.box,h.own,fun k hk=>zL (h.up k hk) h1,h.ne⟩
def newS:S4:=⟨0,[0,0,0,0],[],0⟩
def qeo (g:Nat->I5) (len:Nat) (x:E3) (S:S4):Option S4:=if doB g len S.p S.rs S.os S.c x.k x.q x.v=true then some (doS g len S.p S.rs S.os S.c x.k x.q x.v) else none
def rp (g:Nat->I5) (len:Nat) (h:Nat->E3):Nat->Option S4
 | 0=>some newS
 | k+1=>(rp g len h k).bind (qeo g len (h k))
theorem qvd {g:Nat->I5} {len:Nat} {h:Nat->E3} {k:Nat} (hk:rp g len h k=none):∀ d,rp g len h (k+d)=none
 | 0=>hk
 | d+1=>by
  have:=qvd hk d;show (rp g len h (k+d)).bind _=none;rw [this];rfl
theorem qqo {g:Nat->I5} {len:Nat} {h:Nat->E3} {k m:Nat} (hk:rp g len h k=none) (hm:k<=m):rp g len h m=none:=by
 have:=qvd hk (m - k)
 rwa [show k+(m - k)=m by omega] at this
theorem qve {g:Nat->I5} {len:Nat} {h:Nat->E3} {k:Nat} {S:S4} (hk:rp g len h k=some S) (hd:doB g len S.p S.rs S.os S.c (h k).k (h k).q (h k).v=true):rp g len h (k+1)=some (doS g len S.p S.rs S.os S.c (h k).k (h k).q (h k).v):=by
 show (rp g len h k).bind _=_;rw [hk];show qeo g len (h k) S=_;unfold qeo;rw [if_pos hd]
theorem qyh {g:Nat->I5} {len:Nat} {h:Nat->E3} {k:Nat} {S:S4} (hk:rp g len h k=some S) (hd:doB g len S.p S.rs S.os S.c (h k).k (h k).q (h k).v=false):rp g len h (k+1)=none:=by
 show (rp g len h k).bind _=_;rw [hk];show qeo g len (h k) S=_;unfold qeo;rw [if_neg (by rw [hd];decide)]
def resS (o:Option S4):S4:=o.getD ⟨0,[],[],0⟩
theorem qwq {g:Nat->I5} {len:Nat} (hp:qac g len 4=true):1<=len/\len<=30:=by
 simp only [qac,Bool.and_eq_true] at hp;have:=hp.2.1;simp [inB] at this;omega
theorem qlm {g:Nat->I5} {len:Nat} (hp:qac g len 4=true):OkS len newS:=by
 have:=qwq hp;exact qd4 rfl (by simp [newS,allN,numB,inB]) (by simp [newS]) (by simp [belB,newS];omega) (by simp [newS]) rfl
theorem qrw {g:Nat->I5} {len:Nat} {S:S4} (hp:qac g len 4=true) (hS:OkS len S) (hc:S.c=0):qch g len S.p S.rs S.os S.c=true:=by
 unfold OkS at hS;rw [qch,hp,hS,hc];rfl
theorem qv6 {g:Nat->I5} {len:Nat} {S:S4} {k q v:Int} (hc:S.c≠0):doB g len S.p S.rs S.os S.c k q v=false:=by
 rcases zK (doB g len S.p S.rs S.os S.c k q v) with h | h
 ·obtain ⟨-,-,h0⟩:=qbb (qdr h)
  exact absurd h0 hc
 ·exact h
theorem OkS.len {n:Nat} {S:S4} (h:OkS n S):S.rs.length=4/\S.os.length<=60:=by
 obtain ⟨⟨a,b,c,d,e,-⟩,-,h60,-⟩:=qck h;exact ⟨by rw [e];rfl,h60⟩
open Go.Sort
structure Rl (w wr:World) (R Bs:Nat) (p code:Int) (ra:Option Addr) (rc:Nat) (oa:Option Addr) (oc:Nat) (rs os:List Int):Prop where
 tl:Tl wr (R+1) wr.heap.size Bs p code ra rs.length rc oa os.length oc rs os
 fz:∀ j,wr.frozen? ⟨Bs,j,none⟩=false
 rb:BoxC wr R (.int .i64 0) (.slice none 0 0) (.slice none 0 0) (.int .i64 0)
 rf:∀ j,wr.frozen? ⟨R,j,none⟩=false
 be:Below w.heap.size w wr
 hR:R=w.heap.size
theorem Rl.below {w wr w':World} {R Bs:Nat} {p code:Int} {ra:Option Addr} {rc:Nat} {oa:Option Addr} {oc:Nat} {rs os:List Int} (h:Rl w wr R Bs p code ra rc oa oc rs os) (hb:Below wr.heap.size wr w'):Rl w w' R Bs p code ra rc oa oc rs os:=by
 have zB:Bs<wr.heap.size:=h.tl.hi;have zR:R<wr.heap.size:=zJ wr _ h.rb.1;exact ⟨(h.tl.below hb).widen hb.size (Nat.le_refl _),fun j=>(zI (hb.block Bs zB)).trans (h.fz j),h.rb.below hb,fun j=>(zI (hb.block R zR)).trans (h.rf j),h.be.trans (hb.mono h.be.size),h.hR⟩
theorem Rl.next {w w9:World} {R Bs:Nat} {p code:Int} {ra:Option Addr} {rc:Nat} {oa:Option Addr} {oc:Nat} {rs os:List Int} (h:Rl w w9 R Bs p code ra rc oa oc rs os) {B7:Nat} {S:S4} {ra7 oa7:Option Addr} {rc7 oc7:Nat} (o9:qag w9 B7 (stV S.p ra7 S.rs.length rc7 oa7 S.os.length oc7 S.c) S.p S.rs S.os S.c) (hB:Bs<B7):Rl w ((((w9.setCell ⟨Bs,0,none⟩ (.int .i64 S.p)).setCell ⟨Bs,1,none⟩ (.slice ra7 S.rs.length rc7)).setCell ⟨Bs,2,none⟩ (.slice oa7 S.os.length oc7)).setCell ⟨Bs,3,none⟩ (.int .i64 S.c)) R Bs S.p S.c ra7 rc7 oa7 oc7 S.rs S.os:=by
 have hlo:=h.tl.lo;have hhi:=h.tl.hi;have hR:=h.hR;have gz:=qxk w9 Bs (.int .i64 S.p) (.slice ra7 S.rs.length rc7) (.slice oa7 S.os.length oc7) (.int .i64 S.c);have zR:R<w9.heap.size:=zJ w9 _ h.rb.1;have eR:=gz.block R zR (by simp;omega);obtain ⟨r0,r1,r2,r3⟩:=h.rb
 have ht:Tl ((((w9.setCell ⟨Bs,0,none⟩ (.int .i64 S.p)).setCell ⟨Bs,1,none⟩ (.slice ra7 S.rs.length rc7)).setCell ⟨Bs,2,none⟩ (.slice oa7 S.os.length oc7)).setCell ⟨Bs,3,none⟩ (.int .i64 S.c)) (R+1) w9.heap.size Bs S.p S.c ra7 S.rs.length rc7 oa7 S.os.length oc7 S.rs S.os:=by
  refine ⟨hlo,hhi,by simp,h.tl.box.set4 _ _ _ _,o9.put4 hB (by omega),fun j hj=>(o9.lt hj).2,fun hj=>?_⟩;have:=(o9.lt hj).1;omega
 have hbe:Below w.heap.size w9 ((((w9.setCell ⟨Bs,0,none⟩ (.int .i64 S.p)).setCell ⟨Bs,1,none⟩ (.slice ra7 S.rs.length rc7)).setCell ⟨Bs,2,none⟩ (.slice oa7 S.os.length oc7)).setCell ⟨Bs,3,none⟩ (.int .i64 S.c)):=⟨gz.os,gz.tape,gz.output,gz.size,fun k hk=>gz.block k (zL hk h.be.size) (by simp;omega)⟩
 have hfz:∀ j,((((w9.setCell ⟨Bs,0,none⟩ (.int .i64 S.p)).setCell ⟨Bs,1,none⟩ (.slice ra7 S.rs.length rc7)).setCell ⟨Bs,2,none⟩ (.slice oa7 S.os.length oc7)).setCell ⟨Bs,3,none⟩ (.int .i64 S.c)).frozen? ⟨Bs,j,none⟩=false:=fun j=>by
  rw [World.frozen?_setCell,World.frozen?_setCell,World.frozen?_setCell,World.frozen?_setCell];exact h.fz j
 have hrf:∀ j,((((w9.setCell ⟨Bs,0,none⟩ (.int .i64 S.p)).setCell ⟨Bs,1,none⟩ (.slice ra7 S.rs.length rc7)).setCell ⟨Bs,2,none⟩ (.slice oa7 S.os.length oc7)).setCell ⟨Bs,3,none⟩ (.int .i64 S.c)).frozen? ⟨R,j,none⟩=false:=fun j=>by
  rw [World.frozen?_setCell,World.frozen?_setCell,World.frozen?_setCell,World.frozen?_setCell];exact h.rf j
 have hgs:=gz.size;have hrb:BoxC ((((w9.setCell ⟨Bs,0,none⟩ (.int .i64 S.p)).setCell ⟨Bs,1,none⟩ (.slice ra7 S.rs.length rc7)).setCell ⟨Bs,2,none⟩ (.slice oa7 S.os.length oc7)).setCell ⟨Bs,3,none⟩ (.int .i64 S.c)) R (.int .i64 0) (.slice none 0 0) (.slice none 0 0) (.int .i64 0):=⟨(zH eR).trans r0,(zH eR).trans r1,(zH eR).trans r2,(zH eR).trans r3⟩
 have hbe2:=h.be.trans hbe;generalize (((w9.setCell ⟨Bs,0,none⟩ (.int .i64 S.p)).setCell ⟨Bs,1,none⟩ (.slice ra7 S.rs.length rc7)).setCell ⟨Bs,2,none⟩ (.slice oa7 S.os.length oc7)).setCell ⟨Bs,3,none⟩ (.int .i64 S.c)=wz at *;exact ⟨ht.widen hgs (Nat.le_refl _),hfz,hrb,hrf,hbe2,hR⟩
theorem Rl.done {w wr:World} {R Bs:Nat} {p code:Int} {ra:Option Addr} {rc:Nat} {oa:Option Addr} {oc:Nat} {rs os:List Int} (h:Rl w wr R Bs p code ra rc oa oc rs os) (a b c d:Value):Below w.heap.size w ((((wr.setCell ⟨R,0,none⟩ a).setCell ⟨R,1,none⟩ b).setCell ⟨R,2,none⟩ c).setCell ⟨R,3,none⟩ d)/\qag ((((wr.setCell ⟨R,0,none⟩ a).setCell ⟨R,1,none⟩ b).setCell ⟨R,2,none⟩ c).setCell ⟨R,3,none⟩ d) w.heap.size (stV p ra rs.length rc oa os.length oc code) p rs os code:=by
 have hR:=h.hR;have gz:=qxk wr R a b c d;exact ⟨h.be.trans ⟨gz.os,gz.tape,gz.output,gz.size,fun k hk=>gz.block k (zL hk h.be.size) (by simp;omega)⟩,h.tl.own.put4 (Nat.lt_succ_self _) (by omega)⟩
theorem qag.nil (w:World) (B:Nat):qag w B (stV 0 none 0 0 none 0 0 0) 0 [] [] 0:=⟨_,_,rfl,World.ownsRow_nil _ _ _ _,World.ownsRow_nil _ _ _ _,fun k e=>by cases e⟩
theorem qag.dr {w:World} {B:Nat} {v:Value} {p code:Int} {rs os:List Int} (h:qag w B v p rs os code):qag w.drew B v p rs os code:=by
 obtain ⟨vr,vo,e,h1,h2,h3⟩:=h;exact ⟨vr,vo,e,h1.drewN 1,h2.drewN 1,h3⟩
theorem qs8 (gb n gc:Nat) (ea:Option Addr) (m ec:Nat) (g:Nat->I5) (eh:Nat->E3) (w:World) (hg:gb<w.heap.size) (hI:qan w gb 0 n g) (hE:EvL w ea m eh) (hm:m<=1048576) (hp:qac g n 4=true):
  Calls Tryz.prog 174 #[.slice (some ⟨gb,0,none⟩) n gc,.slice ea m ec] w (qc9 w (resS (rp g n eh m)) (rp g n eh m).isSome):=by
 have HI:Hid (qan w gb 0 n g):=hI;have HE:Hid (EvL w ea m eh):=hE;have HP:Hid (qac g n 4=true):=hp;have hm':(m:Int)<=1048576:=by omega
 clear hI hE hp
 go_enter Tryz.func174,Tryz.ntmps174
 go_wp2_with fail
 refine (qho _).mono ?_;rintro e w2 ⟨v2,rfl,o2,b2⟩;obtain ⟨ra2,rc2,oa2,oc2,rfl,-,-⟩:=o2.read;have bA:=zS w (zQ0);have bB:=zS w2 (oQ1 0 ra2 4 rc2 oa2 0 oc2 0)
 have D2:Hid (Rl w (w2.alloc (oQ1 0 ra2 4 rc2 oa2 0 oc2 0)) w.heap.size w2.heap.size 0 0 ra2 rc2 oa2 oc2 [0,0,0,0] []):=by
  have bC:Below (w.heap.size+1) (w.alloc (zQ0)) (w2.alloc (oQ1 0 ra2 4 rc2 oa2 0 oc2 0)):=by
   have h:=b2.trans (bB.mono b2.size);rw [World.size_alloc] at h;exact h
  have z2:w.heap.size+1<=w2.heap.size:=by have:=b2.size;simp at this;exact this
  have eR:=bC.block w.heap.size (by omega)
  have o2':qag w2 (w.heap.size+1) (stV 0 ra2 4 rc2 oa2 0 oc2 0) 0 [0,0,0,0] [] 0:=by
   have h:=o2;rw [World.size_alloc] at h;exact h
  obtain ⟨r0,r1,r2,r3⟩:=BoxC.new w (.int .i64 0) (.slice none 0 0) (.slice none 0 0) (.int .i64 0) 142;refine ⟨(Tl.of_alloc o2' z2 _).widen (by simp) (Nat.le_refl _),fun j=>yA _ _ _ j rfl,⟨(zH eR).trans r0,(zH eR).trans r1,(zH eR).trans r2,(zH eR).trans r3⟩,fun j=>(zI eR).trans (yA _ _ _ j rfl),bA.trans (bC.mono (by omega)),rfl⟩
 clear o2 b2 bA bB;go_wp2_with fail
 generalize w2.alloc (oQ1 0 ra2 4 rc2 oa2 0 oc2 0)=w3 at *;generalize w2.heap.size=Bs at *
 go_loopw [7] (fun i wr=>∃ k:Nat,k<=m/\i=.int .i64 k/\Hid (∃ S ra rc oa oc,rp g n eh k=some S/\OkS n S/\Rl w wr w.heap.size Bs S.p S.c ra rc oa oc S.rs S.os)) (fun i _=>m - (intOf i).toNat)
 case atStart=>exact ⟨0,Nat.zero_le _,rfl,newS,_,_,_,_,rfl,qlm HP.out,D2.out⟩
 case round=>
  clear D2;obtain ⟨k,hk,rfl,HD⟩:=hrel;obtain ⟨S0,ra,rc,oa,oc,hrp,hok,hD⟩:=HD.out;obtain ⟨p,rs,os,code⟩:=S0;dsimp only at hD;have DRl:Hid (Rl w wr w.heap.size Bs p code ra rc oa oc rs os):=hD;have HRP:Hid (rp g n eh k=some ⟨p,rs,os,code⟩/\OkS n ⟨p,rs,os,code⟩):=⟨hrp,hok⟩
  clear HD hD hrp hok;obtain ⟨c0,c1,c2,c3⟩:=DRl.out.tl.box;obtain ⟨r0,r1,r2,r3⟩:=DRl.out.rb;have rf:=DRl.out.rf;have cf:=DRl.out.fz;have dR:Bs≠w.heap.size:=by have:=DRl.out.tl.lo;omega
  have dR':w.heap.size≠Bs:=fun e=>dR e.symm;have zB:Bs<wr.heap.size:=DRl.out.tl.hi;have zR:w.heap.size<wr.heap.size:=by have:=DRl.out.tl.lo;omega
  by_cases hlt:k<m
  ·have hlt':(k:Int)<(m:Int):=by omega
   rcases zK (code != 0) with tc | tc
   ·have HZ:Hid (rp g n eh m=none):=qqo (qyh HRP.1 (qv6 (S:=⟨p,rs,os,code⟩) (by simpa using tc))) (by omega)
    go_wp2_with fail
    refine bodyPost_ret (v:=.tuple #[stV 0 none 0 0 none 0 0 0,.bool false]) (by simp [results,Tryz.results174,go_sem,r0,r1,r2,r3]) rfl ?_;rw [HZ.out];exact ⟨_,rfl,qag.nil _ _,(DRl.out.done _ _ _ _).1⟩
   ·have hc0:code=0:=by simpa using tc
    subst hc0;have hright:=qrw (S:=⟨p,rs,os,0⟩) HP.out HRP.2 rfl;dsimp only at hright;obtain ⟨-,⟨pk,hpk,hpn⟩,-,-⟩:=qck (qbb hright).2.1;subst hpk;have HRT:Hid (qch g n (pk:Int) rs os 0=true):=hright;have hSok:doB g n pk rs os 0 (eh k).k (eh k).q (eh k).v=true->OkS n (doS g n pk rs os 0 (eh k).k (eh k).q (eh k).v):=qrb;have hyes:=qve (S:=⟨pk,rs,os,0⟩) HRP.1;have hnot:=qyh (S:=⟨pk,rs,os,0⟩) HRP.1;dsimp only at hyes hnot;generalize hS:doS g n pk rs os 0 (eh k).k (eh k).q (eh k).v=S at hSok hyes;generalize hT:doB g n pk rs os 0 (eh k).k (eh k).q (eh k).v=T at hSok hyes hnot;have HN:Hid (doS g n pk rs os 0 (eh k).k (eh k).q (eh k).v=S/\doB g n pk rs os 0 (eh k).k (eh k).q (eh k).v=T):=⟨hS,hT⟩
    have HY:Hid ((T=true->rp g n eh (k+1)=some S/\OkS n S)/\(T=false->rp g n eh (k+1)=none)):=⟨fun h=>⟨hyes h,hSok h⟩,hnot⟩
    clear hS hT hSok hyes hnot hright;obtain ⟨eb,eo,rfl,ze,k0,k1,k2⟩:=(HE.out.below DRl.out.be).at hlt;have HEA:Hid (EvAt wr eb eo m eh/\eb<wr.heap.size):=(HE.out.below DRl.out.be).one hlt;have d1:wr.heap.size≠Bs:=by omega
    have d2:wr.heap.size≠eb:=by omega
    go_wp2_with fail
    go_cut [8,9] from 21 to 30 (fun s t wx=>∃ M:Nat,s=.pointer (some ⟨M,0,none⟩)/\t=.bool T/\Hid (Below wr.heap.size wr wx/\Told wx wr.heap.size M S))
    case first=>
     go_region_held3 (fun w'=>w'.cell? ⟨Bs,0,none⟩=some (.int .i64 pk)/\w'.cell? ⟨Bs,1,none⟩=some (.slice ra rs.length rc)/\w'.cell? ⟨Bs,2,none⟩=some (.slice oa os.length oc)/\w'.cell? ⟨Bs,3,none⟩=some (.int .i64 0)/\w'.cell? ⟨eb,eo+k*3,none⟩=some (.int .i64 (eh k).k)/\w'.cell? ⟨eb,eo+k*3+1,none⟩=some (.int .i64 (eh k).q)/\w'.cell? ⟨eb,eo+k*3+2,none⟩=some (.int .i64 (eh k).v)) (go_keep)
      (first
       | (go_at_call 105;refine (qwm gb 0 n gc pk g ra oa rc oc rs os (eh k).k (eh k).q (eh k).v _ (zL hg (DRl.out.below (by go_grown)).be.size) (HI.out.below (DRl.out.below (by go_grown)).be hg) (DRl.out.below (by go_grown)).tl.sl.1 (DRl.out.below (by go_grown)).tl.sl.2 HRT.out).mono ?_;rintro e w5 hd;rw [HN.1,HN.2] at hd;obtain ⟨v5,rfl,o5,b5⟩:=hd;obtain ⟨ra5,rc5,oa5,oc5,rfl,-,-⟩:=o5.read;have q5:Below wr.heap.size wr w5:=qai (by go_grown) b5 (by simp);obtain ⟨y0,y1,y2,y3⟩:=(DRl.out.below q5).tl.box;obtain ⟨y4,y5,y6⟩:=HEA.1.below q5 HEA.2 k hlt;(try simp only [World.size_alloc,World.size_drew] at o5);have O5:Hid (qag w5 _ (stV S.p ra5 S.rs.length rc5 oa5 S.os.length oc5 S.c) S.p S.rs S.os S.c):=o5;obtain ⟨hc5,hf5⟩:=qap b5;have z5:=b5.size;(try simp only [World.size_alloc,World.size_drew,Nat.add_one_le_iff] at z5);have j5:wr.heap.size<=w5.heap.size:=q5.size;have Q5:Hid (Below wr.heap.size wr w5):=q5;clear o5 b5 q5))
     all_goals
      go_wp2_with fail
      go_meet
      case rel=>
       first
       | (refine ⟨w5.heap.size, by with_reducible rfl, rfl, ?_⟩
          exact ⟨Q5.out.trans ((zS _ _).mono j5),Told.of_alloc O5.out (by omega) (by omega) _⟩)
       | (refine ⟨wr.heap.size, by with_reducible rfl, rfl, ?_⟩
          exact ⟨(((Q5.out.setCell (Nat.le_refl _) _).setCell (Nat.le_refl _) _).setCell (Nat.le_refl _) _).setCell (Nat.le_refl _) _,Told.of_put (z0:=.int .i64 0) (z1:=.slice none 0 0) (z2:=.slice none 0 0) (z3:=.int .i64 0) O5.out (by omega) (by omega) (by omega) ⟨by rw [hc5 _ _ (by simp)];simp,by rw [hc5 _ _ (by simp)];simp,by rw [hc5 _ _ (by simp)];simp,by rw [hc5 _ _ (by simp)];simp⟩⟩)
    case rest=>
     obtain ⟨M,rfl,rfl,HM⟩:=hcut;have bG:=HM.1;obtain ⟨ra5,rc5,oa5,oc5,TG⟩:=HM.2.tl;have D6:Hid (Rl w wc w.heap.size Bs pk 0 ra rc oa oc rs os):=DRl.out.below bG;have O6:Hid (qag wc wr.heap.size (stV S.p ra5 S.rs.length rc5 oa5 S.os.length oc5 S.c) S.p S.rs S.os S.c):=TG.own;have zM:=TG.lo;clear c0 c1 c2 c3 r0 r1 r2 r3 rf cf k0 k1 k2 HM bG;obtain ⟨c0,c1,c2,c3⟩:=D6.out.tl.box;obtain ⟨r0,r1,r2,r3⟩:=D6.out.rb;obtain ⟨n0,n1,n2,n3⟩:=TG.box;have rf:=D6.out.rf;have cf:=D6.out.fz;have dN:M≠Bs:=by omega
     have dN':Bs≠M:=by omega
     have dM:M≠w.heap.size:=by omega
     clear TG;cases T
     case false=>
      have HZ:Hid (rp g n eh m=none):=qqo (HY.2 rfl) (by omega);go_wp2_with fail
      refine bodyPost_ret (v:=.tuple #[stV 0 none 0 0 none 0 0 0,.bool false]) (by simp [results,Tryz.results174,go_sem,r0,r1,r2,r3]) rfl ?_;rw [HZ.out];exact ⟨_,rfl,qag.nil _ _,(D6.out.done _ _ _ _).1⟩
     case true=>
      have HW:Hid (rp g n eh (k+1)=some S/\OkS n S):=HY.1 rfl;go_wp2;go_roundw
      case rel=>exact ⟨k+1,by omega,by go_num,S,_,_,_,_,HW.1,HW.2,D6.out.next O6.out zB⟩
      case measure=>simp [intOf];omega
  ·have hkm:k=m:=by omega
   have HZ:Hid (rp g n eh m=some ⟨p,rs,os,code⟩):=by
    have:=HRP.1;rw [hkm] at this;exact this
   go_wp2_with fail
   refine bodyPost_ret (v:=.tuple #[stV p ra rs.length rc oa os.length oc code,.bool true]) (by simp [results,Tryz.results174,go_sem,r0,r1,r2,r3]) rfl ?_;rw [HZ.out];exact ⟨_,rfl,(DRl.out.done _ _ _ _).2,(DRl.out.done _ _ _ _).1⟩
def repO (g:Nat->I5) (n:Nat) (eh:Nat->E3) (m:Nat):Option S4:=if qac g n 4=true/\m<=200 then rp g n eh m else none
theorem qoh (gb n gc:Nat) (ea:Option Addr) (m ec:Nat) (g:Nat->I5) (eh:Nat->E3) (w:World) (hn:n<=maxLen) (hg:gb<w.heap.size) (hI:qan w gb 0 n g) (hE:EvL w ea m eh) (hm:m<=1048576):
  Calls Tryz.prog 121 #[.slice (some ⟨gb,0,none⟩) n gc,.slice ea m ec] w (qc9 w (resS (repO g n eh m)) (repO g n eh m).isSome):=by
 have HI:Hid (qan w gb 0 n g):=hI;have HE:Hid (EvL w ea m eh):=hE;have HL:Hid (n<=maxLen):=hn;have hm':(m:Int)<=1048576:=by omega
 clear hI hE hn;have bA:=zS w (zQ0);have BA:Hid (Below w.heap.size w (w.alloc (zQ0))):=bA;have NB:Hid (BoxC (w.alloc (zQ0)) w.heap.size (.int .i64 0) (.slice none 0 0) (.slice none 0 0) (.int .i64 0)/\∀ j,(w.alloc (zQ0)).frozen? ⟨w.heap.size,j,none⟩=false):=⟨BoxC.new w _ _ _ _ _,fun j=>yA _ _ _ j rfl⟩
 clear bA
 go_enter Tryz.func121,Tryz.ntmps121
 go_wp2_with fail
 have hz:(w.alloc (zQ0)).heap.size=w.heap.size+1:=by simp
 generalize w.alloc (zQ0)=wa at *;refine (qeq gb 0 n gc g 4 wa HL.out (zL hg BA.out.size) (HI.out.below BA.out hg)).mono ?_;rintro e w1 ⟨rfl,b1⟩;have zR:w.heap.size<w1.heap.size:=by have:=b1.size;omega
 have N1:Hid (BoxC w1 w.heap.size (.int .i64 0) (.slice none 0 0) (.slice none 0 0) (.int .i64 0)/\∀ j,w1.frozen? ⟨w.heap.size,j,none⟩=false):=⟨NB.1.below b1,fun j=>(zI (b1.block w.heap.size (by omega))).trans (NB.2 j)⟩
 have B1:Hid (Below w.heap.size w w1):=BA.out.trans (b1.mono BA.out.size);clear b1 NB BA hz;obtain ⟨⟨r0,r1,r2,r3⟩,rf⟩:=N1.out;have hput:∀ (a b c d:Value),Below w.heap.size w ((((w1.setCell ⟨w.heap.size,0,none⟩ a).setCell ⟨w.heap.size,1,none⟩ b).setCell ⟨w.heap.size,2,none⟩ c).setCell ⟨w.heap.size,3,none⟩ d):=fun a b c d=>(((B1.out.setCell (Nat.le_refl _) _).setCell (Nat.le_refl _) _).setCell (Nat.le_refl _) _).setCell (Nat.le_refl _) _;have HPut:Hid (∀ (a b c d:Value),Below w.heap.size w ((((w1.setCell ⟨w.heap.size,0,none⟩ a).setCell ⟨w.heap.size,1,none⟩ b).setCell ⟨w.heap.size,2,none⟩ c).setCell ⟨w.heap.size,3,none⟩ d)):=hput;clear hput
 rcases zK (qac g n 4) with tp | tp
 ·by_cases h2:m<=200
  ·have h2':¬ (200:Int)<(m:Int):=by omega
   have HO:Hid (repO g n eh m=rp g n eh m):=by
    show repO g n eh m=rp g n eh m;unfold repO;rw [if_pos ⟨tp,h2⟩]
   have HP:Hid (qac g n 4=true):=tp;go_wp2_with fail
   refine (qs8 gb n gc ea m ec g eh w1 (zL hg B1.out.size) (HI.out.below B1.out hg) (HE.out.below B1.out) hm HP.out).mono ?_;rintro e w2 hd;rw [<- HO.out] at hd;generalize repO g n eh m=O at *;obtain ⟨v2,rfl,o2,b2⟩:=hd;obtain ⟨ra2,rc2,oa2,oc2,rfl,-,-⟩:=o2.read;have eR:=b2.block w.heap.size zR;have q0:=(zH eR).trans r0;have q1:=(zH eR).trans r1;have q2:=(zH eR).trans r2;have q3:=(zH eR).trans r3;have qf:∀ j,w2.frozen? ⟨w.heap.size,j,none⟩=false:=fun j=>(zI eR).trans (rf j);have B2:Hid (Below w.heap.size w w2):=B1.out.trans (b2.mono B1.out.size);have O2:Hid (qag w2 w1.heap.size (stV (resS O).p ra2 (resS O).rs.length rc2 oa2 (resS O).os.length oc2 (resS O).c) (resS O).p (resS O).rs (resS O).os (resS O).c):=o2;clear o2 b2 eR r0 r1 r2 r3 rf;go_wp2;refine bodyPost_ret (v:=.tuple #[stV (resS O).p ra2 (resS O).rs.length rc2 oa2 (resS O).os.length oc2 (resS O).c,.bool O.isSome]) (by simp [results,Tryz.results121,go_sem,q0,q1,q2,q3]) rfl ⟨_,rfl,?_,?_⟩
   ·exact O2.out.put4 zR (by omega)
   ·exact (((B2.out.setCell (Nat.le_refl _) _).setCell (Nat.le_refl _) _).setCell (Nat.le_refl _) _).setCell (Nat.le_refl _) _
  ·have h2':(200:Int)<(m:Int):=by omega
   have HO:Hid (repO g n eh m=none):=by
    show repO g n eh m=none;unfold repO;rw [if_neg (by omega)]
   go_wp2;refine bodyPost_ret (v:=.tuple #[stV 0 none 0 0 none 0 0 0,.bool false]) (by simp [results,Tryz.results121,go_sem,r0,r1,r2,r3]) rfl ?_;rw [HO.out];exact ⟨_,rfl,qag.nil _ _,HPut.out _ _ _ _⟩
 ·have HO:Hid (repO g n eh m=none):=by
   show repO g n eh m=none;unfold repO;rw [if_neg (by rw [tp];simp)]
  go_wp2;refine bodyPost_ret (v:=.tuple #[stV 0 none 0 0 none 0 0 0,.bool false]) (by simp [results,Tryz.results121,go_sem,r0,r1,r2,r3]) rfl ?_;rw [HO.out];exact ⟨_,rfl,qag.nil _ _,HPut.out _ _ _ _⟩
theorem qrv (g:Nat->I5) (n:Nat) (eh:Nat->E3) (m:Nat):(resS (repO g n eh m)).rs.length<=1048576/\(resS (repO g n eh m)).os.length<=1048576:=by
 unfold repO
 split
 ·rename_i h
  have hk:∀ k S,rp g n eh k=some S->OkS n S:=by
   intro k
   induction k with
   | zero=>
    intro S hS;simp only [rp,Option.some.injEq] at hS;rw [<- hS];exact qlm h.1
   | succ k ih=>
    intro S hS;simp only [rp] at hS;cases hr:rp g n eh k with
    | none=>rw [hr] at hS;cases hS
    | some S0=>
     rw [hr] at hS;simp only [Option.bind_some,qeo] at hS
     split at hS
     ·rename_i hd
      simp only [Option.some.injEq] at hS;rw [<- hS];exact qrb hd
     ·cases hS
  cases hr:rp g n eh m with
  | none=>simp [resS]
  | some S=>
   have:=OkS.len (hk m S hr);simp only [resS,Option.getD_some];omega
 ·simp [resS]
open Go.ChangeShapes Go.WideShapes Go.ChangeAt Go.Deep
noncomputable def qB (p:Prop):Bool:=@decide p (Classical.propDecidable _)
theorem qbs {p:Prop} (h:p):qB p=true:=by simp [qB,h]
theorem qa4 {p:Prop} (h:¬ p):qB p=false:=by simp [qB,h]
structure HisE (w:World) (ha:Option Addr) (hA:Nat->Option Addr) (hC:Nat->Nat) (y:Hs):Prop where
 row:RowS w ha y.n fun i=>.slice (hA i) (y.l i) (hC i)
 ev:∀ i,i<y.n->EvL w (hA i) (y.l i) (y.e i)
theorem HisE.below {w w':World} {ha:Option Addr} {hA:Nat->Option Addr} {hC:Nat->Nat} {y:Hs} (h:HisE w ha hA hC y) (hb:Below w.heap.size w w'):HisE w' ha hA hC y:=⟨h.row.below hb,fun i hi=>(h.ev i hi).below hb⟩
structure HisP (w:World) (X:Nat) (ha:Option Addr) (hc:Nat) (y:Hs) (d:Nat->Nat):Prop where
 c4:w.cell? ⟨X,4,none⟩=some (.slice ha y.n hc)
 pt:∀ i,i<4->w.cell? ⟨X,5+i,none⟩=some (.int .i64 (d i))
 op:∀ a b,a<4->b<4->w.cell? ⟨X,9+a*4+b,none⟩=some (.int .i64 (y.opn d a b))
 fr:∀ j,w.frozen? ⟨X,j,none⟩=false
theorem HisP.lt {w:World} {X:Nat} {ha:Option Addr} {hc:Nat} {y:Hs} {d:Nat->Nat} (h:HisP w X ha hc y d):X<w.heap.size:=zJ w _ h.c4
theorem HisP.blk {w w':World} {X:Nat} {ha:Option Addr} {hc:Nat} {y:Hs} {d:Nat->Nat} (h:HisP w X ha hc y d) (hb:w'.heap[X]? = w.heap[X]?):HisP w' X ha hc y d:=
 ⟨(zH hb).trans h.c4,fun i hi=>(zH hb).trans (h.pt i hi),fun a b h1 h2=>(zH hb).trans (h.op a b h1 h2),fun j=>(zI hb).trans (h.fr j)⟩
theorem HisP.below {w w':World} {X:Nat} {ha:Option Addr} {hc:Nat} {y:Hs} {d:Nat->Nat} (h:HisP w X ha hc y d) (hb:Below w.heap.size w w'):HisP w' X ha hc y d:=h.blk (hb.block X h.lt)
theorem qam {w:World} {a:Addr} {v:Value} (h:w.cell? a=some v) (o:Obj):(w.alloc o).cell? a=some v:=(World.cell?_alloc_lt w o a (zJ w _ h)).trans h
theorem qsd (X:Nat) (ha:Option Addr) (hc:Nat) (hA:Nat->Option Addr) (hC:Nat->Nat) (y:Hs) (d:Nat->Nat) (k:Nat) (w:World) (hE:HisE w ha hA hC y) (hP:HisP w X ha hc y d) (h4:y.n<=4) (hk:k<y.n) (hp:y.Peers) (hl:∀ i,i<y.n->y.l i<=200) (hd:∀ i,d i<=y.l i):
  Calls Tryz.prog 230 #[.pointer (some ⟨X,4,none⟩),.int .i64 k] w fun e w'=>e=.returned (.bool (qB (y.Can d k)))/\Below w.heap.size w w':=by
 have HE:Hid (HisE w ha hA hC y):=hE;have HP:Hid (HisP w X ha hc y d):=hP;have HCan:Hid (y.Can d k ↔ d k<y.l k/\((y.e k (d k)).k=3->0<y.opn d (y.e k (d k)).q.toNat k)):=Hs.can_iff hp hk;have hk4:(k:Int)<4:=by omega
 have hk':(k:Int)<(y.n:Int):=by omega
 have hl200:(y.l k:Int)<=200:=by have:=hl k hk;omega
 have hdk:(d k:Int)<=(y.l k:Int):=by have:=hd k;omega
 obtain ⟨bh,oh,eh,ch⟩:=hE.row.at hk;obtain ⟨c4,pt,op,-⟩:=hP;have pk:=pt k (by omega);rw [eh] at c4;clear hE;by_cases he:d k=y.l k
 ·have HN:Hid (qB (y.Can d k)=false):=qa4 fun h=>by have:=h.1;omega
  rw [he] at pk;clear op pt
  go_enter Tryz.func230,Tryz.ntmps230
  go_wp2_with fail
  go_quiet (fail)
  go_wp2;go_ret;rw [HN.out];exact ⟨rfl,yB (Below.refl _ _) _⟩
 ·have hlt:d k<y.l k:=by have:=hd k;omega
  have hlt':(d k:Int)<(y.l k:Int):=by omega
  have hne:((d k:Int) == (y.l k:Int))=false:=by
   have:¬ (d k:Int)=(y.l k:Int):=by omega
   simpa using this
  obtain ⟨b,off,ea,zb,e0,e1,e2⟩:=(HE.out.ev k hk).at hlt;rw [ea] at ch;have n1:w.heap.size≠X:=by have:=HP.out.lt;omega
  have n2:w.heap.size≠b:=by omega
  have n3:w.heap.size≠bh:=by have:=zJ w _ ch;simp at this;omega
  clear zb;have hq:=hp k hk (d k) hlt;obtain ⟨q,hqe⟩:∃ q:Nat,(y.e k (d k)).q=(q:Int):=⟨(y.e k (d k)).q.toNat,by omega⟩
  have hq4:(q:Int)<4:=by omega
  have oq:=op q k (by omega) (by omega);rw [hqe] at e1
  rcases zK ((y.e k (d k)).k != 3) with t | t
  ·have HN:Hid (qB (y.Can d k)=true):=qbs (HCan.2 ⟨hlt,fun h=>by rw [h] at t;cases t⟩)
   clear op pt hq hqe oq HCan;generalize (y.e k (d k)).k=kd at *;generalize (y.e k (d k)).v=vd at *
   go_enter Tryz.func230,Tryz.ntmps230
   go_wp2_with fail
   go_quiet (fail)
   go_wp2_with fail
   have BD:Hid (Below w.heap.size w (w.drewN nq)):=yB (Below.refl _ _) _;replace n1:(w.drewN nq).heap.size≠X:=n1;replace n2:(w.drewN nq).heap.size≠b:=n2;replace n3:(w.drewN nq).heap.size≠bh:=n3;replace c4:(w.drewN nq).cell? ⟨X,4,none⟩=_:=c4;replace pk:(w.drewN nq).cell? ⟨X,5+k,none⟩=_:=pk;replace ch:(w.drewN nq).cell? ⟨bh,oh+k,none⟩=_:=ch;replace e0:(w.drewN nq).cell? ⟨b,off+d k*3,none⟩=_:=e0;replace e1:(w.drewN nq).cell? ⟨b,off+d k*3+1,none⟩=_:=e1;replace e2:(w.drewN nq).cell? ⟨b,off+d k*3+2,none⟩=_:=e2;generalize w.drewN nq=wd at *;have c4':=qam c4;have pk':=qam pk;have ch':=qam ch;have e0':=qam e0;have e1':=qam e1;have e2':=qam e2
   go_region
   all_goals
    go_wp2_with fail
    go_quiet (fail)
    go_wp2;go_ret;rw [HN.out];exact ⟨rfl,yB (BD.out.trans ((zS _ _).mono BD.out.size)).drew _⟩
  ·have hk3:(y.e k (d k)).k=3:=by simpa using t
   have HN:Hid (qB (y.Can d k)=decide (0<y.opn d q k)):=by
    show qB (y.Can d k)=decide (0<y.opn d q k);have e:(y.e k (d k)).q.toNat=q:=by omega
    by_cases h0:0<y.opn d q k
    ·rw [decide_eq_true h0]
     exact qbs (HCan.2 ⟨hlt,fun _=>by rw [e];exact h0⟩)
    ·rw [decide_eq_false h0]
     refine qa4 fun h=>h0 ?_;have:=(HCan.1 h).2 hk3
     rwa [e] at this
   rw [hk3] at e0;clear op pt hq hqe HCan t hk3;generalize (y.e k (d k)).v=vd at *;generalize y.opn d q k=on at *
   go_enter Tryz.func230,Tryz.ntmps230
   go_wp2_with fail
   go_quiet (fail)
   go_wp2_with fail
   have BD:Hid (Below w.heap.size w (w.drewN nq)):=yB (Below.refl _ _) _;replace n1:(w.drewN nq).heap.size≠X:=n1;replace n2:(w.drewN nq).heap.size≠b:=n2;replace n3:(w.drewN nq).heap.size≠bh:=n3;replace c4:(w.drewN nq).cell? ⟨X,4,none⟩=_:=c4;replace pk:(w.drewN nq).cell? ⟨X,5+k,none⟩=_:=pk;replace ch:(w.drewN nq).cell? ⟨bh,oh+k,none⟩=_:=ch;replace e0:(w.drewN nq).cell? ⟨b,off+d k*3,none⟩=_:=e0;replace e1:(w.drewN nq).cell? ⟨b,off+d k*3+1,none⟩=_:=e1;replace e2:(w.drewN nq).cell? ⟨b,off+d k*3+2,none⟩=_:=e2;replace oq:(w.drewN nq).cell? ⟨X,9+q*4+k,none⟩=_:=oq;generalize w.drewN nq=wd at *;have c4':=qam c4;have pk':=qam pk;have ch':=qam ch;have e0':=qam e0;have e1':=qam e1;have e2':=qam e2;have oq':=qam oq
   go_region
   all_goals
    go_wp2_with fail
    go_quiet (fail)
    go_wp2;go_ret;rw [HN.out];exact ⟨rfl,yB (BD.out.trans ((zS _ _).mono BD.out.size)).drew _⟩
theorem HisP.put {w w':World} {X:Nat} {ha:Option Addr} {hc:Nat} {y:Hs} {d:Nat->Nat} {k:Nat} (h:HisP w X ha hc y d) (c4:w'.cell? ⟨X,4,none⟩=w.cell? ⟨X,4,none⟩) (pt:∀ i,i<4->w'.cell? ⟨X,5+i,none⟩=if i=k then some (.int .i64 (d k+1:Nat)) else w.cell? ⟨X,5+i,none⟩)
  (op:∀ a b,a<4->b<4->w'.cell? ⟨X,9+a*4+b,none⟩=some (.int .i64 (y.opn (up d k) a b))) (fr:∀ j,w'.frozen? ⟨X,j,none⟩=false):HisP w' X ha hc y (up d k):=by
 refine ⟨c4.trans h.c4,fun i hi=>?_,op,fr⟩;rw [pt i hi];by_cases e:i=k
 ·subst e
  rw [if_pos rfl,qd9]
 ·rw [if_neg e,up_other e]
  exact h.pt i hi
theorem qdo (w:World):
  Calls Tryz.prog 242 #[] w fun e w'=>∃ v,e=.returned v/\qag w' w.heap.size v 0 [0,0,0,0] [] 0/\Below w.heap.size w w':=by
 have hmk:∀ w:World,(Instr.makeSlice 28 (.int .i64 4) (.int .i64 4)).run Tryz.prog w=.ok (.slice (some ⟨w.heap.size,0,none⟩) 4 4) (w.alloc (.cells (madeCells #[.int .i64 0] 4) 3)):=fun w=>qb9 4 (by omega) w;have HM:Hid (∀ w:World,OwnI (w.alloc (.cells (madeCells #[.int .i64 0] 4) 3)) w.heap.size (.slice (some ⟨w.heap.size,0,none⟩) 4 4) [0,0,0,0]):=fun w=>qle w 4 (by omega)
 go_enter Tryz.func242,Tryz.ntmps242
 go_wp2;have hB:w.heap.size<=w.heap.size+1:=by omega
 have hM:=HM.out (w.alloc (oQ1 0 (some ⟨w.heap.size+1,0,none⟩) 4 4 none 0 0 0));rw [World.size_alloc] at hM;refine bodyPost_ret (v:=stV 0 (some ⟨w.heap.size+1,0,none⟩) 4 4 none 0 0 0) (by simp [results,Tryz.results242,go_sem]) rfl ⟨_,rfl,⟨_,_,rfl,hM.mono hB,World.ownsRow_nil _ _ _ _,fun k _=>by simp [Value.ownBlock]⟩,by go_grown⟩
structure Rn (w wr:World) (A B C gb n gc k:Nat) (p code:Int) (ra:Option Addr) (rc:Nat) (oa:Option Addr) (oc:Nat) (rs os:List Int):Prop where
 la:wr.cell? ⟨A,0,none⟩=some (.slice (some ⟨gb,0,none⟩) n gc)
 tl:Tl wr w.heap.size wr.heap.size B p code ra rs.length rc oa os.length oc rs os
 fb:∀ j,wr.frozen? ⟨B,j,none⟩=false
 ck:wr.cell? ⟨C,0,none⟩=some (.int .i64 k)
 fc:wr.frozen? ⟨C,0,none⟩=false
 ne:A≠B/\C≠B/\A≠C/\w.heap.size<=A/\w.heap.size<=C
 nh:¬ qae (stV p ra rs.length rc oa os.length oc code) A/\¬ qae (stV p ra rs.length rc oa os.length oc code) C
 be:Below w.heap.size w wr
theorem qvg (gb n gc:Nat) (g:Nat->I5) (w:World) (hn:n<=maxLen) (hg:gb<w.heap.size) (hI:qan w gb 0 n g) (hp:qac g n 4=true):
  Calls Tryz.prog 241 #[.slice (some ⟨gb,0,none⟩) n gc] w fun e w'=>∃ A B C ra rc oa oc,e=.returned (.tuple #[.func (.func 249) #[] #[.pointer (some ⟨A,0,none⟩),.pointer (some ⟨B,0,none⟩),.pointer (some ⟨C,0,none⟩)],.nilIface])/\Rn w w' A B C gb n gc 0 0 0 ra rc oa oc [0,0,0,0] []:=by
 have HI:Hid (qan w gb 0 n g):=hI;have HL:Hid (n<=maxLen):=hn;have HP:Hid (qac g n 4=true):=hp;clear hI hn
 go_enter Tryz.func241,Tryz.ntmps241
 go_wp2_with fail
 refine (qc5 gb 0 n gc g 4 _ HL.out (by simp;omega) (HI.out.below (by go_grown) hg)).mono ?_;rintro e w1 ⟨rfl,b1⟩;have B1:Hid (Below w.heap.size w w1):=qai (by go_grown) b1 (by simp);have z1:w.heap.size<w1.heap.size:=by have:=b1.size;simp at this;omega
 have l1:w1.cell? ⟨w.heap.size,0,none⟩=some (.slice (some ⟨gb,0,none⟩) n gc):=by rw [(qap b1).1 _ _ (by simp)];simp
 clear b1;go_wp2_with fail
 refine (qdo _).mono ?_;rintro e w2 ⟨v2,rfl,o2,b2⟩;obtain ⟨ra2,rc2,oa2,oc2,rfl,-,-⟩:=o2.read;have z2:=b2.size;have bz:Below w2.heap.size w2 ((w2.alloc (oQ1 0 ra2 4 rc2 oa2 0 oc2 0)).alloc (.cells #[.int .i64 0] 3)):=by go_grown
 have bq:=zS (w2.alloc (oQ1 0 ra2 4 rc2 oa2 0 oc2 0)) (.cells #[.int .i64 0] 3);have b12:=b2.trans (bz.mono b2.size)
 have HR:Hid (Rn w ((w2.alloc (oQ1 0 ra2 4 rc2 oa2 0 oc2 0)).alloc (.cells #[.int .i64 0] 3)) w.heap.size w2.heap.size (w2.heap.size+1) gb n gc 0 0 0 ra2 rc2 oa2 oc2 [0,0,0,0] []):=by
  have o2':qag w2 w.heap.size (stV 0 ra2 4 rc2 oa2 0 oc2 0) 0 [0,0,0,0] [] 0:=o2.mono (by omega);refine ⟨(zH (b12.block w.heap.size z1)).trans l1,((Tl.of_alloc o2' (by omega) _).below bq).widen (by simp) (Nat.le_refl _),fun j=>?_,?_,?_,⟨by omega,by omega,by omega,by omega,by omega⟩,⟨fun h=>?_,fun h=>?_⟩,B1.out.trans (b12.mono B1.out.size)⟩
  ·rw [zI (bq.block w2.heap.size (by simp))]
   exact yA _ _ _ j rfl
  ·have:=zV (w2.alloc (oQ1 0 ra2 4 rc2 oa2 0 oc2 0)) #[.int .i64 0] 3 0 rfl
   rw [World.size_alloc] at this;exact this
  ·have:=yA (w2.alloc (oQ1 0 ra2 4 rc2 oa2 0 oc2 0)) #[.int .i64 0] 3 0 rfl
   rw [World.size_alloc] at this;exact this
  ·have:=(o2.lt h).1
   omega
  ·have:=(o2.lt h).2
   omega
 clear o2 b2 bz bq b12 l1;go_wp2;exact bodyPost_ret (v:=.tuple #[.func (.func 249) #[] #[.pointer (some ⟨w.heap.size,0,none⟩),.pointer (some ⟨w2.heap.size,0,none⟩),.pointer (some ⟨w2.heap.size+1,0,none⟩)],.nilIface]) (by simp [results,Tryz.results241,go_sem]) rfl ⟨_,_,_,_,_,_,_,rfl,HR.out⟩
theorem qag.set1 {w:World} {B N:Nat} {v:Value} {p code:Int} {rs os:List Int} (h:qag w B v p rs os code) (hN:N<B) (j:Nat) (u:Value):qag (w.setCell ⟨N,j,none⟩ u) B v p rs os code:=by
 obtain ⟨vr,vo,e,o1,o2,ha⟩:=h;exact ⟨vr,vo,e,o1.setBelow hN _,o2.setBelow hN _,ha⟩
theorem Rn.below {w wr w':World} {A B C gb n gc k:Nat} {p code:Int} {ra:Option Addr} {rc:Nat} {oa:Option Addr} {oc:Nat} {rs os:List Int} (h:Rn w wr A B C gb n gc k p code ra rc oa oc rs os) (hb:Below wr.heap.size wr w'):Rn w w' A B C gb n gc k p code ra rc oa oc rs os:=
 ⟨(zH (hb.block A (zJ wr _ h.la))).trans h.la,(h.tl.below hb).widen hb.size (Nat.le_refl _),fun j=>(zI (hb.block B h.tl.hi)).trans (h.fb j),(zH (hb.block C (zJ wr _ h.ck))).trans h.ck,(zI (hb.block C (zJ wr _ h.ck))).trans h.fc,h.ne,h.nh,h.be.trans (hb.mono h.be.size)⟩
theorem Rn.next {w w4:World} {A B C gb n gc k:Nat} {p code:Int} {ra:Option Addr} {rc:Nat} {oa:Option Addr} {oc:Nat} {rs os:List Int} (h:Rn w w4 A B C gb n gc k p code ra rc oa oc rs os) {B7 R1:Nat} {S:S4} {ra7 oa7:Option Addr} {rc7 oc7:Nat} (o:qag w4 B7 (stV S.p ra7 S.rs.length rc7 oa7 S.os.length oc7 S.c) S.p S.rs S.os S.c) (hA:A<B7) (hB:B<B7) (hC:C<B7) (hR:R1<B7) (n1:R1≠A) (n2:R1≠B) (n3:R1≠C) (n4:w.heap.size<=R1) (z7:w.heap.size<=B7):
  Rn w (((((((((w4.setCell ⟨B,0,none⟩ (.int .i64 S.p)).setCell ⟨B,1,none⟩ (.slice ra7 S.rs.length rc7)).setCell ⟨B,2,none⟩ (.slice oa7 S.os.length oc7)).setCell ⟨B,3,none⟩ (.int .i64 S.c)).setCell ⟨C,0,none⟩ (.int .i64 ((k+1:Nat):Int))).setCell ⟨R1,0,none⟩ (.int .i64 S.p)).setCell ⟨R1,1,none⟩ (.slice ra7 S.rs.length rc7)).setCell ⟨R1,2,none⟩ (.slice oa7 S.os.length oc7)).setCell ⟨R1,3,none⟩ (.int .i64 S.c)) A B C gb n gc (k+1) S.p S.c ra7 rc7 oa7 oc7 S.rs S.os:=by
 obtain ⟨e1,e2,e3,e4,e5⟩:=h.ne;have zB:=h.tl.hi;have lB:=h.tl.lo;have o7:qag (((((((((w4.setCell ⟨B,0,none⟩ (.int .i64 S.p)).setCell ⟨B,1,none⟩ (.slice ra7 S.rs.length rc7)).setCell ⟨B,2,none⟩ (.slice oa7 S.os.length oc7)).setCell ⟨B,3,none⟩ (.int .i64 S.c)).setCell ⟨C,0,none⟩ (.int .i64 ((k+1:Nat):Int))).setCell ⟨R1,0,none⟩ (.int .i64 S.p)).setCell ⟨R1,1,none⟩ (.slice ra7 S.rs.length rc7)).setCell ⟨R1,2,none⟩ (.slice oa7 S.os.length oc7)).setCell ⟨R1,3,none⟩ (.int .i64 S.c)) B7 (stV S.p ra7 S.rs.length rc7 oa7 S.os.length oc7 S.c) S.p S.rs S.os S.c:=((((((((o.set1 hB _ _).set1 hB _ _).set1 hB _ _).set1 hB _ _).set1 hC _ _).set1 hR _ _).set1 hR _ _).set1 hR _ _).set1 hR _ _;obtain ⟨b0,b1,b2,b3⟩:=h.tl.box;have la:=h.la;have ck:=h.ck;have dAB:(⟨B,0,none⟩:Addr).block≠(⟨A,0,none⟩:Addr).block:=fun e=>e1 e.symm;refine ⟨?_,⟨lB,by simp;exact zB,Nat.le_refl _,⟨?_,?_,?_,?_⟩,o7.mono z7,fun j hj=>(o7.lt hj).2,fun hj=>?_⟩,fun j=>?_,?_,?_,⟨e1,e2,e3,e4,e5⟩,⟨fun hj=>?_,fun hj=>?_⟩,?_⟩
 ·go_cell
 ·go_cell
 ·go_cell
 ·go_cell
 ·go_cell
 ·have:=(o.lt hj).1
  omega
 ·simp only [World.frozen?_setCell]
  exact h.fb j
 ·go_cell
 ·simp only [World.frozen?_setCell]
  exact h.fc
 ·have:=(o.lt hj).1
  omega
 ·have:=(o.lt hj).1
  omega
 ·exact ((((((((h.be.setCell lB _).setCell lB _).setCell lB _).setCell lB _).setCell e5 _).setCell n4 _).setCell n4 _).setCell n4 _).setCell n4 _
theorem Hs.opn_le {y:Hs} {d:Nat->Nat} (hd:∀ i,d i<=y.l i) (hl:∀ i,i<y.n->y.l i<=200) {a b:Nat} (ha:a<y.n) (hb:b<y.n):-200<=y.opn d a b/\y.opn d a b<=200:=by
 have h1:=qxe (y.e a) 2 b (d a);have h2:=qxe (y.e b) 3 a (d b);have h3:=hd a;have h4:=hd b;have h5:=hl a ha;have h6:=hl b hb;unfold Hs.opn;omega
theorem qid {w:World} {X i j m:Nat} {u v:Value} {o:Obj} (h1:m≠i) (h2:m≠j) (hX:X<w.heap.size):(((w.setCell ⟨X,i,none⟩ u).setCell ⟨X,j,none⟩ v).alloc o).cell? ⟨X,m,none⟩=w.cell? ⟨X,m,none⟩:=by
 rw [World.cell?_alloc_lt _ _ _ (by simpa [World.setCell] using hX),World.cell?_setCell_other _ _ _ _ (by intro e;injection e with _ e;exact h2 e.symm),World.cell?_setCell_other _ _ _ _ (by intro e;injection e with _ e;exact h1 e.symm)]
theorem qsf {w:World} {X i j:Nat} {u v:Value} {o:Obj} (h1:i≠j) (hc:(w.cell? ⟨X,i,none⟩).isSome=true) (hX:X<w.heap.size):(((w.setCell ⟨X,i,none⟩ u).setCell ⟨X,j,none⟩ v).alloc o).cell? ⟨X,i,none⟩=some u:=by
 rw [World.cell?_alloc_lt _ _ _ (by simpa [World.setCell] using hX),World.cell?_setCell_other _ _ _ _ (by intro e;injection e with _ e;exact h1 e.symm),World.cell?_setCell_same' _ _ _ hc]
theorem qsg {w:World} {X i j:Nat} {u v:Value} {o:Obj} (h1:i≠j) (hc:(w.cell? ⟨X,j,none⟩).isSome=true) (hX:X<w.heap.size):(((w.setCell ⟨X,i,none⟩ u).setCell ⟨X,j,none⟩ v).alloc o).cell? ⟨X,j,none⟩=some v:=by
 rw [World.cell?_alloc_lt _ _ _ (by simpa [World.setCell] using hX),World.cell?_setCell_same'];rw [World.cell?_setCell_other _ _ _ _ (by intro e;injection e with _ e;exact h1 e)];exact hc
theorem qdt {w:World} {o:Obj} {X j:Nat} (hX:X<w.heap.size):(w.alloc o).frozen? ⟨X,j,none⟩=w.frozen? ⟨X,j,none⟩:=(zS w o).frozen (p:=⟨X,j,none⟩) hX
theorem HisP.put2 {w:World} {X:Nat} {ha:Option Addr} {hc:Nat} {y:Hs} {d:Nat->Nat} {k i0 j0:Nat} {on:Int} {o:Obj} (h:HisP w X ha hc y d) (hk:k<4) (hi:i0<4) (hj:j0<4) (HO:∀ a b,y.opn (up d k) a b=if a=i0/\b=j0 then on else y.opn d a b):
  HisP (((w.setCell ⟨X,9+i0*4+j0,none⟩ (.int .i64 on)).setCell ⟨X,5+k,none⟩ (.int .i64 ((d k:Int)+1))).alloc o) X ha hc y (up d k)/\qaa (fun b=>b=X) w (((w.setCell ⟨X,9+i0*4+j0,none⟩ (.int .i64 on)).setCell ⟨X,5+k,none⟩ (.int .i64 ((d k:Int)+1))).alloc o):=by
 have hX:=h.lt;refine ⟨h.put (k:=k) (qid (by omega) (by omega) hX) (fun i hi'=>?_) (fun a b ha' hb'=>?_) (fun j=>?_),?_⟩
 ·by_cases e:i=k
  ·subst e
   rw [if_pos rfl,qsg (by omega) (by rw [h.pt i hi'];rfl) hX];rfl
  ·rw [if_neg e]
   exact qid (by omega) (by omega) hX
 ·rw [HO]
  by_cases e:a=i0/\b=j0
  ·obtain ⟨rfl,rfl⟩:=e
   rw [if_pos ⟨rfl,rfl⟩];exact qsf (by omega) (by rw [h.op a b ha' hb'];rfl) hX
  ·rw [if_neg e,<- h.op a b ha' hb']
   exact qid (by omega) (by omega) hX
 ·rw [qdt (by simpa [World.setCell] using hX),World.frozen?_setCell,World.frozen?_setCell]
  exact h.fr j
 ·exact ((qaa.of_set (P:=fun b=>b=X) w (a:=⟨X,_,none⟩) rfl _).trans (qaa.of_set (P:=fun b=>b=X) _ (a:=⟨X,_,none⟩) rfl _)).trans (qaa.of_below (zS _ _))
theorem HisP.put1 {w:World} {X:Nat} {ha:Option Addr} {hc:Nat} {y:Hs} {d:Nat->Nat} {k:Nat} {o:Obj} (h:HisP w X ha hc y d) (hk:k<4) (HO:∀ a b,y.opn (up d k) a b=y.opn d a b):
  HisP ((w.setCell ⟨X,5+k,none⟩ (.int .i64 ((d k:Int)+1))).alloc o) X ha hc y (up d k)/\qaa (fun b=>b=X) w ((w.setCell ⟨X,5+k,none⟩ (.int .i64 ((d k:Int)+1))).alloc o):=by
 have hX:=h.lt
 have ho:∀ m,m≠5+k->((w.setCell ⟨X,5+k,none⟩ (.int .i64 ((d k:Int)+1))).alloc o).cell? ⟨X,m,none⟩=w.cell? ⟨X,m,none⟩:=fun m hm=>by
  rw [World.cell?_alloc_lt _ _ _ (by simpa [World.setCell] using hX),World.cell?_setCell_other _ _ _ _ (by intro e;injection e with _ e;exact hm e.symm)]
 refine ⟨h.put (k:=k) (ho 4 (by omega)) (fun i hi'=>?_) (fun a b ha' hb'=>?_) (fun j=>?_),?_⟩
 ·by_cases e:i=k
  ·subst e
   rw [if_pos rfl,World.cell?_alloc_lt _ _ _ (by simpa [World.setCell] using hX),World.cell?_setCell_same' _ _ _ (by rw [h.pt i hi'];rfl)];rfl
  ·rw [if_neg e]
   exact ho _ (by omega)
 ·rw [HO,<- h.op a b ha' hb']
  exact ho _ (by omega)
 ·rw [qdt (by simpa [World.setCell] using hX),World.frozen?_setCell]
  exact h.fr j
 ·exact (qaa.of_set (P:=fun b=>b=X) w (a:=⟨X,_,none⟩) rfl _).trans (qaa.of_below (zS _ _))
theorem HisP.dr {w:World} {X:Nat} {ha:Option Addr} {hc:Nat} {y:Hs} {d:Nat->Nat} (h:HisP w X ha hc y d):HisP w.drew X ha hc y d:=⟨h.c4,h.pt,h.op,h.fr⟩
theorem qaa.dr {P:Nat->Prop} {w w':World} (h:qaa P w w'):qaa P w w'.drew:=⟨h.os,h.tape,h.output,h.size,h.block⟩
theorem qto (X:Nat) (ha:Option Addr) (hc:Nat) (hA:Nat->Option Addr) (hC:Nat->Nat) (y:Hs) (d:Nat->Nat) (k:Nat) (w:World) (hE:HisE w ha hA hC y) (hP:HisP w X ha hc y d) (h4:y.n<=4) (hk:k<y.n) (hp:y.Peers) (hl:∀ i,i<y.n->y.l i<=200) (hd:∀ i,d i<=y.l i) (hlt:d k<y.l k):
  Calls Tryz.prog 190 #[.pointer (some ⟨X,4,none⟩),.int .i64 k] w fun e w'=>e=.returned (.tuple #[])/\HisP w' X ha hc y (up d k)/\qaa (fun b=>b=X) w w':=by
 have HP:Hid (HisP w X ha hc y d):=hP;have hk4:(k:Int)<4:=by omega
 have hk':(k:Int)<(y.n:Int):=by omega
 have hl200:(y.l k:Int)<=200:=by have:=hl k hk;omega
 have hlt':(d k:Int)<(y.l k:Int):=by omega
 obtain ⟨bh,oh,eh,ch⟩:=hE.row.at hk;obtain ⟨c4,pt,op,fr⟩:=hP;have pk:=pt k (by omega);rw [eh] at c4;obtain ⟨b,off,ea,zb,e0,e1,e2⟩:=(hE.ev k hk).at hlt;rw [ea] at ch;have n1:w.heap.size≠X:=by have:=HP.out.lt;omega
 have n2:w.heap.size≠b:=by omega
 have n3:w.heap.size≠bh:=by have:=zJ w _ ch;simp at this;omega
 have zX:X<w.heap.size:=HP.out.lt;have hq:=hp k hk (d k) hlt;obtain ⟨q,hqe⟩:∃ q:Nat,(y.e k (d k)).q=(q:Int):=⟨(y.e k (d k)).q.toNat,by omega⟩
 have hq4:(q:Int)<4:=by omega
 have hqn:q<y.n:=by omega
 rw [hqe] at e1;have c4':=qam c4;have pk':=qam pk;have ch':=qam ch;have e0':=qam e0;have e1':=qam e1;have e2':=qam e2;have fr':∀ j,w.frozen? ⟨X,j,none⟩=false:=fr
 rcases zK ((y.e k (d k)).k == 2) with t | t
 ·have hk2:(y.e k (d k)).k=2:=by simpa using t
  have oq:=op k q (by omega) (by omega);obtain ⟨o1,o2⟩:=Hs.opn_le hd hl hk hqn;have oq':=qam oq;rw [hk2] at e0 e0'
  have HO:Hid (∀ a b,y.opn (up d k) a b=if a=k/\b=q then y.opn d k q+1 else y.opn d a b):=fun a b=>by
   rw [Hs.opn_up,hk2,hqe];by_cases e:a=k/\b=q
   ·obtain ⟨rfl,rfl⟩:=e
    simp
   ·rw [if_neg e,if_neg (fun h=>e ⟨h.1,by omega⟩),if_neg (fun h=>absurd h.2.1 (by decide))]
    omega
  clear op pt t hk2 hq hqe hp hE eh ea;generalize (y.e k (d k)).v=vd at *;generalize y.opn d k q=on at *
  go_enter Tryz.func190,Tryz.ntmps190
  go_wp2_with fail
  go_region
  all_goals
   go_wp2_with fail
   go_region
   all_goals
    go_wp2_with fail
    go_region
    all_goals
     go_wp2_with fail
     go_end0
     have hz:=HP.out.put2 (o:=oQ0 2 q vd) (show k<4 by omega) (show k<4 by omega) (show q<4 by omega) HO.out;exact ⟨rfl,hz.1.dr.dr.dr,hz.2.dr.dr.dr⟩
 rcases zK ((y.e k (d k)).k == 3) with t3 | t3
 ·have hk3:(y.e k (d k)).k=3:=by simpa using t3
  have oq:=op q k (by omega) (by omega);obtain ⟨o1,o2⟩:=Hs.opn_le hd hl hqn hk;have oq':=qam oq;rw [hk3] at e0 e0'
  have HO:Hid (∀ a b,y.opn (up d k) a b=if a=q/\b=k then y.opn d q k - 1 else y.opn d a b):=fun a b=>by
   rw [Hs.opn_up,hk3,hqe];by_cases e:a=q/\b=k
   ·obtain ⟨rfl,rfl⟩:=e
    simp
   ·rw [if_neg e,if_neg (fun h=>absurd h.2.1 (by decide)),if_neg (fun h=>e ⟨by omega,h.1⟩)]
    omega
  clear op pt t t3 hk3 hq hqe hp hE eh ea;generalize (y.e k (d k)).v=vd at *;generalize y.opn d q k=on at *
  go_enter Tryz.func190,Tryz.ntmps190
  go_wp2_with fail
  go_region
  all_goals
   go_wp2_with fail
   go_region
   all_goals
    go_wp2_with fail
    go_region
    all_goals
     go_wp2_with fail
     go_end0
     have hz:=HP.out.put2 (o:=oQ0 3 q vd) (show k<4 by omega) (show q<4 by omega) (show k<4 by omega) HO.out;exact ⟨rfl,hz.1.dr.dr.dr,hz.2.dr.dr.dr⟩
 ·have HO:Hid (∀ a b,y.opn (up d k) a b=y.opn d a b):=fun a b=>by
   have t2:(y.e k (d k)).k≠2:=by simpa using t
   have t3':(y.e k (d k)).k≠3:=by simpa using t3
   rw [Hs.opn_up,if_neg (fun h=>t2 h.2.1),if_neg (fun h=>t3' h.2.1)];omega
  clear op pt hq hqe hp hE eh ea;generalize (y.e k (d k)).v=vd at *;generalize (y.e k (d k)).k=kd at *
  go_enter Tryz.func190,Tryz.ntmps190
  go_wp2_with fail
  go_region
  all_goals
   go_wp2_with fail
   go_region
   all_goals
    go_wp2_with fail
    go_end0
    have hz:=HP.out.put1 (o:=oQ0 kd q vd) (show k<4 by omega) HO.out;exact ⟨rfl,hz.1.dr.dr,hz.2.dr.dr⟩
def NxtR (w:World) (y:Hs) (d:Nat->Nat) (e:Ending) (w':World):Prop:=
 Below w.heap.size w w'/\((∃ k,k<y.n/\y.Can d k/\e=.returned (.int .i64 (k:Nat)))\/(e=.returned (.int .i64 (-1))/\∀ p,p<y.n->¬ y.Can d p))
theorem qrs (X:Nat) (ha:Option Addr) (hc:Nat) (hA:Nat->Option Addr) (hC:Nat->Nat) (y:Hs) (d:Nat->Nat) (w:World) (hE:HisE w ha hA hC y) (hP:HisP w X ha hc y d) (h4:y.n<=4) (hp:y.Peers) (hl:∀ i,i<y.n->y.l i<=200) (hd:∀ i,d i<=y.l i):
  Calls Tryz.prog 189 #[.pointer (some ⟨X,4,none⟩)] w (NxtR w y d):=by
 have HE:Hid (HisE w ha hA hC y):=hE;have HP:Hid (HisP w X ha hc y d):=hP;have HH:Hid (y.Peers/\(∀ i,i<y.n->y.l i<=200)/\∀ i,d i<=y.l i):=⟨hp,hl,hd⟩
 have hn:(y.n:Int)<=4:=by omega
 obtain ⟨c4,-,-,-⟩:=hP;clear hE hp hl hd
 go_enter Tryz.func189,Tryz.ntmps189
 go_wp2_with fail
 clear c4
 go_loopw [9] (fun i wr=>∃ k:Nat,k<=y.n/\i=.int .i64 k/\Below w.heap.size w wr/\Hid (∀ j,j<k->¬ y.Can d j)) (fun i _=>y.n - (intOf i).toNat)
 case atStart=>exact ⟨0,Nat.zero_le _,rfl,Below.refl _ _,fun j hj=>by omega⟩
 case round=>
  obtain ⟨k,hk,rfl,hbw,HZ⟩:=hrel;by_cases hlt:k<y.n
  ·have hlt':(k:Int)<(y.n:Int):=by omega
   go_wp2_with fail
   refine (qsd X ha hc hA hC y d k wr (HE.out.below hbw) (HP.out.below hbw) h4 hlt HH.1 HH.2.1 HH.2.2).mono ?_;rintro e w1 ⟨rfl,b1⟩;have B1:Hid (Below w.heap.size w w1):=hbw.trans (b1.mono hbw.size);clear b1 hbw;by_cases hc':y.Can d k
   ·have HF:Hid (NxtR w y d (.returned (.int .i64 k)) w1):=⟨B1.out,.inl ⟨k,hlt,hc',rfl⟩⟩
    rw [qbs hc'];clear hc' B1;go_wp2;go_ret;exact HF.out
   ·have HZ':Hid (∀ j,j<k+1->¬ y.Can d j):=fun j hj=>by
     by_cases e:j=k
     ·subst e
      exact hc'
     ·exact HZ.out j (by omega)
    rw [qa4 hc'];clear hc' HZ;go_wp2;go_roundw
    case rel=>exact ⟨k+1,by omega,by go_num,B1.out,HZ'.out⟩
    case measure=>simp [intOf];omega
  ·have HF:Hid (NxtR w y d (.returned (.int .i64 (-1))) wr):=⟨hbw,.inr ⟨rfl,fun p hp=>HZ.out p (by omega)⟩⟩
   clear HZ hbw;go_wp2;go_ret;exact HF.out
theorem qr5 (X:Nat) (ha:Option Addr) (hc:Nat) (hA:Nat->Option Addr) (hC:Nat->Nat) (y:Hs) (d:Nat->Nat) (w:World) (hE:HisE w ha hA hC y) (hP:HisP w X ha hc y d) (h4:y.n<=4) (hl:∀ i,i<y.n->y.l i<=200) (hd:∀ i,d i<=y.l i):
  Calls Tryz.prog 191 #[.pointer (some ⟨X,4,none⟩)] w fun e w'=>e=.returned (.bool (qB (y.All d)))/\Below w.heap.size w w':=by
 have HE:Hid (HisE w ha hA hC y):=hE;have HP:Hid (HisP w X ha hc y d):=hP;have HH:Hid ((∀ i,i<y.n->y.l i<=200)/\∀ i,d i<=y.l i):=⟨hl,hd⟩
 have hn:(y.n:Int)<=4:=by omega
 obtain ⟨c4,-,-,-⟩:=hP;clear hE hl hd
 go_enter Tryz.func191,Tryz.ntmps191
 go_wp2_with fail
 clear c4
 go_loopw [10] (fun i wr=>∃ k:Nat,k<=y.n/\i=.int .i64 k/\Below w.heap.size w wr/\Hid (∀ j,j<k->d j=y.l j)) (fun i _=>y.n - (intOf i).toNat)
 case atStart=>exact ⟨0,Nat.zero_le _,rfl,Below.refl _ _,fun j hj=>by omega⟩
 case round=>
  obtain ⟨k,hk,rfl,hbw,HZ⟩:=hrel;by_cases hlt:k<y.n
  ·have hlt':(k:Int)<(y.n:Int):=by omega
   have hk4:(k:Int)<4:=by omega
   obtain ⟨bh,oh,eh,ch⟩:=(HE.out.below hbw).row.at hlt;have pk:=(HP.out.below hbw).pt k (by omega);have hd':(d k:Int)<=(y.l k:Int):=by have:=HH.2 k;omega
   rw [eh];by_cases hs:d k<y.l k
   ·have hs':(d k:Int)<(y.l k:Int):=by omega
    have HN:Hid (qB (y.All d)=false):=qa4 fun h=>by have:=h k hlt;omega
    clear HZ;go_wp2;go_ret;rw [HN.out];exact ⟨rfl,hbw⟩
   ·have hs':¬ (d k:Int)<(y.l k:Int):=by omega
    have HZ':Hid (∀ j,j<k+1->d j=y.l j):=fun j hj=>by
     by_cases e:j=k
     ·subst e
      omega
     ·exact HZ.out j (by omega)
    clear HZ;go_wp2;go_roundw
    case rel=>exact ⟨k+1,by omega,by go_num,hbw,HZ'.out⟩
    case measure=>simp [intOf];omega
  ·have HN:Hid (qB (y.All d)=true):=qbs fun p hp=>HZ.out p (by omega)
   clear HZ;go_wp2;go_ret;rw [HN.out];exact ⟨rfl,hbw⟩
