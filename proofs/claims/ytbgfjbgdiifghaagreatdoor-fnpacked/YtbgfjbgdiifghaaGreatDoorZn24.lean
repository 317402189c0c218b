import Derived.Test.YtbgfjbgdiifghaaGreatDoorZn22
import Derived.Test.YtbgfjbgdiifghaaGreatDoorZn21
namespace Go.Proofs.YtbgfjbgdiifghaaGreatDoor
open Go.Proofs.Tryz
set_option maxRecDepth 100000
set_option maxHeartbeats 4000000
open Go.RowKit Go.Deep
def val:List Int->Nat
 | []=>0
 | d :: r=>(d % 128).toNat+128*val r
def frm:Nat->List Int->Option (List Int)
 | 0,_=>none
 | _+1,[]=>none
 | k+1,d :: r=>if d<128 then some [d] else (frm k r).map (d :: ·)
def unf (n:Nat):Int:=if n % 2=1 then -(((n+1) / 2:Nat):Int) else ((n / 2:Nat):Int)
def okF (F:List Int):Bool:=decide (F.length=1\/zi F (F.length - 1)≠0)
def isF:List Int->Prop
 | []=>False
 | [d]=>0<=d/\d<128
 | d :: e :: r=>(128<=d/\d<=255)/\isF (e :: r)
def By (ys:List Int):Prop:=∀ i,i<ys.length->0<=zi ys i/\zi ys i<=255
theorem qce (d:Int) (r:List Int) (i:Nat):zi (d :: r) (i+1)=zi r i:=by simp [zi]
theorem qeo (d:Int) (r:List Int):zi (d :: r) 0=d:=by simp [zi]
theorem qbk (ys:List Int) (a k:Nat):zi (ys.drop a) k=zi ys (a+k):=by
 unfold zi;rw [List.getD_eq_getElem?_getD,List.getD_eq_getElem?_getD,List.getElem?_drop]
theorem qk7 (ys:List Int) (a k:Nat) (h:k<a):zi (ys.take a) k=zi ys k:=by
 unfold zi;rw [List.getD_eq_getElem?_getD,List.getD_eq_getElem?_getD,List.getElem?_take,nC h]
theorem qyk (n:Nat):fd (unf n)=n:=by
 unfold fd unf
 split <;> split <;> omega
theorem qt7:∀ {F:List Int},isF F->(F.length=1\/zi F (F.length - 1)≠0)->1<F.length->1<=val F.tail
 | [],h,_,_=>h.elim
 | [_],_,_,h=>by simp at h
 | d :: e :: [],h,ho,_=>by
  have he:0<=e/\e<128:=h.2
  rcases ho with ho | ho
  ·simp at ho
  ·have:zi [d,e] 1=e:=by simp [zi]
   simp only [List.length_cons,List.length_nil] at ho;rw [this] at ho;simp only [List.tail_cons,val];omega
 | d :: e :: f :: r,h,ho,_=>by
  have h2:=h.2
  have := qt7 (F := e :: f :: r) h2 (by
   rcases ho with ho | ho
   ·simp at ho
   ·right
    simp only [List.length_cons,Nat.add_sub_cancel] at ho ⊢;rw [qce] at ho
    exact ho) (by simp)
  simp only [List.tail_cons] at this ⊢;rw [val];omega
theorem qym:∀ {F:List Int} (K:Nat),isF F->F.length<=K+1->(F.length=1\/zi F (F.length - 1)≠0)->fmN K (val F)=F
 | [],_,h,_,_=>h.elim
 | [d],K,h,_,_=>by
  have h':0<=d/\d<128:=h;have e:val [d]=d.toNat:=by simp only [val];omega
  rw [e,qfd K _ (by omega)]
  congr 1
  omega
 | d :: e :: r,0,_,hl,_=>by simp at hl
 | d :: e :: r,K+1,h,hl,ho=>by
  have h1:=h.1;have hp:=qt7 h ho (by simp);simp only [List.tail_cons] at hp
  have ho':(e :: r).length=1\/zi (e :: r) ((e :: r).length - 1)≠0:=by
   rcases ho with ho | ho
   ·simp at ho
   ·by_cases hr:r=[]
    ·left;simp [hr]
    ·right
     obtain ⟨q,r',rfl⟩:=List.exists_cons_of_ne_nil hr;simp only [List.length_cons,Nat.add_sub_cancel] at ho ⊢;rw [qce] at ho;exact ho
  have ih:=qym (F:=e :: r) K h.2 (by simp at hl ⊢;omega) ho';have ev:val (d :: e :: r)=(d % 128).toNat+128*val (e :: r):=rfl;have hm:val (d :: e :: r) % 128=(d % 128).toNat:=by omega
  have hd:val (d :: e :: r) / 128=val (e :: r):=by omega
  rw [fmN,nB (by omega),hm,hd,ih]
  congr 1
  omega
theorem qwa:∀ (K n:Nat),1<=n->zi (fmN K n) ((fmN K n).length - 1)≠0
 | 0,n,h=>by simp [fmN,zi];omega
 | K+1,n,h=>by
  rw [fmN]
  split
  ·simp [zi];omega
  ·have ih:=qwa K (n / 128) (by omega)
   have hp:=qwc K (n / 128);obtain ⟨m,hm⟩:∃ m,(fmN K (n / 128)).length=m+1:=⟨(fmN K (n / 128)).length - 1,by omega⟩
   rw [List.length_cons,hm,Nat.add_sub_cancel,qce];rw [hm,Nat.add_sub_cancel] at ih;exact ih
theorem qyn (K n:Nat):(fmN K n).length=1\/zi (fmN K n) ((fmN K n).length - 1)≠0:=by
 by_cases h:n<128
 ·left
  rw [qfd K n h];rfl
 ·exact .inr (qwa K n (by omega))
theorem qtc {F:List Int} (h:isF F) (hl:F.length<=5):puL (unf (val F))=F ↔ puB (unf (val F))=true/\okF F=true:=by
 unfold puL okF;rw [qyk];constructor
 ·intro e
  split at e
  ·rename_i hb
   refine ⟨hb,decide_eq_true ?_⟩;rw [<- e];exact qyn 4 _
  ·rw [<- e] at h
   exact h.elim
 ·rintro ⟨hb,ho⟩
  rw [nC hb];exact qym 4 h hl (of_decide_eq_true ho)
theorem qju:∀ (k m:Nat) (L:List Int),k<=m->k<=L.length->(∀ j,j<k->128<=zi L j)->frm m L=(frm (m - k) (L.drop k)).map (L.take k ++ ·)
 | 0,m,L,_,_,_=>by simp
 | k+1,0,L,h,_,_=>by omega
 | k+1,m+1,[],_,h,_=>by simp at h
 | k+1,m+1,d :: r,h1,h2,h3=>by
  have hd:128<=d:=by have:=h3 0 (by omega);rwa [qeo] at this
  rw [frm,nB (by omega),qju k m r (by omega) (by simp at h2;omega) (fun j hj=>by have:=h3 (j+1) (by omega);rwa [qce] at this)];rw [Nat.add_sub_add_right,List.drop_succ_cons,List.take_succ_cons,Option.map_map];rfl
theorem qi6 (L:List Int) (k:Nat) (h1:k<=5) (h2:k<=L.length) (h3:∀ j,j<k->128<=zi L j) (h:k=5\/k=L.length):frm 5 L=none:=by
 rw [qju k 5 L h1 h2 h3]
 rcases h with rfl | rfl
 ·rfl
 ·rw [List.drop_length]
  cases 5 - L.length <;> rfl
theorem qjt (L:List Int) (k:Nat) (h1:k<5) (h2:k<L.length) (h3:∀ j,j<k->128<=zi L j) (h:zi L k<128):frm 5 L=some (L.take (k+1)):=by
 rw [qju k 5 L (by omega) (by omega) h3];obtain ⟨m,hm⟩:∃ m,5 - k=m+1:=⟨4 - k,by omega⟩
 have hz:zi L k=L[k]:=by
  unfold zi;rw [List.getD_eq_getElem?_getD,List.getElem?_eq_getElem h2];rfl
 rw [List.drop_eq_getElem_cons h2,hm,frm,nC (by rw [<- hz];exact h),Option.map_some,List.take_succ_eq_append_getElem h2]
theorem qpe:∀ (k:Nat) (L:List Int),k<L.length->By L->(∀ j,j<k->128<=zi L j)->zi L k<128->isF (L.take (k+1))
 | _,[],h,_,_,_=>by simp at h
 | 0,d :: r,_,hb,_,h=>by
  have:=hb 0 (by simp);rw [qeo] at this h;exact ⟨this.1,h⟩
 | k+1,[d],h,_,_,_=>by simp at h
 | k+1,d :: e :: r,h,hb,h3,h4=>by
  have ih:=qpe k (e :: r) (by simp at h ⊢;omega) (fun i hi=>by have:=hb (i+1) (by simp at hi ⊢;omega);rwa [qce] at this) (fun j hj=>by have:=h3 (j+1) (by omega);rwa [qce] at this) (by rwa [qce] at h4);have hd:=hb 0 (by simp);have hd':=h3 0 (by omega);rw [qeo] at hd hd';exact ⟨⟨hd',hd.2⟩,ih⟩
theorem qhz:∀ (k:Nat) (L:List Int),k<L.length->val (L.take (k+1))=val (L.take k)+(zi L k % 128).toNat*128 ^ k
 | _,[],h=>by simp at h
 | 0,d :: r,_=>by simp [val,zi]
 | k+1,d :: r,h=>by
  have ih:=qhz k r (by simp at h;omega);rw [List.take_succ_cons,List.take_succ_cons,val,val,ih,qce,Nat.pow_succ,Nat.mul_add]
  have:128*((zi r k % 128).toNat*128 ^ k)=(zi r k % 128).toNat*(128 ^ k*128):=by
   rw [Nat.mul_comm,Nat.mul_assoc]
  omega
theorem qje:∀ (L:List Int),val L<128 ^ L.length
 | []=>by simp [val]
 | d :: r=>by
  have:=qje r;rw [val,List.length_cons,Nat.pow_succ];omega
def gnO (ys:List Int) (z:Int):Option (Int × Int):=
 if 0<=z/\z<ys.length then
  match frm 5 (ys.drop z.toNat) with
  | none=>none
  | some F=>if puB (unf (val F))=true/\okF F=true then some (unf (val F),z+F.length) else none
 else none
def gnV:Option (Int × Int)->Value
 | none=>.tuple #[.int .i64 0,.int .i64 0,.bool false]
 | some (x,e)=>.tuple #[.int .i64 x,.int .i64 e,.bool true]
theorem qxi (a b k:Nat) (ha:a<2 ^ k) (hb:b*2 ^ k+a<9223372036854775808):bits .or .i64 (a:Int) ((b*2 ^ k:Nat):Int)=((a+b*2 ^ k:Nat):Int):=by
 have key:(BitVec.ofInt 64 (a:Int) ||| BitVec.ofInt 64 ((b*2 ^ k:Nat):Int)).toNat=a+b*2 ^ k:=by
  rw [BitVec.toNat_or,BitVec.toNat_ofInt,BitVec.toNat_ofInt];have e1:((a:Int) % ((2 ^ 64:Nat):Int)).toNat=a:=by omega
  have e2:(((b*2 ^ k:Nat):Int) % ((2 ^ 64:Nat):Int)).toNat=b*2 ^ k:=by omega
  rw [e1,e2,Nat.or_comm,Nat.mul_comm b,<- Nat.two_pow_add_eq_or_of_lt ha,Nat.add_comm]
 show IntKind.i64.wrap ((BitVec.ofInt 64 (a:Int) ||| BitVec.ofInt 64 ((b*2 ^ k:Nat):Int)).toNat:Nat)=_;rw [key,IntKind.wrap_i64];omega
theorem qsx (v j:Nat) (d:Int) (hj:j<5) (hv:v<128 ^ j):bits .or .i64 (v:Int) (wrap64 (d % 128*2 ^ (7*j)))=((v+(d % 128).toNat*128 ^ j:Nat):Int):=by
 have hm:(d % 128).toNat<128:=by omega
 have e1:(128:Nat) ^ j=2 ^ (7*j):=by rw [Nat.pow_mul]
 have e2:d % 128*2 ^ (7*j)=(((d % 128).toNat*2 ^ (7*j):Nat):Int):=by
  rw [Int.natCast_mul,Int.natCast_pow]
  congr 1
  omega
 have hp:(2:Nat) ^ (7*j)<=2 ^ 28:=Nat.pow_le_pow_right (by omega) (by omega);have hq:(d % 128).toNat*2 ^ (7*j)<=127*2 ^ 28:=Nat.mul_le_mul (by omega) hp;rw [e1] at hv ⊢;rw [e2];generalize hP:(d % 128).toNat*2 ^ (7*j)=p at hq
 have hw:wrap64 ((p:Nat):Int)=((p:Nat):Int):=by
  unfold wrap64;omega
 rw [hw,<- hP];refine qxi v _ (7*j) hv ?_;omega
theorem qyr {ys:List Int} {a:Nat} (h:a<ys.length) (hf:frm 5 (ys.drop a)=none):gnO ys (a:Int)=none:=by
 rw [gnO,nC ⟨by omega,by omega⟩];show (match frm 5 (ys.drop a) with | none=>none | some F=>_)=none;rw [hf]
theorem qyt {ys F:List Int} {a:Nat} (h:a<ys.length) (hf:frm 5 (ys.drop a)=some F):gnO ys (a:Int)=if puB (unf (val F))=true/\okF F=true then some (unf (val F),(a:Int)+F.length) else none:=by
 rw [gnO,nC ⟨by omega,by omega⟩];show (match frm 5 (ys.drop a) with | none=>none | some F=>_)=_;rw [hf]
theorem qol (x:Int) (h:puB x=false):puL x=[]:=by rw [puL,nB (by rw [h];decide)]
theorem qgp (x:Int) (h:puB x=true):0<(puL x).length:=by rw [puL,nC h];exact qwc 4 _
theorem qyq {ys:List Int} {a j v:Nat} {d:Int} (hj:j<5) (hl:a+j<ys.length) (hv:v=val ((ys.drop a).take j)) (hi:∀ i,i<j->128<=zi ys (a+i)) (hd:zi ys (a+j)=d) (d1:d<128):
  v<128 ^ j/\((v+(d % 128).toNat*128 ^ j:Nat))<34359738368/\gnO ys (a:Int)=if puB (unf (v+(d % 128).toNat*128 ^ j))=true/\¬ (d=0/\0<j) then some (unf (v+(d % 128).toNat*128 ^ j),(a:Int)+j+1) else none:=by
 have hL:j<(ys.drop a).length:=by rw [List.length_drop];omega
 have hF:=qjt (ys.drop a) j hj hL (fun i h=>by rw [qbk];exact hi i h) (by rw [qbk,hd];exact d1);have hl1:((ys.drop a).take (j+1)).length=j+1:=by rw [List.length_take];omega
 have hvv:=qhz j (ys.drop a) hL;rw [qbk,hd,<- hv] at hvv;have hlt:=qje ((ys.drop a).take j);rw [<- hv,List.length_take,Nat.min_eq_left (by omega)] at hlt;have hlt2:=qje ((ys.drop a).take (j+1));rw [hl1,hvv] at hlt2;have hp:(128:Nat) ^ (j+1)<=128 ^ 5:=Nat.pow_le_pow_right (by omega) (by omega);refine ⟨hlt,by omega,?_⟩;rw [qyt (by omega) hF,hvv,hl1]
 have hk:(okF ((ys.drop a).take (j+1))=true) ↔ ¬ (d=0/\0<j):=by
  unfold okF;rw [decide_eq_true_iff,hl1,Nat.add_sub_cancel,qk7 _ _ _ (by omega),qbk,hd];omega
 simp only [hk]
 split <;> simp <;> omega
theorem qe9 (a0:Option Addr) (cap:Nat) (ys:List Int) (z:Int) (w:World) (hlen:ys.length<=1048576) (hc:SlB w a0 ys) (hb:By ys):
  Calls prog 68 #[.slice a0 ys.length cap,iV z] w (rB w (gnV (gnO ys z))):=by
 have hl':(ys.length:Int)<=1048576:=by omega
 by_cases hz:0<=z/\z<ys.length
 ·obtain ⟨z0,z1⟩:=hz
  obtain ⟨a,rfl⟩:=Int.eq_ofNat_of_zero_le z0;have ha:a<ys.length:=by omega
  have hna:¬ ((ys.length:Int)<=(a:Int)):=by omega
  obtain ⟨b,off,rfl,hbl,-⟩:=hc.at (k:=a) (by omega);have HC:Hid (SlB w (some (aQ b off)) ys):=hc;have HB:Hid (By ys):=hb;clear hc hb
  go_enter func68,ntmps68
  go_wp2_with fail
  go_loopw [7,8] (fun n k wr=>∃ j v:Nat,k=.int .i64 (j:Int)/\n=.int .i64 (v:Int)/\j<=5/\a+j<=ys.length/\wr=w/\Hid (v=val ((ys.drop a).take j)/\∀ i,i<j->128<=zi ys (a+i))) (fun _ k _=>5 - (intOf k).toNat)
  case atStart=>exact ⟨0,0,rfl,rfl,by omega,by omega,rfl,rfl,fun i hi=>by omega⟩
  case round=>
   obtain ⟨j,v,rfl,rfl,hj,hjl,rfl,HI⟩:=hrel;by_cases h5:j<5
   ·have h5':(j:Int)<5:=by omega
    by_cases hl:a+j<ys.length
    ·have hl2:(a:Int)+(j:Int)<(ys.length:Int):=by omega
     obtain ⟨b',off',e,-,ck⟩:=HC.at (k:=a+j) hl;cases e;obtain ⟨d0,d1⟩:=HB.out (a+j) hl;generalize hzd:zi ys (a+j)=d at ck d0 d1;have HD:Hid (zi ys (a+j)=d):=hzd;clear hzd;by_cases hd:128<=d
     ·go_wp2
      go_roundw
      case rel=>
       have hL:j<(ys.drop a).length:=by rw [List.length_drop];omega
       have hvv:=qhz j (ys.drop a) hL;rw [qbk,HD.out,<- HI.1] at hvv;have hlt:=qje ((ys.drop a).take j);rw [<- HI.1,List.length_take,Nat.min_eq_left (by omega)] at hlt;refine ⟨j+1,v+(d % 128).toNat*128 ^ j,by go_num,by rw [qsx v j d h5 hlt],by omega,by omega,trivial,hvv.symm,fun i hi=>?_⟩;by_cases e:i=j
       ·subst e;rw [HD.out];exact hd
       ·exact HI.2 i (by omega)
      case measure=>simp [intOf];omega
     ·have hd':d<128:=by omega
      obtain ⟨hlt,hN,hG⟩:=qyq h5 hl HI.1 HI.2 HD.out hd';by_cases hsp:d=0/\j=0
      ·obtain ⟨rfl,rfl⟩:=hsp
       have hv0:v=0:=by simpa using hlt
       subst hv0
       have HV:Hid (gnO ys (a:Int)=some (0,(a:Int)+1)):=by
        show gnO ys (a:Int)=some (0,(a:Int)+1);rw [hG,nC ⟨by decide,by omega⟩];simp [unf]
       clear hG hlt hN HI HD hj;have ck':wr.cell? ⟨b,off+a,none⟩=some (.int .u8 0):=ck;have hor0:bits .or .i64 0 0=0:=by decide
       go_wp2_with fail
       refine (qbi 0 wr).mono ?_;rintro e w1 ⟨u1,rfl,o1,b1⟩;obtain ⟨ap,cp,rfl,-⟩:=o1.form;clear o1;have hpl:(puL 0).length=1:=by decide
       rw [hpl];go_wp2;exact bodyPost_ret (v:=.tuple #[iV 0,iV ((a:Int)+1),.bool true]) (by simp [results,results68,go_sem]) rfl ⟨by rw [HV.out];rfl,b1⟩
      have hor:=qsx v j d h5 hlt;generalize hNN:v+(d % 128).toNat*128 ^ j=N at hN hG hor;clear hNN hlt HI HD hj;have HG:Hid (gnO ys (a:Int)=if puB (unf N)=true/\¬ (d=0/\0<j) then some (unf N,(a:Int)+j+1) else none):=hG;clear hG;have hNi:(N:Int)<34359738368:=by omega
      by_cases ho:N % 2=1
      ·have hob:((N:Int) % 2 == 1)=true:=by simp;omega
       by_cases hq:d=0/\0<j
       ·have HV:Hid (gnO ys (a:Int)=none):=by show gnO ys (a:Int)=none;rw [HG.out,nB (fun h=>h.2 hq)]
        obtain ⟨q0,q1⟩:=hq;have qb:(d == 0)=true:=by simp [q0]
        have q2:(0:Int)<(j:Int):=by omega
        clear q0;go_wp2;exact bodyPost_ret (v:=.tuple #[iV 0,iV 0,.bool false]) (by simp [results,results68,go_sem]) rfl ⟨by rw [HV.out];rfl,nE _ _⟩
       ·have hu:unf N = -((N:Int) / 2) - 1:=by unfold unf;split <;> omega
        rw [hu] at HG;clear hu;have qb:(d == 0)=false:=by simp;omega
        have HQ:Hid (¬ (d=0/\0<j)):=hq;clear hq hsp;go_wp2_with fail
        refine (qbi (-((N:Int) / 2) - 1) wr).mono ?_;rintro e w1 ⟨u1,rfl,o1,b1⟩;obtain ⟨ap,cp,rfl,-⟩:=o1.form;clear o1;have hpl:=qil (-((N:Int) / 2) - 1);cases hpb:puB (-((N:Int) / 2) - 1) with
        | false=>
         have hpn:((puL (-((N:Int) / 2) - 1)).length:Int)=0:=by rw [qol _ hpb];rfl
         have HV:Hid (gnO ys (a:Int)=none):=by show gnO ys (a:Int)=none;rw [HG.out,nB (fun h=>by rw [hpb] at h;cases h.1)]
         generalize (puL (-((N:Int) / 2) - 1)).length=m at *;have hm:((m:Int) == 0)=true:=by simp;omega
         go_wp2;exact bodyPost_ret (v:=.tuple #[iV 0,iV 0,.bool false]) (by simp [results,results68,go_sem]) rfl ⟨by rw [HV.out];rfl,b1⟩
        | true=>
         have hpn:=qgp _ hpb;have HV:Hid (gnO ys (a:Int)=some (-((N:Int) / 2) - 1,(a:Int)+j+1)):=by show gnO ys (a:Int)=some (-((N:Int) / 2) - 1,(a:Int)+j+1);rw [HG.out,nC ⟨hpb,HQ.out⟩]
         generalize (puL (-((N:Int) / 2) - 1)).length=m at *;have hm:((m:Int) == 0)=false:=by simp;omega
         go_wp2;exact bodyPost_ret (v:=.tuple #[iV (-((N:Int) / 2) - 1),iV ((a:Int)+j+1),.bool true]) (by simp [results,results68,go_sem]) rfl ⟨by rw [HV.out];rfl,b1⟩
      ·have hob:((N:Int) % 2 == 1)=false:=by simp;omega
       by_cases hq:d=0/\0<j
       ·have HV:Hid (gnO ys (a:Int)=none):=by show gnO ys (a:Int)=none;rw [HG.out,nB (fun h=>h.2 hq)]
        obtain ⟨q0,q1⟩:=hq;have qb:(d == 0)=true:=by simp [q0]
        have q2:(0:Int)<(j:Int):=by omega
        clear q0;go_wp2;exact bodyPost_ret (v:=.tuple #[iV 0,iV 0,.bool false]) (by simp [results,results68,go_sem]) rfl ⟨by rw [HV.out];rfl,nE _ _⟩
       ·have hu:unf N=(N:Int) / 2:=by unfold unf;split <;> omega
        rw [hu] at HG;clear hu;have qb:(d == 0)=false:=by simp;omega
        have HQ:Hid (¬ (d=0/\0<j)):=hq;clear hq hsp;go_wp2_with fail
        refine (qbi ((N:Int) / 2) wr).mono ?_;rintro e w1 ⟨u1,rfl,o1,b1⟩;obtain ⟨ap,cp,rfl,-⟩:=o1.form;clear o1;have hpl:=qil ((N:Int) / 2);cases hpb:puB ((N:Int) / 2) with
        | false=>
         have hpn:((puL ((N:Int) / 2)).length:Int)=0:=by rw [qol _ hpb];rfl
         have HV:Hid (gnO ys (a:Int)=none):=by show gnO ys (a:Int)=none;rw [HG.out,nB (fun h=>by rw [hpb] at h;cases h.1)]
         generalize (puL ((N:Int) / 2)).length=m at *;have hm:((m:Int) == 0)=true:=by simp;omega
         go_wp2;exact bodyPost_ret (v:=.tuple #[iV 0,iV 0,.bool false]) (by simp [results,results68,go_sem]) rfl ⟨by rw [HV.out];rfl,b1⟩
        | true=>
         have hpn:=qgp _ hpb;have HV:Hid (gnO ys (a:Int)=some ((N:Int) / 2,(a:Int)+j+1)):=by show gnO ys (a:Int)=some ((N:Int) / 2,(a:Int)+j+1);rw [HG.out,nC ⟨hpb,HQ.out⟩]
         generalize (puL ((N:Int) / 2)).length=m at *;have hm:((m:Int) == 0)=false:=by simp;omega
         go_wp2;exact bodyPost_ret (v:=.tuple #[iV ((N:Int) / 2),iV ((a:Int)+j+1),.bool true]) (by simp [results,results68,go_sem]) rfl ⟨by rw [HV.out];rfl,b1⟩
    ·have HV:Hid (gnO ys (a:Int)=none):=qyr ha (qi6 _ j hj (by rw [List.length_drop];omega) (fun i h=>by rw [qbk];exact HI.2 i h) (.inr (by rw [List.length_drop];omega)))
     have hl2:¬ ((a:Int)+(j:Int)<(ys.length:Int)):=by omega
     clear HI;go_wp2;exact bodyPost_ret (v:=.tuple #[iV 0,iV 0,.bool false]) (by simp [results,results68,go_sem]) rfl ⟨by rw [HV.out];rfl,nE _ _⟩
   ·have HV:Hid (gnO ys (a:Int)=none):=qyr ha (qi6 _ j hj (by rw [List.length_drop];omega) (fun i h=>by rw [qbk];exact HI.2 i h) (.inl (by omega)))
    have h5':¬ ((j:Int)<5):=by omega
    clear HI;go_wp2;exact bodyPost_ret (v:=.tuple #[iV 0,iV 0,.bool false]) (by simp [results,results68,go_sem]) rfl ⟨by rw [HV.out];rfl,nE _ _⟩
 ·have HV:Hid (gnO ys z=none):=by show gnO ys z=none;rw [gnO,nB hz]
  clear hc hb;by_cases z0:z<0
  ·clear hz
   go_enter func68,ntmps68
   go_wp2;exact bodyPost_ret (v:=.tuple #[iV 0,iV 0,.bool false]) (by simp [results,results68,go_sem]) rfl ⟨by rw [HV.out];rfl,nE _ _⟩
  ·have z1:(ys.length:Int)<=z:=by omega
   clear hz
   go_enter func68,ntmps68
   go_wp2;exact bodyPost_ret (v:=.tuple #[iV 0,iV 0,.bool false]) (by simp [results,results68,go_sem]) rfl ⟨by rw [HV.out];rfl,nE _ _⟩
theorem qct {w:World} {a0:Option Addr} {xs:List Int} (h:SlB w a0 xs) (cap:Nat):(convert 22 9 (.slice a0 xs.length cap)).run prog w=.ok (.string (strOfNums xs)) w:=by
 cases a0 with
 | none=>
  have hx:xs=[]:=by
   rcases h with h | ⟨b,off,e,-⟩
   ·exact h
   ·cases e
  subst hx;exact run_convert_bytes_nil w _ 5 Tryz.underlying22 Tryz.underlying5 _ _ _ Tryz.underlying9
 | some a=>
  rcases h with rfl | ⟨b,off,e,-,hc⟩
  ·rw [run_convert_bytes_string w _ _ 5 _ _ _ Tryz.underlying22 Tryz.underlying5 Tryz.underlying9]
   have hl:(loadCells a ([]:List Int).length).run prog w=.ok (([]:List Int).map (Value.int .u8)).toArray w:=run_loadCells_list (P:=prog) w a [] (fun j v hj=>by simp at hj);rw [run_bytesToString w _ _ cap [] hl];rfl
  ·cases e
   exact run_convert_bytes_arg w _ 5 Tryz.underlying22 Tryz.underlying5 b off xs.length cap xs rfl hc _ Tryz.underlying9
theorem qy8 {a b:Int} (a0:0<=a) (a1:a<=255) (b0:0<=b) (b1:b<=255) (h:UInt8.ofNat a.toNat=UInt8.ofNat b.toNat):a=b:=by
 have:=congrArg UInt8.toNat h;rw [UInt8.toNat_ofNat',UInt8.toNat_ofNat'] at this;omega
theorem qmy:∀ {xs ys:List Int},By xs->By ys->(xs.map fun n=>UInt8.ofNat n.toNat)=(ys.map fun n=>UInt8.ofNat n.toNat)->xs=ys
 | [],[],_,_,_=>rfl
 | [],_ :: _,_,_,h=>by simp at h
 | _ :: _,[],_,_,h=>by simp at h
 | a :: xs,b :: ys,hx,hy,h=>by
  simp only [List.map_cons,List.cons.injEq] at h;have h1:=hx 0 (by simp);have h2:=hy 0 (by simp);rw [qeo] at h1 h2;rw [qy8 h1.1 h1.2 h2.1 h2.2 h.1,qmy (fun i hi=>by have:=hx (i+1) (by simp;omega);rwa [qce] at this) (fun i hi=>by have:=hy (i+1) (by simp;omega);rwa [qce] at this) h.2]
theorem qpw {xs ys:List Int} (hx:By xs) (hy:By ys):strOfNums xs=strOfNums ys ↔ xs=ys:=by
 constructor
 ·intro h
  refine qmy hx hy ?_;rw [<- strOfNums_data,<- strOfNums_data,h]
 ·rintro rfl
  rfl
theorem qyl:∀ (k n:Nat),n<128 ^ (k+1)->By (fmN k n)
 | 0,n,h=>fun i hi=>by
  simp [fmN] at hi h;subst hi;simp [fmN,zi];omega
 | k+1,n,h=>fun i hi=>by
  rw [fmN] at hi ⊢
  split
  ·rename_i hn
   rw [nC hn] at hi;simp at hi;subst hi;rw [qeo];omega
  ·rename_i hn
   rw [nB hn] at hi;cases i with
   | zero=>rw [qeo];omega
   | succ i=>
    rw [qce];refine qyl k (n / 128) ?_ i (by simp at hi;omega);rw [Nat.pow_succ] at h;exact Nat.div_lt_of_lt_mul (by rw [Nat.mul_comm];exact h)
theorem qwo (x:Int):By (puL x):=by
 unfold puL
 split
 ·rename_i h
  exact qyl 4 _ (by have:=qus x h;omega)
 ·intro i hi
  simp at hi
theorem qro {a b:ByteArray} {p:Prop} [Decidable p] (h:a=b ↔ p):(a.toList == b.toList)=decide p:=by
 by_cases e:a=b
 ·subst e
  rw [decide_eq_true (h.1 rfl)];simp
 ·rw [decide_eq_false (fun hp=>e (h.2 hp)),ByteArray.toList_eq,ByteArray.toList_eq]
  refine beq_eq_false_iff_ne.2 (fun hd=>e ?_);obtain ⟨⟨l⟩⟩:=a;obtain ⟨⟨m⟩⟩:=b;simp only at hd;rw [hd]
theorem qis (a0 a1:Option Addr) (c0 c1:Nat) (xs ys:List Int) (w:World) (h0:SlB w a0 xs) (h1:SlB w a1 ys) (hx:By xs) (hy:By ys):
  Calls prog 113 #[.slice a0 xs.length c0,.slice a1 ys.length c1] w fun e w'=>e=.returned (.bool (decide (xs=ys)))/\w'=w:=by
 have e0:=qct h0 c0;have e1:=qct h1 c1;have HE:Hid (strOfNums xs=strOfNums ys ↔ xs=ys):=qpw hx hy;clear h0 h1 hx hy
 go_enter func113,ntmps113
 go_wp2;go_ret;refine ⟨?_,rfl⟩;show Ending.returned (.bool ((strOfNums xs).toList == (strOfNums ys).toList))=_;rw [qro HE.out]
theorem qm1 (n:Nat) (w:World) (h:n<34359738368):
  Calls prog 112 #[iV (n:Int)] w fun e w'=>e=.returned (iV (unf n))/\w'=w:=by
 have h':(n:Int)<34359738368:=by omega
 by_cases ho:n % 2=1
 ·have hob:((n:Int) % 2 == 1)=true:=by simp;omega
  go_enter func112,ntmps112
  go_wp2;go_ret;refine ⟨qth ?_,rfl⟩;rw [unf,nC ho,Int.tdiv_eq_ediv_of_nonneg (by omega)];unfold wrap64;omega
 ·have hob:((n:Int) % 2 == 1)=false:=by simp;omega
  go_enter func112,ntmps112
  go_wp2;go_ret;exact ⟨qth (by unfold unf;rw [nB ho];omega),rfl⟩
def foO (ys:List Int) (z:Int):Option (List Int):=if 0<=z/\z<ys.length then frm 5 (ys.drop z.toNat) else none
def FoR (w:World) (ys:List Int) (z:Int) (e:Ending):Prop:=
 match foO ys z with
 | none=>e=.returned (.tuple #[nS,.bool false])
 | some F=>∃ a1 c1,e=.returned (.tuple #[.slice a1 F.length c1,.bool true])/\SlB w a1 F
theorem qqf (a0:Option Addr) (cap:Nat) (ys:List Int) (z:Int) (w:World) (hlen:ys.length<=1048576) (hcap:ys.length<=cap) (hc:SlB w a0 ys) (hb:By ys):
  Calls prog 111 #[.slice a0 ys.length cap,iV z] w fun e w'=>FoR w ys z e/\w'=w:=by
 have hl':(ys.length:Int)<=1048576:=by omega
 by_cases hz:0<=z/\z<ys.length
 ·obtain ⟨z0,z1⟩:=hz
  obtain ⟨a,rfl⟩:=Int.eq_ofNat_of_zero_le z0;have ha:a<ys.length:=by omega
  have HF:Hid (foO ys (a:Int)=frm 5 (ys.drop a)):=by show foO ys (a:Int)=_;rw [foO,nC ⟨z0,z1⟩];rfl
  have hbe:belB (a:Int) (ys.length:Int)=true:=decide_eq_true ⟨z0,z1⟩;obtain ⟨b,off,rfl,hbl,-⟩:=hc.at (k:=a) (by omega);have HC:Hid (SlB w (some (aQ b off)) ys):=hc;have HB:Hid (By ys):=hb;have hcc:(ys.length:Int)<=(cap:Int):=by omega
  clear hc hb
  go_enter func111,ntmps111
  go_wp2_with fail
  refine (isBelow_any (a:Int) (ys.length:Int) w).mono ?_;rintro e w1 ⟨rfl,e1⟩;obtain rfl:=e1.symm;rw [hbe];clear hbe;go_wp2_with fail
  all_goals
   obtain ⟨n,hn⟩:∃ n,ys.length=a+n:=⟨ys.length - a,by omega⟩
   have en:ys.length - a=n:=by omega
   rename_i hle;simp only [en] at hle ⊢;clear en
  ·go_loopw [19] (fun q wr=>∃ j:Nat,q=.int .i64 (j:Int)/\j<=5/\wr=w/\Hid (∀ i,i<j->128<=zi ys (a+i))) (fun q _=>5 - (intOf q).toNat)
   case atStart=>exact ⟨0,rfl,by omega,rfl,fun i hi=>by omega⟩
   case round=>
    obtain ⟨j,rfl,hj,rfl,HI⟩:=hrel;by_cases hjM:j<5
    ·have hjM':(j:Int)<5:=by omega
     have hjn:(j:Int)<(n:Int):=by omega
     obtain ⟨b',off',e,-,ck⟩:=HC.at (k:=a+j) (by omega);cases e;rw [<- Nat.add_assoc] at ck;obtain ⟨d0,d1⟩:=HB.out (a+j) (by omega);generalize hzd:zi ys (a+j)=d at ck d0 d1;have HD:Hid (zi ys (a+j)=d):=hzd;clear hzd;by_cases hd:d<128
     ·have HV:Hid (foO ys (a:Int)=some ((ys.drop a).take (j+1))):=by
       show foO ys (a:Int)=_;rw [HF.out];exact qjt (ys.drop a) j (by omega) (by rw [List.length_drop];omega) (fun i h=>by rw [qbk];exact HI.out i h) (by rw [qbk,HD.out];exact hd)
      have hjc:(j:Int)+1<=((cap - a:Nat):Int):=by omega
      clear HI hjM';go_wp2;refine bodyPost_ret (v:=.tuple #[.slice (some ⟨b,off+a,none⟩) (j+1) (cap - a),.bool true]) (by simp [results,results111,go_sem]) rfl ⟨?_,rfl⟩;unfold FoR;rw [HV.out];have hl1:((ys.drop a).take (j+1)).length=j+1:=by rw [List.length_take,List.length_drop];omega
      refine ⟨_,_,by rw [hl1],.inr ⟨b,off+a,rfl,hbl,fun i hi=>?_⟩⟩;rw [hl1] at hi;rw [qk7 _ _ _ hi,qbk,Nat.add_assoc];obtain ⟨b',off',e,-,ck⟩:=HC.at (k:=a+i) (by omega);cases e;exact ck
     ·go_wp2
      go_roundw
      case rel=>
       refine ⟨j+1,by go_num,by omega,trivial,fun i hi=>?_⟩;by_cases e:i=j
       ·subst e;rw [HD.out];omega
       ·exact HI.out i (by omega)
      case measure=>simp [intOf];omega
    ·have HV:Hid (foO ys (a:Int)=none):=by
      show foO ys (a:Int)=none;rw [HF.out];exact qi6 _ j (by omega) (by rw [List.length_drop];omega) (fun i h=>by rw [qbk];exact HI.out i h) (.inl (by omega))
     have hjM':¬ ((j:Int)<5):=by omega
     clear HI;go_wp2;refine bodyPost_ret (v:=.tuple #[nS,.bool false]) (by simp [results,results111,go_sem]) rfl ⟨?_,rfl⟩;unfold FoR;rw [HV.out]
  ·go_loopw [19] (fun q wr=>∃ j:Nat,q=.int .i64 (j:Int)/\j<=n/\wr=w/\Hid (∀ i,i<j->128<=zi ys (a+i))) (fun q _=>n - (intOf q).toNat)
   case atStart=>exact ⟨0,rfl,by omega,rfl,fun i hi=>by omega⟩
   case round=>
    obtain ⟨j,rfl,hj,rfl,HI⟩:=hrel;by_cases hjM:j<n
    ·have hjM':(j:Int)<(n:Int):=by omega
     have hjn:(j:Int)<(n:Int):=by omega
     obtain ⟨b',off',e,-,ck⟩:=HC.at (k:=a+j) (by omega);cases e;rw [<- Nat.add_assoc] at ck;obtain ⟨d0,d1⟩:=HB.out (a+j) (by omega);generalize hzd:zi ys (a+j)=d at ck d0 d1;have HD:Hid (zi ys (a+j)=d):=hzd;clear hzd;by_cases hd:d<128
     ·have HV:Hid (foO ys (a:Int)=some ((ys.drop a).take (j+1))):=by
       show foO ys (a:Int)=_;rw [HF.out];exact qjt (ys.drop a) j (by omega) (by rw [List.length_drop];omega) (fun i h=>by rw [qbk];exact HI.out i h) (by rw [qbk,HD.out];exact hd)
      have hjc:(j:Int)+1<=((cap - a:Nat):Int):=by omega
      clear HI hjM';go_wp2;refine bodyPost_ret (v:=.tuple #[.slice (some ⟨b,off+a,none⟩) (j+1) (cap - a),.bool true]) (by simp [results,results111,go_sem]) rfl ⟨?_,rfl⟩;unfold FoR;rw [HV.out];have hl1:((ys.drop a).take (j+1)).length=j+1:=by rw [List.length_take,List.length_drop];omega
      refine ⟨_,_,by rw [hl1],.inr ⟨b,off+a,rfl,hbl,fun i hi=>?_⟩⟩;rw [hl1] at hi;rw [qk7 _ _ _ hi,qbk,Nat.add_assoc];obtain ⟨b',off',e,-,ck⟩:=HC.at (k:=a+i) (by omega);cases e;exact ck
     ·go_wp2
      go_roundw
      case rel=>
       refine ⟨j+1,by go_num,by omega,trivial,fun i hi=>?_⟩;by_cases e:i=j
       ·subst e;rw [HD.out];omega
       ·exact HI.out i (by omega)
      case measure=>simp [intOf];omega
    ·have HV:Hid (foO ys (a:Int)=none):=by
      show foO ys (a:Int)=none;rw [HF.out];exact qi6 _ j (by omega) (by rw [List.length_drop];omega) (fun i h=>by rw [qbk];exact HI.out i h) (.inr (by rw [List.length_drop];omega))
     have hjM':¬ ((j:Int)<(n:Int)):=by omega
     clear HI;go_wp2;refine bodyPost_ret (v:=.tuple #[nS,.bool false]) (by simp [results,results111,go_sem]) rfl ⟨?_,rfl⟩;unfold FoR;rw [HV.out]
 ·have HV:Hid (foO ys z=none):=by show foO ys z=none;rw [foO,nB hz]
  have hbe:belB z (ys.length:Int)=false:=decide_eq_false hz;clear hc hb hz
  go_enter func111,ntmps111
  go_wp2_with fail
  refine (isBelow_any z (ys.length:Int) w).mono ?_;rintro e w1 ⟨rfl,e1⟩;obtain rfl:=e1.symm;rw [hbe];clear hbe;go_wp2;refine bodyPost_ret (v:=.tuple #[nS,.bool false]) (by simp [results,results111,go_sem]) rfl ⟨?_,rfl⟩;unfold FoR;rw [HV.out]
theorem qfj {j:Nat} (h:j<=5):(128:Nat) ^ j<=34359738368:=zP (Nat.pow_le_pow_right (by omega) h) (by decide)
theorem qyp (ys:List Int) (z:Int):gnO ys z=match foO ys z with | none=>none | some F=>if puB (unf (val F))=true/\okF F=true then some (unf (val F),z+F.length) else none:=by
 unfold gnO foO
 split
 ·rfl
 ·rfl
theorem qyo {ys F:List Int} {z:Int} (hb:By ys) (h:foO ys z=some F):isF F/\F.length<=5/\1<=F.length/\By F/\0<=z/\z+F.length<=ys.length:=by
 unfold foO at h
 split at h
 ·rename_i hz
  generalize ha:z.toNat=a at h;have hbd:By (ys.drop a):=fun i hi=>by rw [List.length_drop] at hi;rw [qbk];exact hb _ (by omega)
  have key:∀ k,k<=5->k<=(ys.drop a).length->(∀ j,j<k->128<=zi (ys.drop a) j)->∃ m,m<5/\m<(ys.drop a).length/\(∀ j,j<m->128<=zi (ys.drop a) j)/\zi (ys.drop a) m<128:=by
   intro k hk;obtain ⟨q,hq⟩:∃ q,q=5 - k:=⟨_,rfl⟩
   induction q generalizing k with
   | zero=>
    intro h1 h2;rw [qi6 _ k hk h1 h2 (.inl (by omega))] at h;cases h
   | succ q ih=>
    intro h1 h2;by_cases e:k=(ys.drop a).length
    ·rw [qi6 _ k hk h1 h2 (.inr e)] at h
     cases h
    ·by_cases hd:zi (ys.drop a) k<128
     ·exact ⟨k,by omega,by omega,h2,hd⟩
     ·exact ih (k + 1) (by omega) (by omega) (by omega) (fun j hj => by
       by_cases e:j=k
       ·subst e;omega
       ·exact h2 j (by omega))
  obtain ⟨m,h5,hl,hm,hd⟩:=key 0 (by omega) (by omega) (fun j hj=>by omega);rw [qjt _ m h5 hl hm hd] at h;cases h;have hl1:((ys.drop a).take (m+1)).length=m+1:=by rw [List.length_take];omega
  refine ⟨qpe m _ hl hbd hm hd,by omega,by omega,fun i hi=>?_,hz.1,?_⟩
  ·rw [hl1] at hi
   rw [qk7 _ _ _ hi];exact hbd i (by omega)
  ·rw [hl1]
   rw [List.length_drop] at hl;omega
 ·cases h
theorem qe4 (a0:Option Addr) (cap:Nat) (ys:List Int) (z:Int) (w:World) (hlen:ys.length<=1048576) (hcap:ys.length<=cap) (hc:SlB w a0 ys) (hb:By ys):
  Calls prog 92 #[.slice a0 ys.length cap,iV z] w (rB w (gnV (gnO ys z))):=by
 have HG:Hid (gnO ys z=match foO ys z with | none=>none | some F=>if puB (unf (val F))=true/\okF F=true then some (unf (val F),z+F.length) else none):=qyp ys z;have HC:Hid (SlB w a0 ys):=hc;have HB:Hid (By ys):=hb;have HL:Hid (ys.length<=1048576/\ys.length<=cap):=⟨hlen,hcap⟩
 clear hc hb hlen hcap
 go_enter func92,ntmps92
 go_wp2_with fail
 refine (qqf a0 cap ys z w HL.1 HL.2 HC.out HB.out).mono ?_;rintro e w1 ⟨hr,e1⟩;obtain rfl:=e1.symm;unfold FoR at hr;cases hf:foO ys z with
 | none=>
  rw [hf] at hr;subst hr;have HV:Hid (gnO ys z=none):=by show gnO ys z=none;rw [HG.out,hf]
  clear hf;go_wp2;exact bodyPost_ret (v:=.tuple #[iV 0,iV 0,.bool false]) (by simp [results,results92,go_sem]) rfl ⟨by rw [HV.out];rfl,nE _ _⟩
 | some F=>
  rw [hf] at hr;obtain ⟨a1,c1,rfl,sl⟩:=hr;obtain ⟨f1,f2,f3,f4,f5,f6⟩:=qyo HB.out hf;have hll:=HL.1;have HV:Hid (gnO ys z=if puB (unf (val F))=true/\okF F=true then some (unf (val F),z+F.length) else none):=by show gnO ys z=_;rw [HG.out,hf]
  have HS:Hid (SlB w a1 F):=sl;have HF:Hid (isF F/\By F):=⟨f1,f4⟩
  have hFl:(F.length:Int)<=5:=by omega
  have hFu:z+(F.length:Int)<=1048576:=by omega
  have hFs:F.length<=1048576:=by omega
  clear sl f1 f4 hf HG hll f6;go_wp2_with fail
  go_loopw [9,10,24] (fun s q i wr=>∃ j v p:Nat,i=.int .i64 (j:Int)/\s=.int .i64 (v:Int)/\q=.int .i64 (p:Int)/\j<=F.length/\wr=w/\Hid (v=val (F.take j)/\p=128 ^ j)) (fun _ _ i _=>F.length - (intOf i).toNat)
  case atStart=>exact ⟨0,0,1,rfl,rfl,rfl,by omega,rfl,rfl,rfl⟩
  case round=>
   obtain ⟨j,v,p,rfl,rfl,rfl,hj,rfl,HI⟩:=hrel;by_cases hjl:j<F.length
   ·have hjl':(j:Int)<(F.length:Int):=by omega
    obtain ⟨b,off,rfl,hbl,ck⟩:=HS.at hjl;obtain ⟨d0,d1⟩:=HF.2 j hjl;generalize hzd:zi F j=d at ck d0 d1;have HD:Hid (zi F j=d):=hzd;clear hzd;have hp:p<=34359738368:=by rw [HI.2];exact qfj (by omega)
    have hvl:v<34359738368:=by
     have:=qje (F.take j);rw [List.length_take,Nat.min_eq_left (by omega),<- HI.1] at this;have:=qfj (j:=j) (by omega);omega
    have hmn:(d % 128).toNat*p<=127*34359738368:=Nat.mul_le_mul (by omega) hp
    have hmi:(d % 128)*(p:Int)=(((d % 128).toNat*p:Nat):Int):=by
     rw [Int.natCast_mul]
     congr 1
     omega
    have hm0:0<=(d % 128)*(p:Int):=by rw [hmi];omega
    have hm1:(d % 128)*(p:Int)<=4363686772736:=by rw [hmi];omega
    have HM:Hid ((d % 128)*(p:Int)=(((d % 128).toNat*p:Nat):Int)):=hmi;clear hmi hmn;have hp':(p:Int)<=34359738368:=by omega
    have hv':(v:Int)<34359738368:=by omega
    go_wp2;go_roundw
    case rel=>
     have hvv:=qhz j F hjl;rw [HD.out,<- HI.1,<- HI.2] at hvv;refine ⟨j+1,v+(d % 128).toNat*p,p*128,by go_num,?_,by go_num,by omega,trivial,hvv.symm,by rw [Nat.pow_succ,HI.2]⟩;rw [HM.out]
     go_num
    case measure=>simp [intOf];omega
   ·have hjl':¬ ((j:Int)<(F.length:Int)):=by omega
    have hvl:v<34359738368:=by
     have:=qje (F.take j);rw [List.length_take,Nat.min_eq_left (by omega),<- HI.1] at this;have:=qfj (j:=j) (by omega);omega
    have HW:Hid (v=val F):=by show v=val F;rw [HI.1,List.take_of_length_le (by omega)]
    clear HI;go_wp2_with fail
    refine (qm1 v wr hvl).mono ?_;rintro e w2 ⟨rfl,e2⟩;obtain rfl:=e2.symm;go_wp2_with fail
    refine (qe5 (unf v) wr).mono ?_;rintro e w3 ⟨u3,rfl,o3,b3⟩;obtain ⟨ap,cp,rfl,sp⟩:=o3.form;have SP:Hid (SlB w3 ap (puL (unf v))):=sp;have S3:Hid (SlB w3 a1 F):=HS.bw b3;clear o3 sp;go_wp2_with fail
    refine (qis ap a1 cp c1 (puL (unf v)) F w3 SP.out S3.out (qwo _) HF.2).mono ?_;rintro e w4 ⟨rfl,e4⟩;obtain rfl:=e4.symm
    have HP:Hid (puL (unf v)=F ↔ puB (unf (val F))=true/\okF F=true):=by
     have:=qtc HF.1 f2;rw [<- HW.out] at this ⊢;exact this
    by_cases hq:puL (unf v)=F
    ·have hq2:decide (puL (unf v)=F)=true:=decide_eq_true hq
     have HV2:Hid (gnO ys z=some (unf v,z+F.length)):=by show gnO ys z=_;rw [HV.out,nC (HP.1 hq),HW.out]
     rw [hq2];clear hq hq2 HV;go_wp2;exact bodyPost_ret (v:=.tuple #[iV (unf v),iV (z+F.length),.bool true]) (by simp [results,results92,go_sem]) rfl ⟨by rw [HV2.out];rfl,b3⟩
    ·have hq2:decide (puL (unf v)=F)=false:=decide_eq_false hq
     have HV2:Hid (gnO ys z=none):=by show gnO ys z=_;rw [HV.out,nB (fun h=>hq (HP.2 h))]
     rw [hq2];clear hq hq2 HV;go_wp2;exact bodyPost_ret (v:=.tuple #[iV 0,iV 0,.bool false]) (by simp [results,results92,go_sem]) rfl ⟨by rw [HV2.out];rfl,b3⟩
open Go.ChangeShapes Go.WideShapes Go.ChangeAt
def Sy.Marks (y:Sy):Prop:=∃ i,i<y.wn/\∃ k,k<y.wL i/\(y.wH i k).m=true
theorem qnj (w:World):(Instr.typeAssert (.iface 128 (.agg #[])) 20 128 true).run prog w=.ok (.tuple #[.agg #[],.bool true]) w:=by kernel_rfl
theorem qp7 (v:Int) (w:World):(Instr.typeAssert (.iface 3 (iV v)) 20 128 true).run prog w=.ok (.tuple #[.agg #[],.bool false]) w:=by kernel_rfl
theorem qqh (m:Bool) (v:Int) (w:World):
  Calls prog 46 #[itV m v] w (rB w (.bool m)):=by
 have h1:=qnj;have h2:=qp7 v;cases m
 ·go_enter func46,ntmps46
  go_wp2;go_ret;exact ⟨rfl,by go_grown⟩
 ·go_enter func46,ntmps46
  go_wp2;go_ret;exact ⟨rfl,by go_grown⟩
def hasM (h:Nat->I2) (n:Nat):Prop:=∃ k,k<n/\(h k).m=true
theorem qjz (a:Option Addr) (n cap:Nat) (h:Nat->I2) (w:World) (hn:n<=1048576) (hI:ItL w a n h):
  Calls prog 86 #[.slice a n cap,.func (.func 46) #[] #[]] w fun e w'=>(∃ k:Int,e=.returned (iV k)/\(0<=k ↔ hasM h n))/\Bw w w':=by
 have hn':(n:Int)<=1048576:=by omega
 have HI:Hid (ItL w a n h):=hI;clear hI
 go_enter func86,ntmps86
 go_wp2_with fail
 go_loopw [8] (fun i wr=>∃ j:Nat,j<=n/\i=.int .i64 j/\Hid (∀ k,k<j->(h k).m=false)/\Hid (Bw w wr)) (fun i _=>n - (intOf i).toNat)
 case atStart=>exact ⟨0,nD _,rfl,fun k hk=>by omega,nE _ _⟩
 case round=>
  obtain ⟨j,hj,rfl,HF,HB⟩:=hrel;by_cases hlt:j<n
  ·have hlt':(j:Int)<(n:Int):=by omega
   obtain ⟨b,off,rfl,hb,c0,c1⟩:=(HI.bw HB.out).at hlt;go_wp2_with fail
   refine (qqh (h j).m (h j).v _).mono ?_;rintro e w1 ⟨rfl,b1⟩;have HB1:Hid (Bw w w1):=HB.trans (b1.mono HB.size);generalize hm:(h j).m=t at *;have HM:Hid ((h j).m=t):=hm;clear b1 HB hm c0 c1;cases t
   ·go_wp2
    go_roundw
    case rel=>
     refine ⟨j+1,by omega,by go_num,fun k hk=>?_,HB1.out⟩;by_cases e:k=j
     ·subst e;exact HM.out
     ·exact HF.out k (by omega)
    case measure=>simp [intOf];omega
   ·go_wp2
    go_ret;exact ⟨⟨_,rfl,⟨fun _=>⟨j,hlt,HM.out⟩,fun _=>by omega⟩⟩,HB1.out⟩
  ·have hjn:j=n:=by omega
   have HN:Hid (¬ hasM h n):=fun ⟨k,hk,hm⟩=>by
    have:=HF.out k (by omega);rw [this] at hm;cases hm
   clear HF;go_wp2;go_ret;exact ⟨⟨_,rfl,⟨fun h=>by omega,fun h=>absurd h HN.out⟩⟩,HB.out⟩
theorem qnw (a:Option Addr) (n cap:Nat) (h:Nat->I2) (w:World) (hn:n<=1048576) (hI:ItL w a n h):
  Calls prog 45 #[.slice a n cap,.func (.func 46) #[] #[]] w (rB w (.bool (pB (hasM h n)))):=by
 have HC:=qjz a n cap h w hn hI;clear hI hn
 go_enter func45,ntmps45
 go_wp2_with fail
 refine HC.mono ?_;clear HC;rintro e w1 ⟨⟨k,rfl,hk⟩,b1⟩;by_cases hm:hasM h n
 ·have k0:k ≥ 0:=hk.2 hm
  have HM:Hid (hasM h n):=hm;clear hk hm;go_wp2;go_ret;exact ⟨qa6 (qgm HM.out).symm,b1⟩
 ·have k0:¬ k ≥ 0:=fun h=>hm (hk.1 h)
  have HM:Hid (¬ hasM h n):=hm;clear hk hm;go_wp2;go_ret;exact ⟨qa6 ((decide_eq_false (by omega)).trans (qcg HM.out).symm),b1⟩
theorem ql2 (x:SysIn) (w:World) (hG:SysG w x) (hL:x.Len):
  Calls prog 16 #[x.v] w (rB w (.bool (pB x.y.Marks))):=by
 have HG:Hid (SysG w x):=hG;have HL:Hid x.Len:=hL;have hn':(x.wn:Int)<=1048576:=by have:=hL.w.1;omega
 clear hG hL
 go_enter func16,ntmps16
 have B0:Hid (Bw w (w.alloc (x.oX))):=qg5 _ _;go_wp2_with fail
 generalize w.alloc (x.oX)=wA at *
 go_loopw [8] (fun i wr=>∃ j:Nat,j<=x.wn/\i=.int .i64 j/\Hid (∀ k,k<j->¬ hasM (x.wH k) (x.wL k))/\Hid (Bw w wr)) (fun i _=>x.wn - (intOf i).toNat)
 case atStart=>exact ⟨0,nD _,rfl,fun k hk=>by omega,B0.out⟩
 case round=>
  clear B0;obtain ⟨j,hj,rfl,HF,HB⟩:=hrel;by_cases hlt:j<x.wn
  ·have hlt':(j:Int)<(x.wn:Int):=by omega
   obtain ⟨b,off,ea,c0⟩:=(HG.w.bw HB.out).at hlt;rw [ea];clear ea;go_wp2_with fail
   refine (qnw (x.wA j) (x.wL j) (x.wC j) (x.wH j) wr (HL.w.2 j hlt) ((HG.wi j hlt).bw HB.out)).mono ?_;rintro e w1 ⟨rfl,b1⟩;have HB1:Hid (Bw w w1):=HB.trans (b1.mono HB.size);clear b1 HB c0;by_cases hm:hasM (x.wH j) (x.wL j)
   ·have HM:Hid x.y.Marks:=⟨j,hlt,hm⟩
    rw [qgm hm];clear hm;go_wp2;go_ret;exact ⟨qa6 (qgm HM.out).symm,HB1.out⟩
   ·rw [qcg hm]
    have HM:Hid (¬ hasM (x.wH j) (x.wL j)):=hm;clear hm;go_wp2;go_roundw
    case rel=>
     refine ⟨j+1,by omega,by go_num,fun k hk=>?_,HB1.out⟩;by_cases e:k=j
     ·subst e;exact HM.out
     ·exact HF.out k (by omega)
    case measure=>simp [intOf];omega
  ·have HM:Hid (¬ x.y.Marks):=fun ⟨i,hi,k,hk,hm⟩=>HF.out i (by have:i<x.wn:=hi;omega) ⟨k,hk,hm⟩
   clear HF;go_wp2;go_ret;exact ⟨qa6 (qcg HM.out).symm,HB.out⟩
theorem ql6 (x:SysIn) (w:World) (hG:SysG w x) (hL:x.Len):
  Calls prog 23 #[x.v] w (rB w (.bool (pB x.y.Marks))):=by
 have HG:Hid (SysG w x):=hG;have HL:Hid x.Len:=hL;have hn':(x.wn:Int)<=1048576:=by have:=hL.w.1;omega
 clear hG hL
 go_enter func23,ntmps23
 have B0:Hid (Bw w (w.alloc (x.oX))/\x.bX (w.alloc (x.oX)) w.heap.size):=⟨qg5 _ _,BoxC.new _ _ _ _ _ _⟩
 go_wp2_with fail
 generalize w.alloc (x.oX)=wA at *
 go_loopw [3] (fun i wr=>∃ j:Nat,j<=x.wn/\i=.int .i64 j/\Hid (∀ k,k<j->¬ hasM (x.wH k) (x.wL k))/\wr=wA) (fun i _=>x.wn - (intOf i).toNat)
 case atStart=>exact ⟨0,nD _,rfl,fun k hk=>by omega,rfl⟩
 case round=>
  obtain ⟨j,hj,rfl,HF,rfl⟩:=hrel;obtain ⟨-,-,p2,-⟩:=B0.2;by_cases hlt:j<x.wn
  ·have hlt':(j:Int)<(x.wn:Int):=by omega
   obtain ⟨b,off,ea,c0⟩:=(HG.w.bw B0.1).at hlt;rw [ea] at p2;clear ea;have hll:(x.wL j:Int)<=1048576:=by have:=HL.w.2 j hlt;omega
   have HIt:Hid (ItL wr (x.wA j) (x.wL j) (x.wH j)):=(HG.wi j hlt).bw B0.1;go_wp2_with fail
   go_loopw [4] (fun i wq=>∃ k:Nat,k<=x.wL j/\i=.int .i64 k/\Hid (∀ m,m<k->(x.wH j m).m=false)/\wq=wr) (fun i _=>x.wL j - (intOf i).toNat)
   case atStart=>exact ⟨0,nD _,rfl,fun k hk=>by omega,rfl⟩
   case round=>
    obtain ⟨k,hk,rfl,HK,rfl⟩:=hrel;by_cases hkt:k<x.wL j
    ·have hkt':(k:Int)<(x.wL j:Int):=by omega
     obtain ⟨b2,off2,eb,-,d0,d1⟩:=HIt.at hkt;rw [eb] at c0;clear eb;generalize hm:(x.wH j k).m=t at *;have HM:Hid ((x.wH j k).m=t):=hm;clear hm;cases t
     ·go_wp2
      go_roundw
      case rel=>
       refine ⟨k+1,by omega,by go_num,fun m hm=>?_,by trivial⟩;by_cases e:m=k
       ·subst e;exact HM.out
       ·exact HK.out m (by omega)
      case measure=>simp [intOf];omega
     ·have HY:Hid x.y.Marks:=⟨j,hlt,k,hkt,HM.out⟩
      clear HF HK;go_wp2;go_ret;exact ⟨qa6 (qgm HY.out).symm,B0.1⟩
    ·have HNo:Hid (¬ hasM (x.wH j) (x.wL j)):=fun ⟨m,hm,h⟩=>by
      have:=HK.out m (by omega);rw [this] at h;cases h
     clear HK;go_wp2;go_roundw
     case rel=>
      refine ⟨j+1,by omega,by go_num,fun m hm=>?_,by trivial⟩;by_cases e:m=j
      ·subst e;exact HNo.out
      ·exact HF.out m (by omega)
     case measure=>simp [intOf];omega
  ·have HM:Hid (¬ x.y.Marks):=fun ⟨i,hi,k,hk,hm⟩=>HF.out i (by have:i<x.wn:=hi;omega) ⟨k,hk,hm⟩
   clear HF;go_wp2;go_ret;exact ⟨qa6 (qcg HM.out).symm,B0.1⟩
theorem qo7:∀ (k:Nat) (L F:List Int),frm k L=some F->F=L.take F.length
 | 0,_,_,h=>by simp [frm] at h
 | k+1,[],_,h=>by simp [frm] at h
 | k+1,d :: r,F,h=>by
  rw [frm] at h
  split at h
  ·cases h
   rfl
  ·cases hf:frm k r with
   | none=>rw [hf] at h;cases h
   | some G=>
    rw [hf] at h;cases h;rw [List.length_cons,List.take_succ_cons,<- qo7 k r G hf]
theorem qwd:∀ (k n:Nat) (r:List Int),n<128 ^ (k+1)->frm (k+1) (fmN k n ++ r)=some (fmN k n)
 | 0,n,r,h=>by
  simp at h;rw [qfd 0 n h,List.singleton_append,frm,nC (by omega)]
 | k+1,n,r,h=>by
  by_cases hn:n<128
  ·rw [qfd (k+1) n hn,List.singleton_append,frm,nC (by omega)]
  ·obtain ⟨j,e,hj,hf⟩:=qnu (k+1) n (by omega) h
   obtain rfl:k=j:=by omega
   rw [hf,List.cons_append,frm,nB (by omega),qwd k (n / 128) r hj];rfl
theorem qwx:∀ (k n:Nat),n<128 ^ (k+1)->val (fmN k n)=n
 | 0,n,h=>by
  simp at h;rw [qfd 0 n h];simp only [val];omega
 | k+1,n,h=>by
  by_cases hn:n<128
  ·rw [qfd (k+1) n hn]
   simp only [val];omega
  ·obtain ⟨j,e,hj,hf⟩:=qnu (k+1) n (by omega) h
   obtain rfl:k=j:=by omega
   rw [hf,val,qwx k (n / 128) hj];omega
theorem qza (x:Int):unf (fd x)=x:=by
 unfold unf fd
 split <;> split <;> omega
theorem qys {x:Int} (h:puB x=true) (r:List Int):gnO (puL x ++ r) 0=some (x,((puL x).length:Int)):=by
 have hle:=qus x h;have hb:fd x<128 ^ (4+1):=by omega
 have hp:=qgp x h;have e:puL x=fmN 4 (fd x):=by rw [puL,nC h]
 rw [gnO,nC ⟨by omega,by rw [List.length_append];omega⟩];show (match frm 5 ((puL x ++ r).drop 0) with | none=>none | some F=>_)=_;rw [List.drop_zero];have hf:frm 5 (puL x ++ r)=some (puL x):=by rw [e];exact qwd 4 (fd x) r hb
 have hv:val (puL x)=fd x:=by rw [e];exact qwx 4 (fd x) hb
 have ho:okF (puL x)=true:=by
  unfold okF;rw [e];exact decide_eq_true (qyn 4 _)
 rw [hf];show (if puB (unf (val (puL x)))=true/\okF (puL x)=true then some (unf (val (puL x)),(0:Int)+(puL x).length) else none)=_;rw [hv,qza,nC ⟨h,ho⟩,Int.zero_add]
theorem qxf {ys:List Int} (hb:By ys) {z x e:Int} (h:gnO ys z=some (x,e)):∃ a n:Nat,z=a/\e=((a+n:Nat):Int)/\1<=n/\n<=5/\a+n<=ys.length/\puL x=(ys.drop a).take n:=by
 rw [qyp] at h;cases hf:foO ys z with
 | none=>rw [hf] at h;cases h
 | some F=>
  rw [hf] at h;obtain ⟨f1,f2,f3,f4,f5,f6⟩:=qyo hb hf;obtain ⟨a,rfl⟩:=Int.eq_ofNat_of_zero_le f5;simp only at h
  split at h
  ·rename_i hc
   simp only [nG,Prod.mk.injEq] at h;obtain ⟨rfl,rfl⟩:=h
   have ht:F=(ys.drop a).take F.length:=by
    refine qo7 5 _ _ ?_;unfold foO at hf;rw [nC ⟨f5,by omega⟩] at hf;exact hf
   refine ⟨a,F.length,rfl,by omega,f3,f2,by omega,?_⟩;rw [<- ht];exact (qtc f1 f2).2 hc
  ·cases h
theorem qrb {w:World} {B:Nat} {a:Option Addr} {cap lo:Nat} {xs:List Int} (h:OwnI w B (.slice a xs.length cap) xs) (hl:lo<=xs.length):
  ∃ a',(∀ w',(Instr.slice 41 (.slice a xs.length cap) (some (iV (lo:Int))) none none).run prog w'=.ok (.slice a' (xs.drop lo).length (cap - lo)) w')/\∀ k,k<(xs.drop lo).length->∃ g o,a'=some ⟨g,o,none⟩/\B<=g/\g<w.heap.size/\w.cell? ⟨g,o+k,none⟩=some (iV (zi (xs.drop lo) k)):=by
 have hl':(lo:Int)<=(xs.length:Int):=by omega
 rcases h.2 with ⟨e,h0⟩ | ⟨g,cp,cur,e,hb,hg,hnc,-⟩
 ·simp only [Value.slice.injEq] at e
  obtain ⟨rfl,-,rfl⟩:=e;have h00:lo=0:=by omega
  subst h00;refine ⟨none,fun w'=>?_,fun k hk=>?_⟩
  ·rw [h0]
   simp [go_sem,h0]
  ·simp at hk
   omega
 ·simp only [Value.slice.injEq] at e
  obtain ⟨rfl,-,rfl⟩:=e;by_cases hc:cap=lo
  ·refine ⟨some (aQ g 0),fun w'=>?_,fun k hk=>?_⟩
   ·have e1:xs.length=lo:=by omega
    subst hc;simp [go_sem,e1]
   ·simp at hk
    omega
  ·refine ⟨some (aQ g lo),fun w'=>?_,fun k hk=>⟨g,lo,rfl,hb,(h.lt g rfl).2,?_⟩⟩
   ·simp [go_sem,hl',hc,Addr.add]
    exact fun h=>h.symm
   ·rw [qow]
    exact h.cell (by simp at hk;omega)
theorem qrf (X hc:Nat) (ha:Option Addr) (hA:Nat->Option Addr) (hC:Nat->Nat) (y:Hs) (a b:Nat) (w:World) (c0:w.cell? ⟨X,0,none⟩=some (.slice ha y.n hc)) (hE:HisE w ha hA hC y) (hl:∀ i,i<y.n->y.l i<=200) (hbn:b<y.n):
  Calls prog 79 #[.pointer (some (aQ X 0)),iV a,iV b] w fun e w'=>∃ a1 c1,e=.returned (.slice a1 (cnt (y.e b) 3 a (y.l b)) c1)/\Bw w w':=by
 have HE:Hid (EvL w (hA b) (y.l b) (y.e b)):=hE.ev b hbn;have HLb:Hid (y.l b<=1048576):=by have:=hl b hbn;show _<=_;omega
 have hb':(b:Int)<(y.n:Int):=by omega
 obtain ⟨bh,oh,eh,ch⟩:=hE.row.at hbn;rw [eh] at c0;clear hE hl eh
 go_enter func79,ntmps79
 go_wp2_with fail
 refine (qda (hA b) (y.l b) _ (y.e b) 3 a w HLb.out HE.out).mono ?_;rintro e w1 ⟨v,rfl,o1,b1⟩;obtain ⟨a1,c1,rfl,-⟩:=o1.form;have O1:Hid (Bw w w1):=b1;clear o1 b1 c0 ch;go_wp2;go_ret;exact ⟨_,_,by rw [qb2];rfl,O1.out⟩
theorem qm0 (X hc:Nat) (ha:Option Addr) (hA:Nat->Option Addr) (hC:Nat->Nat) (y:Hs) (a b:Nat) (w:World) (c0:w.cell? ⟨X,0,none⟩=some (.slice ha y.n hc)) (hE:HisE w ha hA hC y) (hl:∀ i,i<y.n->y.l i<=200) (han:a<y.n) (hbn:b<y.n) (hle:cnt (y.e b) 3 a (y.l b)<=cnt (y.e a) 2 b (y.l a)):
  Calls prog 98 #[.pointer (some (aQ X 0)),iV a,iV b] w fun e w'=>∃ a1 c1,e=.returned (.slice a1 (wyL y a b).length c1)/\w'.ownsRow w.heap.size 78 2 (.slice a1 (wyL y a b).length c1) (wyL y a b).length (fT (itL (wyL y a b)) (wyL y a b).length)/\Value.slice a1 (wyL y a b).length c1≠nS/\Bw w w':=by
 have HS:Hid (∀ wx,Bw w wx->Calls prog 81 #[.pointer (some ⟨X,0,none⟩),iV a,iV b] wx fun e w'=>∃ a1 c1,e=.returned (.slice a1 (valL (y.e a) 2 b (y.l a)).length c1)/\OwnI w' wx.heap.size (.slice a1 (valL (y.e a) 2 b (y.l a)).length c1) (valL (y.e a) 2 b (y.l a))/\Bw wx w'):=fun wx hb=>qmn X hc ha hA hC y a b wx ((hb.cell (p:=⟨X,0,none⟩) (zJ w _ c0)).trans c0) (hE.bw hb) hl han;have HT:Hid (∀ wx,Bw w wx->Calls prog 79 #[.pointer (some ⟨X,0,none⟩),iV a,iV b] wx fun e w'=>∃ a1 c1,e=.returned (.slice a1 (cnt (y.e b) 3 a (y.l b)) c1)/\Bw wx w'):=fun wx hb=>qrf X hc ha hA hC y a b wx ((hb.cell (p:=⟨X,0,none⟩) (zJ w _ c0)).trans c0) (hE.bw hb) hl hbn
 have hlv:(valL (y.e a) 2 b (y.l a)).length<=200:=by
  rw [qb2];exact zP (qhb _ _ _ _) (hl a han)
 have hle':cnt (y.e b) 3 a (y.l b)<=(valL (y.e a) 2 b (y.l a)).length:=by
  rw [qb2];exact hle
 have hzs:wyL y a b=(valL (y.e a) 2 b (y.l a)).drop (cnt (y.e b) 3 a (y.l b)):=rfl;rw [hzs];clear hzs c0 hE hl hle;generalize cnt (y.e b) 3 a (y.l b)=tn at *;generalize valL (y.e a) 2 b (y.l a)=xs at *;have HO0:Hid ((w.alloc (.cells #[] 78)).ownsRow w.heap.size 78 2 (sG w.heap.size 0 0) 0 []):=World.ownsRow_made (base:=w.heap.size) (e:=78) (size:=2) w #[] 0 (nA _) (by unfold maxLen;omega) (by simp);have BW:Hid (Bw w (w.alloc (.cells #[] 78))/\(w.alloc (.cells #[] 78)).heap.size=w.heap.size+1):=⟨zT _ _,by simp⟩
 have HLE:Hid (tn<=xs.length/\xs.length<=200):=⟨hle',hlv⟩
 clear hle'
 go_enter func98,ntmps98
 go_wp2_with fail
 generalize w.alloc (.cells #[] 78)=W1 at *;refine (HS.out W1 BW.1).mono ?_;rintro e w1 ⟨a1,c1,rfl,o1,q1⟩;have O1:Hid (OwnI w1 W1.heap.size (.slice a1 xs.length c1) xs/\Bw W1 w1):=⟨o1,q1⟩
 clear o1 q1 HS;go_wp2_with fail
 refine (HT.out w1 (BW.1.trans (O1.2.mono BW.1.size))).mono ?_;rintro e w2 ⟨a2,c2,rfl,q2⟩;obtain ⟨a3,ks,hcell⟩:=qrb (O1.1.bw q2) HLE.1;have HC:Hid (∀ k,k<(xs.drop tn).length->∃ g o,a3=some ⟨g,o,none⟩/\W1.heap.size<=g/\g<w2.heap.size/\w2.cell? ⟨g,o+k,none⟩=some (iV (zi (xs.drop tn) k))):=hcell;have hzl:(xs.drop tn).length<=200:=by rw [List.length_drop];omega
 have hzl':((xs.drop tn).length:Int)<=200:=by omega
 have O2:Hid (w2.ownsRow w.heap.size 78 2 (sG w.heap.size 0 0) 0 []/\Bw W1 w2):=⟨qas HO0.out fun k hk=>(O1.2.trans (q2.mono O1.2.size)).block k (HO0.lt k hk).2,O1.2.trans (q2.mono O1.2.size)⟩
 generalize hzs:xs.drop tn=zs at *;have HZS:Hid (xs.drop tn=zs):=hzs;clear hcell q2 O1 HT HO0 hlv HLE hzs;go_wp2_with fail
 clear ks
 go_loopw [7,22] (fun o i wr=>∃ k:Nat,k<=zs.length/\i=.int .i64 k/\Hid (wr.ownsRow w.heap.size 78 2 o k (fT (itL zs) k)/\o≠nS/\(∀ j,o.ownBlock=some j->j=w.heap.size\/w2.heap.size<=j)/\Bw w wr/\w2.heap.size<=wr.heap.size/\∀ g,W1.heap.size<=g->g<w2.heap.size->wr.heap[g]? = w2.heap[g]?)) (fun _ i _=>zs.length - (intOf i).toNat)
 case atStart=>exact ⟨0,nD _,rfl,O2.1,by simp,fun j hj=>by cases hj;exact .inl rfl,BW.1.trans (O2.2.mono BW.1.size),nA _,fun _ _ _=>rfl⟩
 case round=>
  clear O2;obtain ⟨k,hk,rfl,HB⟩:=hrel;by_cases hlt:k<zs.length
  ·have hlt':(k:Int)<(zs.length:Int):=by omega
   obtain ⟨g,o,rfl,hg1,hg2,ck⟩:=HC.out k hlt;have ck:wr.cell? ⟨g,o+k,none⟩=some (iV (zi zs k)):=(zH (HB.2.2.2.2.2 g hg1 hg2)).trans ck;have HK2:Hid (k<=2000000):=by show _<=_;omega
   have hgl:g<wr.heap.size:=by have:=HB.2.2.2.2.1;omega
   go_wp2_with (at_builtin; refine qai kndT wr rfl rfl _ _ rfl w.heap.size u7 k _ rfl HB.1 #[.bool false, .int .i64 (zi zs k)] rfl rfl (by intro u hu; simp at hu; rcases hu with rfl | rfl <;> rfl) HK2.out HB.2.2.2.1.size ?_; intro v5 w5 o5 g5 q5 n5; have F5 : Hid (w5.ownsRow w.heap.size 78 2 v5 (k + 1) (fT (itL zs) (k + 1)) ∧ v5 ≠ nS ∧ (∀ j, v5.ownBlock = some j → j = w.heap.size ∨ w2.heap.size ≤ j) ∧ Below w.heap.size w w5 ∧ w2.heap.size ≤ w5.heap.size ∧ ∀ g, W1.heap.size ≤ g → g < w2.heap.size → w5.heap[g]? = w2.heap[g]?) := ⟨o5, n5, fun j hj => by
     rcases q5 j hj with h | h
     ·exact HB.2.2.1 j h
     ·exact .inr (Nat.le_trans HB.2.2.2.2.1 h), Below.grown HB.2.2.2.1 g5 HB.2.2.2.1.size (fun j hj => (HB.1.lt j hj).1), Nat.le_trans HB.2.2.2.2.1 g5.size, fun b h1 h2 => (g5.block b (Nat.lt_of_lt_of_le h2 HB.2.2.2.2.1) (fun hj => by
      have e1:=BW.2
      rcases HB.2.2.1 b hj.symm with h | h <;> omega)).trans (HB.2.2.2.2.2 b h1 h2)⟩;clear o5 g5 q5 n5)
   go_roundw
   case rel=>exact ⟨k+1,by omega,by go_num,F5.out⟩
   case measure=>simp [intOf];omega
  ·have hkn:k=zs.length:=by omega
   subst hkn;obtain ⟨a4,c4,rfl⟩:=zU HB.1;go_wp2;go_ret;rw [HZS.out];exact ⟨a4,c4,rfl,HB.1,HB.2.1,HB.2.2.2.1⟩
theorem qri (X hc:Nat) (ha:Option Addr) (hA:Nat->Option Addr) (hC:Nat->Nat) (y:Hs) (w:World) (c0:w.cell? ⟨X,0,none⟩=some (.slice ha y.n hc)) (hE:HisE w ha hA hC y) (hl:∀ i,i<y.n->y.l i<=200) (h4:y.n<=4) (hle:∀ a,a<y.n->∀ b,b<y.n->cnt (y.e b) 3 a (y.l b)<=cnt (y.e a) 2 b (y.l a)):
  Calls prog 60 #[.pointer (some (aQ X 0))] w fun e w'=>∃ v u,e=.returned (.tuple #[v,.bool (wfB y)])/\(wfB y=true->LT true w' (fun k=>w.heap.size<=k/\k<w'.heap.size) v (y.n*y.n) u (fun i=>(wyL y (i / y.n) (i % y.n)).length) (fun i=>itL (wyL y (i / y.n) (i % y.n))))/\Bw w w':=by
 have HU:Hid (∀ wx,Bw w wx->∀ a b,a<y.n->b<y.n->Calls prog 98 #[.pointer (some ⟨X,0,none⟩),iV (a:Nat),iV (b:Nat)] wx fun e w'=>∃ a1 c1,e=.returned (.slice a1 (wyL y a b).length c1)/\w'.ownsRow wx.heap.size 78 2 (.slice a1 (wyL y a b).length c1) (wyL y a b).length (fT (itL (wyL y a b)) (wyL y a b).length)/\Value.slice a1 (wyL y a b).length c1≠nS/\Bw wx w'):=fun wx hb a b ha' hb'=>qm0 X hc ha hA hC y a b wx ((hb.cell (p:=⟨X,0,none⟩) (zJ w _ c0)).trans c0) (hE.bw hb) hl ha' hb' (hle a ha' b hb');have HC0:Hid (∀ wx,Bw w wx->wx.cell? ⟨X,0,none⟩=some (.slice ha y.n hc)):=fun wx hb=>(hb.cell (p:=⟨X,0,none⟩) (zJ w _ c0)).trans c0;have hl':(y.n:Int)<=4:=by omega
 have HW:Hid (∀ a b,a<y.n->(wyL y a b).length<=200):=fun a b ha'=>by
  unfold wyL;rw [List.length_drop,qb2];have h1:=qhb (y.e a) 2 b (y.l a);have h2:=hl a ha';omega
 have HF:Hid (wfB y=qB (∀ a,a<y.n->∀ b,b<y.n->(wyL y a b).length<=12)):=rfl;clear hE hl hle c0;generalize wfB y=R at *;obtain ⟨L,hLe⟩:∃ L:Nat->Nat,(fun i=>(wyL y (i / y.n) (i % y.n)).length)=L:=⟨_,rfl⟩
 obtain ⟨H,hHe⟩:∃ H:Nat->Nat->I2,(fun i=>itL (wyL y (i / y.n) (i % y.n)))=H:=⟨_,rfl⟩
 rw [hLe,hHe]
 have HLH:Hid (∀ k j,j<y.n->(wyL y k j).length=L (k*y.n+j)/\itL (wyL y k j)=H (k*y.n+j)):=fun k j hj=>by
  obtain ⟨e1,e2⟩:=que (a:=k) hj;rw [<- hLe,<- hHe];dsimp only;rw [e1,e2];exact ⟨rfl,rfl⟩
 clear hLe hHe
 go_enter func60,ntmps60
 have c1:=HC0.out (w.alloc (.cells #[] 75)) (zT _ _);go_wp2_with fail
 clear c1
 go_loopw [4,14] (fun v i wr=>∃ k:Nat,k<=y.n/\i=.int .i64 k/\Hid ((∃ u,LT true wr (fun b=>w.heap.size<=b/\b<wr.heap.size) v (k*y.n) u L H)/\Bw w wr)/\Hid (∀ a,a<k->∀ b,b<y.n->(wyL y a b).length<=12)) (fun _ i _=>y.n - (intOf i).toNat)
 case atStart=>exact ⟨0,nD _,rfl,⟨⟨fun _=>.slice none 0 0,by rw [Nat.zero_mul];exact LL.new _ _ _ w _ (by simp) _ _ _⟩,zT _ _⟩,fun j hj=>by omega⟩
 case round=>
  obtain ⟨k,hk,rfl,HB,HK⟩:=hrel;by_cases hlt:k<y.n
  ·have hlt':(k:Int)<(y.n:Int):=by omega
   have c1:=HC0.out wr HB.2;go_wp2_with fail
   clear c1
   go_loopw [4,22] (fun v i wr=>∃ j:Nat,j<=y.n/\i=.int .i64 j/\Hid ((∃ u,LT true wr (fun b=>w.heap.size<=b/\b<wr.heap.size) v (k*y.n+j) u L H)/\Bw w wr)/\Hid (∀ b,b<j->(wyL y k b).length<=12)) (fun _ i _=>y.n - (intOf i).toNat)
   case atStart=>exact ⟨0,nD _,rfl,HB.out,fun j hj=>by omega⟩
   case round=>
    clear HB;obtain ⟨j,hj,rfl,HB,HJ⟩:=hrel;by_cases hjt:j<y.n
    ·have hjt':(j:Int)<(y.n:Int):=by omega
     go_wp2_with fail
     refine (HU.out _ HB.2 k j hlt hjt).mono ?_;rintro e w3 ⟨a3,c3,rfl,o3,n3,q3⟩;have hm:=HW.out k j hlt;by_cases ho:12<(wyL y k j).length
     ·have HV:Hid (R=false):=by
       show R=false;rw [HF.out]
       exact qax fun h=>by
        have h1:=h k hlt j hjt;omega
      have ho':(12:Int)<((wyL y k j).length:Int):=by omega
      have B3:Hid (Bw w w3):=HB.2.trans (q3.mono HB.2.size);generalize (wyL y k j).length=m at *;clear o3 n3 q3 HB;go_wp2;exact bodyPost_ret (v:=.tuple #[nS,.bool false]) (by simp [results,results60,go_sem]) rfl ⟨_,fun _=>.slice none 0 0,by rw [HV.out],fun h=>(by rw [HV.out] at h;cases h),B3.out⟩
     ·have ho':¬ (12:Int)<((wyL y k j).length:Int):=by omega
      have HJ':Hid (∀ b,b<j+1->(wyL y k b).length<=12):=fun b hb=>by
       by_cases e:b=j
       ·subst e
        omega
       ·exact HJ.out b (by omega)
      rw [(HLH.out k j hjt).1,(HLH.out k j hjt).2] at o3;rw [(HLH.out k j hjt).1] at n3 ho' hm ⊢;have h16:k*y.n<=4*4:=Nat.mul_le_mul (by omega) h4;have HK2:Hid (k*y.n+j<=2000000):=by show _<=_;omega
      have F4:Hid (w3.ownsRow wr.heap.size 78 2 (.slice a3 (L (k*y.n+j)) c3) (L (k*y.n+j)) (fT (H (k*y.n+j)) (L (k*y.n+j)))/\Bw wr w3/\Value.slice a3 (L (k*y.n+j)) c3≠nS):=⟨o3,q3,n3⟩
      obtain ⟨⟨u,oz⟩,bz⟩:=HB.out;have OZ:Hid (LT true wr (fun b=>w.heap.size<=b/\b<wr.heap.size) u4 (k*y.n+j) u L H):=oz;have BZ:Hid (Bw w wr):=bz;clear HJ o3 n3 q3 ho oz bz HB h16;generalize hkk:k*y.n+j=kk at *;have HKK:Hid (k*y.n+j=kk):=hkk;clear hkk;go_wp2_with (at_builtin;refine qai quz w3 rfl rfl _ _ rfl 0 u4 kk _ rfl (OZ.bw F4.2.1).row #[.slice a3 (L kk) c3] rfl rfl (by intro u hu;simp at hu;subst hu;rfl) HK2.out (nD _) ?_;intro v5 w5 o5 g5 q5 n5;have F5:Hid (LT true w5 (fun b=>w.heap.size<=b/\b<w5.heap.size) v5 (kk+1) (fun j=>if j=kk then .slice a3 (L kk) c3 else u j) L H/\Bw w w5):=⟨OZ.push F4.2.1 F4.1 (fun _=>F4.2.2) o5 g5 q5 (fun j hj _=>⟨hj.1,zL hj.2 (zP F4.2.1.size g5.size)⟩) (fun j hj hj'=>⟨zP BZ.size hj,hj'⟩),Below.grown (BZ.trans (F4.2.1.mono BZ.size)) g5 (zP BZ.size F4.2.1.size) (fun j hj=>(OZ.rb j hj).1)⟩;clear o5 g5 q5 n5)
      go_roundw
      case rel=>exact ⟨j+1,by omega,by go_num,⟨⟨_,by rw [<- Nat.add_assoc,HKK.out];exact F5.1⟩,F5.2⟩,HJ'.out⟩
      case measure=>simp [intOf];omega
    ·have HK':Hid (∀ a,a<k+1->∀ b,b<y.n->(wyL y a b).length<=12):=fun a ha b hb=>by
      by_cases e:a=k
      ·subst e
       exact HJ.out b (by omega)
      ·exact HK.out a (by omega) b hb
     have hjn:j=y.n:=by omega
     have HB':Hid ((∃ u,LT true wr (fun b=>w.heap.size<=b/\b<wr.heap.size) u4 ((k+1)*y.n) u L H)/\Bw w wr):=by
      have:=HB.out;rw [hjn] at this;rw [Nat.add_mul,Nat.one_mul];exact this
     clear HK HJ HB hjn;go_wp2;go_roundw
     case rel=>exact ⟨k+1,by omega,by go_num,HB'.out,HK'.out⟩
     case measure=>simp [intOf];omega
  ·have HV:Hid (R=true):=by
    show R=true;rw [HF.out];exact qa5 fun a ha b hb=>HK.out a (by omega) b hb
   have hkn:k=y.n:=by omega
   subst hkn;obtain ⟨⟨u,oz⟩,bz⟩:=HB.out;have OZ:Hid (LT true wr (fun b=>w.heap.size<=b/\b<wr.heap.size) u4 (y.n*y.n) u L H/\Bw w wr):=⟨oz,bz⟩
   clear HK HB oz bz;go_wp2;exact bodyPost_ret (v:=.tuple #[u4,.bool true]) (by simp [results,results60,go_sem]) rfl ⟨_,u,by rw [HV.out],fun _=>OZ.1,OZ.2⟩
theorem AtP.start {z:Bool} {B m3 m1:Nat} {w3 w1:World} {y:Sy} {vp vw:Value} {up uw:Nat->Value} (o3:LT z w3 (fun k=>m3<=k/\k<w3.heap.size) vw y.wn uw y.wL y.wH) (o1:LI z w1 (fun k=>m1<=k/\k<w1.heap.size) vp y.pn up y.pL y.pH) (hb:Bw w3 w1) (h1:w3.heap.size<=m1) (hB:B<=m3) (h3:m3<=w3.heap.size):
  ∃ c,AtP z B w1.heap.size c { y with sn:=0,hn:=0 } (w1.alloc (.cells #[vp,nS,vw,nS] 29)) vp nS vw nS up (fun _=>.slice none 0 0) uw (fun _=>.slice none 0 0):=by
 have hs:=hb.size;have ba:=zQ w1 (.cells #[vp,nS,vw,nS] 29);refine ⟨fun k=>if k=w1.heap.size then 0 else if k<w3.heap.size then 3 else 1,BoxC.new w1 _ _ _ _ _,fun j=>yB _ _ _ _ rfl,nC rfl,by omega,?_,LS.nil _ _ _ _,?_,LL.nil _ _ _ _ _ _ _ _⟩
 ·refine (o1.mono fun k hk _=>⟨by omega,?_⟩).bw ba
  show (if k=w1.heap.size then 0 else if k<w3.heap.size then 3 else 1)=1;rw [nB (by omega),nB (by omega)]
 ·refine ((o3.mono fun k hk _=>⟨by omega,?_⟩).bw hb).bw ba
  show (if k=w1.heap.size then 0 else if k<w3.heap.size then 3 else 1)=3;rw [nB (by omega),nC (by omega)]
def Sy.Rpl (y:Sy) (d:Nat->Nat):Prop:=∀ p,p<y.pn->(repO (y.pH p) (y.pL p) (y.hH p) (d p)).isSome=true
noncomputable def ctB (y:Sy) (d:Nat->Nat):Bool:=qB (y.Wh d) && (wfB (y.ah d) && qB (y.Rpl d))
noncomputable def ctS (y:Sy) (d:Nat->Nat):Sy:=if ctB y d=true then y.atY d else y.nil
theorem qx6 {y:Sy} {d:Nat->Nat} (h:¬ y.Wh d):ctB y d=false:=by
 unfold ctB;rw [qax h];rfl
theorem qx7 {y:Sy} {d:Nat->Nat} (h:wfB (y.ah d)=false):ctB y d=false:=by
 unfold ctB;rw [h];simp
theorem qx8 {y:Sy} {d:Nat->Nat} (h:¬ y.Rpl d):ctB y d=false:=by
 unfold ctB;rw [qax h];simp
theorem qrt {y:Sy} {d:Nat->Nat} (h1:y.Wh d) (h2:wfB (y.ah d)=true) (h3:y.Rpl d):ctB y d=true:=by
 unfold ctB;rw [qa5 h1,h2,qa5 h3];rfl
theorem qub (y:Sy) (d:Nat->Nat):(∀ a,a<(y.ah d).n->∀ b,b<(y.ah d).n->nthV ((y.ah d).e b) 3 a ((y.ah d).l b) (cnt ((y.ah d).e a) 2 b ((y.ah d).l a):Nat)<0) ↔ y.Wh d:=
 ⟨fun h a ha b hb=>(qkd (y:=y) (c:=d)).1 (h a ha b hb),fun h a ha b hb=>(qkd (y:=y) (c:=d)).2 (h a ha b hb)⟩
theorem qno (X hc0:Nat) (ea:Option Addr) (eA:Nat->Option Addr) (eC:Nat->Nat) (y:Sy) (d:Nat->Nat) (pa:Option Addr) (pc:Nat) (pA:Nat->Option Addr) (pC:Nat->Nat) (w:World) (c0:w.cell? ⟨X,0,none⟩=some (.slice ea y.pn hc0)) (hE:HisE w ea eA eC (y.ah d)) (hl:∀ i,i<y.pn->d i<=200) (h4:y.pn<=4) (hP:RowS w pa y.pn fun i=>.slice (pA i) (y.pL i) (pC i)) (hI:∀ i,i<y.pn->∃ b,pA i=some ⟨b,0,none⟩/\b<w.heap.size/\qaq w b 0 (y.pL i) (y.pH i)) (hpl:∀ i,i<y.pn->y.pL i<=1048576) (hV:w.cell? ⟨0,0,none⟩=some (.iface 192 (.agg #[.pointer (some ⟨1,142,none⟩)]))):
  Calls prog 27 #[.pointer (some (aQ X 0)),.slice pa y.pn pc] w fun e w'=>∃ v,e=.returned (.tuple #[v,.bool (ctB y d)])/\qan true w' w.heap.size (ctS y d) v/\Bw w w':=by
 have HVx:Hid (∀ wx,Bw w wx->wx.cell? ⟨0,0,none⟩=some (.iface 192 (.agg #[.pointer (some ⟨1,142,none⟩)]))):=fun wx hb=>(hb.cell (p:=⟨0,0,none⟩) (zJ w _ hV)).trans hV
 have HX3 : Hid (∀ wx, Below w.heap.size w wx → wx.cell? ⟨X, 0, none⟩ = some (.slice ea y.pn hc0) ∧ HisE wx ea eA eC (y.ah d) ∧ RowS wx pa y.pn (fun i => .slice (pA i) (y.pL i) (pC i)) ∧ ∀ i, i < y.pn → ∃ b, pA i = some ⟨b, 0, none⟩ ∧ b < wx.heap.size ∧ qaq wx b 0 (y.pL i) (y.pH i)) := fun wx hb => ⟨(hb.cell (p := ⟨X, 0, none⟩) (World.block_lt_of_cell? w _ c0)).trans c0, hE.bw hb, hP.bw hb, fun i hi => by
  obtain ⟨b,e,hlt,hI⟩:=hI i hi
  exact ⟨b,e,zL hlt hb.size,hI.bw hb hlt⟩⟩
 have HWh:Hid (∀ wx,Bw w wx->Calls prog 59 #[.pointer (some ⟨X,0,none⟩)] wx (rB wx (.bool (qB (y.Wh d))))):=fun wx hb=>by
  have h:=ql5 X hc0 ea eA eC (y.ah d) wx (HX3.out wx hb).1 (HX3.out wx hb).2.1 (fun i hi=>hl i hi) h4
  have e:qB (y.Wh d)=qB (∀ a,a<(y.ah d).n->∀ b,b<(y.ah d).n->nthV ((y.ah d).e b) 3 a ((y.ah d).l b) (cnt ((y.ah d).e a) 2 b ((y.ah d).l a):Nat)<0):=by
   by_cases hw:y.Wh d
   ·rw [qa5 hw,qa5 ((qub y d).2 hw)]
   ·rw [qax hw,qax fun h=>hw ((qub y d).1 h)]
  rw [e];exact h
 have HW:Hid (y.Wh d->∀ wx,Bw w wx->Calls prog 60 #[.pointer (some ⟨X,0,none⟩)] wx fun e w'=>∃ v u,e=.returned (.tuple #[v,.bool (wfB (y.ah d))])/\(wfB (y.ah d)=true->LT true w' (fun k=>wx.heap.size<=k/\k<w'.heap.size) v (y.atY d).wn u (y.atY d).wL (y.atY d).wH)/\Bw wx w'):=fun hw wx hb=>qri X hc0 ea eA eC (y.ah d) wx (HX3.out wx hb).1 (HX3.out wx hb).2.1 (fun i hi=>hl i hi) h4 (fun a ha b hb=>hw a ha b hb)
 have HP : Hid (∀ wx, Below w.heap.size w wx → Calls prog 61 #[.slice pa y.pn pc] wx fun e w' => ∃ v u, e = .returned v ∧ LI true w' (fun k => wx.heap.size ≤ k ∧ k < w'.heap.size) v y.pn u y.pL y.pH ∧ Below wx.heap.size wx w') := fun wx hb => qhh pa y.pn pc pA y.pL pC y.pH wx (by omega) hpl (HX3.out wx hb).2.2.1 (fun i hi => by
  obtain ⟨b,e,hlt,hI⟩:=(HX3.out wx hb).2.2.2 i hi
  exact ⟨b,0,e,by rw [e];exact srcI hlt hI⟩)
 have HR:Hid (∀ wx,Bw w wx->∀ p,p<y.pn->Calls prog 62 #[.slice (pA p) (y.pL p) (pC p),.slice (eA p) (d p) (eC p)] wx (qc2 wx ((y.atY d).sS p) (repO (y.pH p) (y.pL p) (y.hH p) (d p)).isSome)):=fun wx hb p hp=>by
  obtain ⟨b,e,hlt,hI⟩:=(HX3.out wx hb).2.2.2 p hp;rw [e];exact qg7 b (y.pL p) (pC p) (eA p) (d p) (eC p) (y.pH p) (y.hH p) wx (by have:=hpl p hp;unfold maxLen;omega) hlt hI ((HX3.out wx hb).2.1.ev p hp) (by have:=hl p hp;omega) (HVx.out wx hb)
 have HK:Hid (∀ wx,Bw w wx->∀ p,p<y.pn->Calls prog 63 #[.slice (eA p) (d p) (eC p)] wx fun e w'=>∃ a1 c1,e=.returned (.slice a1 (d p) c1)/\w'.ownsRow wx.heap.size 49 3 (.slice a1 (d p) c1) (d p) (fE (y.hH p) (d p))/\Value.slice a1 (d p) c1≠nS/\Bw wx w'):=fun wx hb p hp=>qia (eA p) (d p) (eC p) (y.hH p) wx (by have:=hl p hp;omega) (srcE ((HX3.out wx hb).2.1.ev p hp));have HN:Hid (y.pn<=4):=h4;have BW:Hid (Bw w (w.alloc (zQ3))):=zQ _ _;have RB:Hid (BoxC (w.alloc (zQ3)) w.heap.size nS nS nS nS/\∀ j,(w.alloc (zQ3)).frozen? ⟨w.heap.size,j,none⟩=false):=⟨BoxC.new w _ _ _ _ _,fun j=>yB _ _ _ _ (by simp)⟩
 have hM:w.heap.size<=w.heap.size:=nA _;have HNO:Hid (ctB y d=false->ctS y d=y.nil):=fun h=>nB (by rw [h];simp);have HYES:Hid (ctB y d=true->ctS y d=y.atY d):=fun h=>nC h;have HC1:Hid (qB (y.Wh d)=false->ctB y d=false):=fun h=>qx6 fun hw=>by rw [qa5 hw] at h;cases h
 have HC2:Hid (wfB (y.ah d)=false->ctB y d=false):=qx7;have HC3:Hid (¬ y.Rpl d->ctB y d=false):=qx8;have HC4:Hid (qB (y.Wh d)=true->wfB (y.ah d)=true->y.Rpl d->ctB y d=true):=fun h1=>qrt (qim.1 h1);have HW':Hid (qB (y.Wh d)=true->∀ wx,Bw w wx->Calls prog 60 #[.pointer (some ⟨X,0,none⟩)] wx fun e w'=>∃ v u,e=.returned (.tuple #[v,.bool (wfB (y.ah d))])/\(wfB (y.ah d)=true->LT true w' (fun k=>wx.heap.size<=k/\k<w'.heap.size) v (y.atY d).wn u (y.atY d).wL (y.atY d).wH)/\Bw wx w'):=fun h=>HW.out (qim.1 h);clear c0 hE hl h4 hP hI hpl hV HW;generalize qB (y.Wh d)=tw at *;generalize wfB (y.ah d)=wf at *;generalize ctB y d=R at *;generalize ctS y d=RS at *
 go_enter func27,ntmps27
 go_wp2_with fail
 generalize w.alloc (zQ3)=W2 at *;refine (HWh.out W2 BW.out).mono ?_;rintro e w1 ⟨rfl,q1⟩;have B1:Hid (Bw w w1/\BoxC w1 w.heap.size nS nS nS nS/\∀ j,w1.frozen? ⟨w.heap.size,j,none⟩=false):=⟨BW.trans (q1.mono BW.size),RB.1.bw q1,fun j=>((qal q1).2 _ j (zJ _ _ RB.1.1)).trans (RB.2 j)⟩
 clear q1 BW RB HWh;have l1:w.heap.size<w1.heap.size:=zJ _ _ B1.2.1.1;cases tw with
 | false=>
  have HV:Hid (R=false/\RS=y.nil):=⟨HC1.out rfl,HNO.out (HC1.out rfl)⟩
  obtain ⟨⟨r0,r1,r2,r3⟩,rf⟩:=B1.2;clear HC1 HC2 HC3 HC4 HNO HYES HX3 HW' HP HR HK HVx;go_wp2;exact bodyPost_ret (v:=.tuple #[sysV none 0 0 none 0 0 none 0 0 none 0 0,.bool false]) (by simp [results,results27,go_sem,r0,r1,r2,r3]) rfl ⟨_,by rw [HV.1],by rw [HV.2];exact qan.zero _ _ _,(((B1.1.setCell hM _).setCell hM _).setCell hM _).setCell hM _⟩
 | true=>
  have HWa:Hid (∀ wx,Bw w wx->Calls prog 60 #[.pointer (some ⟨X,0,none⟩)] wx fun e w'=>∃ v u,e=.returned (.tuple #[v,.bool wf])/\(wf=true->LT true w' (fun k=>wx.heap.size<=k/\k<w'.heap.size) v (y.atY d).wn u (y.atY d).wL (y.atY d).wH)/\Bw wx w'):=HW'.out rfl;have HC5:Hid (wf=true->y.Rpl d->R=true):=HC4.out rfl;clear HC1 HC4 HW';go_wp2_with fail
  refine (HWa.out w1 B1.1).mono ?_;rintro e w4 ⟨v4,u4,rfl,o4,q4⟩;have F4:Hid ((wf=true->LT true w4 (fun k=>w1.heap.size<=k/\k<w4.heap.size) v4 (y.atY d).wn u4 (y.atY d).wL (y.atY d).wH)/\Bw w1 w4):=⟨o4,q4⟩
  clear o4 q4 HWa;cases wf with
  | false=>
   have HV:Hid (R=false/\RS=y.nil):=⟨HC2.out rfl,HNO.out (HC2.out rfl)⟩
   obtain ⟨r0,r1,r2,r3⟩:=B1.2.1.bw F4.2;have rf:∀ j,w4.frozen? ⟨w.heap.size,j,none⟩=false:=fun j=>((qal F4.2).2 _ j l1).trans (B1.2.2 j);have Q4:Hid (Bw w w4):=B1.1.trans (F4.2.mono B1.1.size);clear HC2 HC3 HC5 HNO HYES HX3 HP HR HK HVx F4;go_wp2;exact bodyPost_ret (v:=.tuple #[sysV none 0 0 none 0 0 none 0 0 none 0 0,.bool false]) (by simp [results,results27,go_sem,r0,r1,r2,r3]) rfl ⟨_,by rw [HV.1],by rw [HV.2];exact qan.zero _ _ _,(((Q4.setCell hM _).setCell hM _).setCell hM _).setCell hM _⟩
  | true=>
   have HC6:Hid (y.Rpl d->R=true):=HC5.out rfl;have O4:Hid (LT true w4 (fun k=>w1.heap.size<=k/\k<w4.heap.size) v4 (y.atY d).wn u4 (y.atY d).wL (y.atY d).wH/\Bw w1 w4):=⟨F4.1 rfl,F4.2⟩
   clear HC2 HC5 F4;obtain ⟨a4,c4,rfl⟩:=zU O4.1.row;go_wp2_with fail
   refine (HP.out w4 (B1.1.trans (O4.2.mono B1.1.size))).mono ?_;rintro e w5 ⟨v5,uu5,rfl,o5,q5⟩;obtain ⟨a5,c5,rfl⟩:=zU o5.row;obtain ⟨cl5,st5⟩:=AtP.start (z:=true) (B:=w1.heap.size) (y:=y.atY d) O4.1 o5 q5 (nA _) (nA _) O4.2.size;have F5:Hid (AtP true w1.heap.size w5.heap.size cl5 { y.atY d with sn:=0,hn:=0 } (w5.alloc (oQ4 a5 y.pn c5 none 0 0 a4 (y.atY d).wn c4 none 0 0)) (.slice a5 y.pn c5) nS (.slice a4 (y.atY d).wn c4) nS uu5 (fun _=>.slice none 0 0) u4 (fun _=>.slice none 0 0)/\Bw w1 (w5.alloc (oQ4 a5 y.pn c5 none 0 0 a4 (y.atY d).wn c4 none 0 0))):=⟨st5,(O4.2.trans (q5.mono O4.2.size)).trans ((zQ _ _).mono (zP O4.2.size q5.size))⟩
   clear o5 q5 st5 HP;go_upto_region 7 with fail
   clear O4;generalize w5.alloc (oQ4 a5 y.pn c5 none 0 0 a4 (y.atY d).wn c4 none 0 0)=W5 at *;generalize hNN:w5.heap.size=N at *;clear hNN w5;have HX4:Hid (∀ wx,Bw w1 wx->Bw w wx/\BoxC wx w.heap.size nS nS nS nS/\(∀ j,wx.frozen? ⟨w.heap.size,j,none⟩=false)/\w1.heap.size<=wx.heap.size):=fun wx hb=>⟨B1.1.trans (hb.mono B1.1.size),B1.2.1.bw hb,fun j=>((qal hb).2 _ j l1).trans (B1.2.2 j),hb.size⟩
   have HL1:Hid (w.heap.size<w1.heap.size):=l1;clear B1 l1;have hn':(y.pn:Int)<=4:=by have:=HN.out;omega
   have hx0:=(HX3.out _ (HX4.out _ F5.2).1).1;go_wp2_with fail
   clear hx0
   go_loopw [34] (fun i wr=>∃ k:Nat,k<=y.pn/\i=.int .i64 k/\Hid ((∃ cl vs vh us uh,AtP true w1.heap.size N cl { y.atY d with sn:=k,hn:=k } wr (.slice a5 y.pn c5) vs (.slice a4 (y.atY d).wn c4) vh uu5 us u4 uh)/\Bw w1 wr)/\Hid (∀ p,p<k->(repO (y.pH p) (y.pL p) (y.hH p) (d p)).isSome=true)) (fun i _=>y.pn - (intOf i).toNat)
   case atStart=>exact ⟨0,nD _,rfl,⟨⟨_,_,_,_,_,F5.1⟩,F5.2⟩,fun p hp=>by omega⟩
   case round=>
    clear F5;obtain ⟨k,hk,rfl,HZ,HPs⟩:=hrel;by_cases hlt:k<y.pn
    ·have hlt':(k:Int)<(y.pn:Int):=by omega
     obtain ⟨hbw,-,-,hle3⟩:=HX4.out wr HZ.2;obtain ⟨-,hrw,hpw,-⟩:=HX3.out wr hbw;have RW:Hid (Bw w wr):=hbw;obtain ⟨be,oe,rfl,ce⟩:=hrw.row.at hlt;obtain ⟨bp,op,rfl,cp⟩:=hpw.at hlt;obtain ⟨⟨cl,vs,vh,us,uh,hA⟩,hbz⟩:=HZ.out;have AP:Hid (AtP true w1.heap.size N cl { y.atY d with sn:=k,hn:=k } wr (.slice a5 y.pn c5) vs (.slice a4 (y.atY d).wn c4) vh uu5 us u4 uh):=hA;have BZ:Hid (Bw w1 wr):=hbz;clear hA hbz HZ hle3 hbw hrw hpw;replace ce:wr.cell? ⟨be,oe+k,none⟩=some (.slice (eA k) (d k) (eC k)):=ce;go_wp2_with fail
     refine (HR.out wr RW.out k hlt).mono ?_;rintro e w6 ⟨v6,rfl,o6,q6⟩;obtain ⟨ra1,rc1,oa1,oc1,rfl,-,-⟩:=o6.read;clear ce cp;have S6:Hid (qac w6 wr.heap.size (stV ((y.atY d).sS k).p ra1 ((y.atY d).sS k).rs.length rc1 oa1 ((y.atY d).sS k).os.length oc1 ((y.atY d).sS k).c) ((y.atY d).sS k).p ((y.atY d).sS k).rs ((y.atY d).sS k).os ((y.atY d).sS k).c/\Bw wr w6):=⟨o6,q6⟩
     clear o6 q6;generalize hTT:(y.atY d).sS k=T at *;have HTT:Hid ((y.atY d).sS k=T):=hTT;clear hTT;generalize hrb:(repO (y.pH k) (y.pL k) (y.hH k) (d k)).isSome=rb at *;have HRB:Hid ((repO (y.pH k) (y.pL k) (y.hH k) (d k)).isSome=rb):=hrb;clear hrb;have N7:Hid (BoxC (w6.alloc (oQ0 T.p ra1 T.rs.length rc1 oa1 T.os.length oc1 T.c)) w6.heap.size (iV T.p) (.slice ra1 T.rs.length rc1) (.slice oa1 T.os.length oc1) (iV T.c)/\Bw wr (w6.alloc (oQ0 T.p ra1 T.rs.length rc1 oa1 T.os.length oc1 T.c))/\qac (w6.alloc (oQ0 T.p ra1 T.rs.length rc1 oa1 T.os.length oc1 T.c)) wr.heap.size (stV T.p ra1 T.rs.length rc1 oa1 T.os.length oc1 T.c) T.p T.rs T.os T.c):=⟨BoxC.new w6 _ _ _ _ _,S6.2.trans ((zQ _ _).mono S6.2.size),S6.1.bw (zQ _ _)⟩
     go_upto_region 11 with fail
     clear S6;generalize w6.alloc (oQ0 T.p ra1 T.rs.length rc1 oa1 T.os.length oc1 T.c)=w7 at *;generalize hN7:w6.heap.size=S7 at *;clear hN7 w6;cases rb with
     | false=>
      have hnr:¬ y.Rpl d:=fun h=>by
       have h1:=h k hlt;rw [HRB.out] at h1;cases h1
      have HV:Hid (R=false/\RS=y.nil):=⟨HC3.out hnr,HNO.out (HC3.out hnr)⟩
      have Q7:Hid (Bw w1 w7):=BZ.trans (N7.2.1.mono BZ.size);obtain ⟨hb7,⟨r0,r1,r2,r3⟩,rf,-⟩:=HX4.out w7 Q7.out;have B7:Hid (Bw w w7):=hb7;clear hb7 hnr HC3 HC6 HNO HYES HX3 HX4 HR HK HVx AP BZ N7 RW HRB HTT HPs;go_wp2;exact bodyPost_ret (v:=.tuple #[sysV none 0 0 none 0 0 none 0 0 none 0 0,.bool false]) (by simp [results,results27,go_sem,r0,r1,r2,r3]) rfl ⟨_,by rw [HV.1],by rw [HV.2];exact qan.zero _ _ _,(((B7.setCell hM _).setCell hM _).setCell hM _).setCell hM _⟩
     | true=>
      have HPs':Hid (∀ p,p<k+1->(repO (y.pH p) (y.pL p) (y.hH p) (d p)).isSome=true):=fun p hp=>by
       by_cases e:p=k
       ·subst e
        exact HRB.out
       ·exact HPs.out p (by omega)
      clear HPs HRB;go_upto_region 13 with fail
      obtain ⟨sa,sc,rfl⟩:=zU AP.o.s.row;obtain ⟨ha,hc,rfl⟩:=zU AP.o.h.row;obtain ⟨x0,x1,x2,x3⟩:=(AP.bw N7.2.1).bx;obtain ⟨s0,s1,s2,s3⟩:=N7.1;have hk2:Hid (k<=2000000):=by show k<=2000000;omega
      have lN7:N<w7.heap.size:=zJ _ _ x0;have lS7:S7<w7.heap.size:=zJ _ _ s0;go_upto_region 14 with (at_builtin;refine qai kndS w7 rfl rfl _ _ rfl 0 (.slice sa k sc) k _ rfl (AP.o.s.bw N7.2.1).row #[.int .i64 T.p,.slice ra1 T.rs.length rc1,.slice oa1 T.os.length oc1,.int .i64 T.c] rfl rfl (by intro u hu;simp at hu;rcases hu with rfl | rfl | rfl | rfl <;> rfl) hk2.out (nD _) ?_;intro v8 w8 o8 g8 q8 n8;obtain ⟨a8,c8,rfl⟩:=zU o8;obtain ⟨⟨z0,z1,z2,z3⟩,zf⟩:=AP.box N7.2.1 g8 (fun k hk=>(AP.gS k hk).2);have F8:Hid (AtP true w1.heap.size N (rcol cl wr.heap.size 2) { y.atY d with sn:=k+1,hn:=k } (w8.setCell (aQ N 1) (.slice a8 (k+1) c8)) (.slice a5 y.pn c5) (.slice a8 (k+1) c8) (.slice a4 (y.atY d).wn c4) (.slice ha k hc) uu5 (fun j=>if j=k then stV T.p ra1 T.rs.length rc1 oa1 T.os.length oc1 T.c else us j) u4 uh/\Bw w1 (w8.setCell (aQ N 1) (.slice a8 (k+1) c8))):=⟨AP.state N7.2.1 (by rw [HTT.out];exact N7.2.2) o8 g8 q8,(Below.grown (BZ.trans (N7.2.1.mono BZ.size)) g8 (zP BZ.size N7.2.1.size) (fun j hj=>(AP.gS j hj).1)).setCell AP.bN _⟩;clear o8 g8 q8 n8)
      clear x0 x1 x2 x3 s0 s1 s2 s3 z0 z1 z2 z3 zf lN7 lS7 N7 AP;generalize w8.setCell (aQ N 1) (.slice a8 (k+1) c8)=w9 at *;clear w8;obtain ⟨x0,x1,x2,x3⟩:=F8.1.bx;have lN9:N<w9.heap.size:=F8.1.lt;have q0:Bw w9 w9.drew:=(nE w9.heap.size w9).drew;obtain ⟨hbw,-⟩:=HX4.out w9.drew (F8.2.trans (q0.mono F8.2.size));refine qag (fun w'=>w'.cell? (aQ N 3)=some (.slice ha k hc)) (fun i=>i == 7) (by kernel_rfl) ?_;have hHeld:(fun w':World=>w'.cell? (aQ N 3)=some (.slice ha k hc)) w9.drew:=(q0.cell (p:=(aQ N 3)) lN9).trans x3;refine qbb [0,1,2] ?_;iterate 3 (refine qbr rfl hHeld ?_)
      refine qa2 ?_;refine yW 3 rfl fun K hK=>?_;refine qat rfl 63 _ _ rfl #[.slice (eA k) (d k) (eC k)] (by simp [Act.eval]) (yA func63) (HK.out w9.drew hbw k hlt) ?_;rintro e w10 ⟨a10,c10,rfl,o10,n10,d10⟩;refine ⟨_,rfl,?_⟩;have Q10:Hid (Bw w9 w10/\w10.ownsRow w9.heap.size 49 3 (.slice a10 (d k) c10) (d k) (fE (y.hH k) (d k))/\Value.slice a10 (d k) c10≠nS):=⟨q0.trans (d10.mono q0.size),o10,n10⟩
      refine hK.out _ _ (fun _=>(Q10.1.cell (p:=(aQ N 3)) lN9).trans x3) ?_;clear hHeld hK K o10 n10 d10 hbw q0
      (try simp only [Act.put,zD,zE,zF])
      refine yW 4 rfl fun K hK=>?_;go_simp;refine hK.out _ _ (fun _=>((Q10.1.trans ((zQ w10 _).mono Q10.1.size)).cell (p:=(aQ N 3)) lN9).trans x3) ?_;clear hK K
      (try simp only [Act.put,zD,zE,zF])
      refine yW 5 rfl fun K hK=>?_;refine qa1 qqj w10 rfl rfl _ _ rfl 0 (.slice ha k hc) k _ rfl (F8.1.o.h.bw Q10.1).row #[.slice a10 (d k) c10] rfl rfl (by intro u hu;simp at hu;subst hu;rfl) hk2.out (nD _) ?_;intro v11 w11 o11 g11 q11 n11;obtain ⟨a11,c11,rfl⟩:=zU o11;obtain ⟨⟨z0,z1,z2,z3⟩,zf⟩:=F8.1.box Q10.1 g11 (fun k hk=>(F8.1.gH k hk).2);have F9:Hid (AtP true w1.heap.size N (rcol (rcol cl wr.heap.size 2) w9.heap.size 4) { y.atY d with sn:=k+1,hn:=k+1 } (w11.setCell (aQ N 3) (.slice a11 (k+1) c11)) (.slice a5 y.pn c5) (.slice a8 (k+1) c8) (.slice a4 (y.atY d).wn c4) (.slice a11 (k+1) c11) uu5 (fun j=>if j=k then stV T.p ra1 T.rs.length rc1 oa1 T.os.length oc1 T.c else us j) u4 (fun j=>if j=k then .slice a10 (d k) c10 else uh j)/\Bw w1 (w11.setCell (aQ N 3) (.slice a11 (k+1) c11))):=⟨F8.1.hist Q10.1 Q10.2.1 Q10.2.2 o11 g11 q11,(Below.grown (F8.2.trans (Q10.1.mono F8.2.size)) g11 (zP F8.2.size Q10.1.size) (fun j hj=>(F8.1.gH j hj).1)).setCell F8.1.bN _⟩
      refine hK.out _ _ (fun _=>z3) ?_;clear o11 g11 q11 n11 hK K
      (try simp only [Act.put,zD,zE,zF])
      have hHeld:(fun w':World=>w'.cell? (aQ N 3)=some (.slice ha k hc)) w11:=z3;refine qar 6 rfl hHeld ?_;refine yW 7 rfl fun K hK=>?_;have hfN1:=zf 3;go_simp;refine hK.out _ _ (fun h=>?_) ?_
      ·exact absurd h (by decide)
      clear hK K z0 z1 z2 z3 zf hfN1 x0 x1 x2 x3 Q10 F8 lN9
      (try simp only [Act.put])
      refine yX ?_ _;go_wp2;go_roundw
      case rel=>exact ⟨k+1,by omega,by go_num,⟨⟨_,_,_,_,_,F9.1⟩,F9.2⟩,HPs'.out⟩
      case measure=>simp [intOf];omega
    ·have hkn:k=y.pn:=by omega
     subst hkn;have hlt':¬ (y.pn:Int)<(y.pn:Int):=by omega
     have hr1:R=true:=HC6.out fun p hp=>HPs.out p hp;have HV:Hid (R=true/\RS=y.atY d):=⟨hr1,HYES.out hr1⟩
     obtain ⟨⟨cl,vs,vh,us,uh,hA⟩,hbz⟩:=HZ.out;obtain ⟨sa,sc,rfl⟩:=zU hA.o.s.row;obtain ⟨ha,hc,rfl⟩:=zU hA.o.h.row;obtain ⟨x0,x1,x2,x3⟩:=hA.bx;obtain ⟨hbw,⟨r0,r1,r2,r3⟩,rf,hle3⟩:=HX4.out wr hbz;have OS:Hid (qan true wr w1.heap.size (y.atY d) (.agg #[.slice a5 y.pn c5,.slice sa y.pn sc,.slice a4 (y.atY d).wn c4,.slice ha y.pn hc])):=⟨_,_,_,_,_,_,_,_,_,rfl,hA.o⟩
     have BW:Hid (Bw w wr/\w.heap.size<=w1.heap.size):=⟨hbw,by have:=HL1.out;omega⟩
     have lN:N<wr.heap.size:=hA.lt;have hNr:w1.heap.size<=N:=hA.bN;have l1:=HL1.out;have hl1:w.heap.size<wr.heap.size:=by omega
     clear hA HZ hbw hbz HX3 HX4 hr1 HC3 HC6 HNO HYES HPs;go_wp2
     exact bodyPost_ret (v := .tuple #[.agg #[.slice a5 y.pn c5, .slice sa y.pn sc, .slice a4 (y.atY d).wn c4, .slice ha y.pn hc], .bool true]) (by simp [results, results27, go_sem, r0, r1, r2, r3]) rfl ⟨_, by rw [HV.1], by
      rw [HV.2]
      exact ((((OS.setBelow l1 0 _).setBelow l1 1 _).setBelow l1 2 _).setBelow l1 3 _).base BW.2,(((BW.1.setCell hM _).setCell hM _).setCell hM _).setCell hM _⟩
theorem Sy.Cl.ex {y:Sy} {c:List Int}:∀ (n:Nat) (e:List Int),sm e<=n->y.Cl c e->∃ e',y.Cl c e'/\y.Wh (cN e')
 | n,e,hn,h=>by
  by_cases hw:y.Wh (cN e)
  ·exact ⟨e,h,hw⟩
  ·obtain ⟨a,ha,b,hb,hno⟩:∃ a,a<y.pn/\∃ b,b<y.pn/\¬ tN y (cN e) a b<=sN y (cN e) a b:=by
    apply Classical.byContradiction;intro hc;exact hw fun a ha b hb=>Classical.byContradiction fun h'=>hc ⟨a,ha,b,hb,h'⟩
   have ho:0<=ovN y (cN e) a b:=by
    apply Classical.byContradiction;intro h0;exact hno (qkd.1 (by omega))
   obtain ⟨h1,h2,h3⟩:=h.next ha hb ho;have hlt:=qwv e b _ (by rw [h.len];exact hb) h3 h2;cases n with
   | zero=>omega
   | succ n=>exact Sy.Cl.ex n _ (by omega) h1
theorem qan.weak {z:Bool} {w:World} {B:Nat} {y:Sy} {v:Value} (o:qan z w B y v):qan false w B y v:=by
 obtain ⟨c,vp,vs,vw,vh,up,us,uw,uh,e,o⟩:=o;exact ⟨c,vp,vs,vw,vh,up,us,uw,uh,e,o.weak⟩
