import Derived.Test.YteggedobbojgoaaGreatDoorBf53
import Derived.Test.YteggedobbojgoaaGreatDoorBf49
import Derived.Test.YteggedobbojgoaaGreatDoorBf50
namespace Go.Proofs.YteggedobbojgoaaGreatDoor
set_option maxRecDepth 100000
set_option maxHeartbeats 4000000
open Go.RowKit Go.Deep
theorem qm1 {rs:List Int} (h:allN rs=true) (k:Nat):numB (zi rs k)=true:=by
 by_cases hk:k<rs.length
 ·exact (List.all_eq_true.1 h) _ (qse hk)
 ·unfold zi
  rw [List.getD_eq_getElem?_getD,List.getElem?_eq_none (by omega)]
  decide
theorem qup {g:Nat->I5} {len:Nat} {p:Int} {rs os:List Int} {code k q v:Int} (h:doB g len p rs os code k q v=true):numB v=true:=by
 have hr:=qc7 h
 have hs:qcr len p rs os code=true:=by
  simp only [qbr,Bool.and_eq_true] at hr
  exact hr.1.2
 obtain ⟨⟨r0,r1,r2,r3,rfl,n0,n1,n2,n3⟩,-⟩:=qbx hs
 have ha:allN [r0,r1,r2,r3]=true:=by simp [allN,n0,n1,n2,n3]
 unfold doB canB at h
 split at h
 ·simp only [Bool.and_eq_true] at h
  exact h.1.2
 ·simp only [Bool.and_eq_true,beq_iff_eq] at h
  rw [h.2.2.2,nxW,if_pos hr]
  unfold evW
  split
  ·exact qm1 ha _
  ·split
   ·exact qm1 ha _
   ·decide
theorem qvs {g:Nat->I5} {n:Nat} {eh:Nat->E3} {m k:Nat} {S:S4} (h:rp g n eh m=some S) (hk:k<m):numB (eh k).v=true:=by
 cases h0:rp g n eh k with
 | none=>
  have:=qf9 h0 (Nat.le_of_lt hk)
  rw [this] at h
  cases h
 | some T=>
  cases hd:doB g n T.p T.rs T.os T.c (eh k).k (eh k).q (eh k).v with
  | true=>exact qup hd
  | false=>
   have:=qf9 (qtf h0 hd) hk
   rw [this] at h
   cases h
theorem qtc {g:Nat->I5} {n:Nat} {eh:Nat->E3} {m k:Nat} {S:S4} (h:repO g n eh m=some S) (hk:k<=m):∃ T,repO g n eh k=some T:=by
 obtain ⟨h1,h2,h3⟩:=qbi h
 unfold repO
 rw [if_pos ⟨h1,by omega⟩]
 cases h0:rp g n eh k with
 | none=>
  rw [qf9 h0 hk] at h3
  cases h3
 | some T=>exact ⟨T,rfl⟩
theorem qj6 (eh:Nat->E3) (kd pr:Int) (n:Nat):∀ k,∃ t,valL eh kd pr (n+k)=valL eh kd pr n ++ t
 | 0=>⟨[],by simp⟩
 | k+1=>by
  obtain ⟨t,h⟩:=qj6 eh kd pr n k
  rcases zK (hitB eh kd pr (n+k)) with e | e
  ·exact ⟨t ++ [(eh (n+k)).v],by rw [<- Nat.add_assoc,qj5 e,h,List.append_assoc]⟩
  ·exact ⟨t,by rw [<- Nat.add_assoc,qg3 e,h]⟩
theorem qel (eh:Nat->E3) (kd pr:Int) (n:Nat):(valL eh kd pr n).length=cnt eh kd pr n:=by simp [valL,cnt]
theorem qty {eh:Nat->E3} {kd pr:Int} {n:Nat} (h:∀ i,i<n->numB (eh i).v=true):allN (valL eh kd pr n)=true:=by
 rw [allN,List.all_eq_true]
 intro v hv
 simp only [valL,List.mem_map] at hv
 obtain ⟨i,hi,rfl⟩:=hv
 obtain ⟨j,hj⟩:=List.mem_iff_getElem?.1 hi
 exact h i (qjm eh kd pr n j i hj).1
theorem qn8 (l:List Int):∀ n,n<=l.length->numL (itL l) n=l.take n
 | 0,_=>by simp [numL]
 | n+1,h=>by
  rw [qfj (by rfl),qn8 l n (by omega),List.take_add_one,List.getElem?_eq_getElem (by omega)]
  simp [itL,zi,List.getD_eq_getElem?_getD,List.getElem?_eq_getElem (show n<l.length by omega)]
theorem qun {y:Sy} {d:Nat->Nat} (hO:y.Ok) (_hd:∀ p,p<y.pn->d p<=y.hL p) (hw:y.Wh d) {d':Nat->Nat} (h:y.hs.Put d'):(y.ah d).Put (fun p=>min (d' p) (d p)):=by
 induction h with
 | start=>
  have e:(fun p=>min 0 (d p))=fun _=>0:=funext fun p=>by omega
  show (y.ah d).Put (fun p=>min 0 (d p))
  rw [e]
  exact .start
 | @next d' p hput hp hc ih=>
  have hp':p<y.pn:=hp
  by_cases hlt:d' p<d p
  ·have e:(fun i=>min (up d' p i) (d i))=up (fun i=>min (d' i) (d i)) p:=funext fun i=>by
    by_cases ei:i=p
    ·subst ei
     rw [qcd,qcd]
     omega
    ·rw [up_other ei,up_other ei]
   rw [e]
   have em:min (d' p) (d p)=d' p:=by omega
   refine .next ih hp ⟨by show min (d' p) (d p)<d p;omega,fun hk=>?_⟩
   have hk:(y.hH p (min (d' p) (d p))).k=3:=hk
   show cnt (y.hH p) 3 (y.hH p (min (d' p) (d p))).q (min (d' p) (d p))<cnt (y.hH (y.hH p (min (d' p) (d p))).q.toNat) 2 p (min (d' (y.hH p (min (d' p) (d p))).q.toNat) (d (y.hH p (min (d' p) (d p))).q.toNat))
   rw [em] at hk ⊢
   have h1:d' p<y.hL p:=hc.1
   have hq:=hO.evq hp' h1
   have h2:cnt (y.hH p) 3 (y.hH p (d' p)).q (d' p)<cnt (y.hH (y.hH p (d' p)).q.toNat) 2 p (d' (y.hH p (d' p)).q.toNat):=hc.2 hk
   have h3:=hw (y.hH p (d' p)).q.toNat (by omega) p hp'
   unfold tN sN at h3
   rw [show (((y.hH p (d' p)).q.toNat:Nat):Int)=(y.hH p (d' p)).q by omega] at h3
   have hh:hitB (y.hH p) 3 (y.hH p (d' p)).q (d' p)=true:=qcx.2 ⟨hk,rfl⟩
   have h4:=qfa (y.hH p) 3 (y.hH p (d' p)).q (show d' p+1<=d p from hlt)
   rw [qfz hh] at h4
   rcases Nat.le_total (d' (y.hH p (d' p)).q.toNat) (d (y.hH p (d' p)).q.toNat) with h5 | h5
   ·rw [Nat.min_eq_left h5]
    exact h2
   ·rw [Nat.min_eq_right h5]
    omega
  ·have e:(fun i=>min (up d' p i) (d i))=fun i=>min (d' i) (d i):=funext fun i=>by
    by_cases ei:i=p
    ·subst ei
     rw [qcd]
     omega
    ·rw [up_other ei]
   rw [e]
   exact ih
theorem Sy.Ok.wayOf {y:Sy} (h:y.Ok) {a b:Nat} (ha:a<y.pn) (hb:b<y.pn):cnt (y.hH b) 3 a (y.hL b)+(numL (y.wH (a*y.pn+b)) (y.wL (a*y.pn+b))).length=cnt (y.hH a) 2 b (y.hL a):=by
 have e:=congrArg List.length (h.wa a ha b hb).eq
 rw [List.length_append,qel,qel] at e
 exact e
theorem Sy.Ok.whole {y:Sy} (h:y.Ok):y.Wh y.hL:=fun a ha b hb=>by
 have:=h.wayOf ha hb
 unfold tN sN
 omega
theorem Sy.Ok.full_wf {y:Sy} (h:y.Ok) {d:Nat->Nat} (hd:∀ p,p<y.pn->d p=y.hL p):wfB (y.ah d)=true:=by
 refine qa5 fun a ha b hb=>?_
 have ha:a<y.pn:=ha
 have hb:b<y.pn:=hb
 have e:=h.wayOf ha hb
 have l:=qev (y.wH (a*y.pn+b)) (y.wL (a*y.pn+b))
 have l2:=(h.wa a ha b hb).le
 show ((valL (y.hH a) 2 b (d a)).drop (cnt (y.hH b) 3 a (d b))).length<=12
 rw [List.length_drop,qel,hd a ha,hd b hb]
 omega
theorem Sy.Ok.atOk {y:Sy} {d:Nat->Nat} (h:y.Ok) (hd:∀ p,p<y.pn->d p<=y.hL p) (hw:y.Wh d) (hf:wfB (y.ah d)=true):(y.atY d).Ok:=by
 have hrp:∀ p,p<y.pn->∃ T,repO (y.pH p) (y.pL p) (y.hH p) (d p)=some T:=fun p hp=>qtc (h.rp p hp) (hd p hp)
 refine ⟨⟨h.cn.1,rfl,rfl,rfl⟩,h.pr,fun p hp=>?_,fun p hp i hi=>h.pe p hp i (zL hi (hd p hp)),fun a ha b hb=>?_,?_⟩
 ·obtain ⟨T,hT⟩:=hrp p hp
  show repO (y.pH p) (y.pL p) (y.hH p) (d p)=some (resS (repO (y.pH p) (y.pL p) (y.hH p) (d p)))
  rw [hT]
  rfl
 ·have ha:a<y.pn:=ha
  have hb:b<y.pn:=hb
  obtain ⟨e1,e2⟩:=qu9 (a:=a) hb
  have hl:(wyL (y.ah d) a b).length<=12:=qoi.1 hf a ha b hb
  have hnum:allN (valL (y.hH a) 2 b (d a))=true:=qty fun i hi=>qvs (qbi (h.rp a ha)).2.2 (zL hi (hd a ha))
  show WayP (itL (wyL (y.ah d) ((a*y.pn+b) / y.pn) ((a*y.pn+b) % y.pn))) (wyL (y.ah d) ((a*y.pn+b) / y.pn) ((a*y.pn+b) % y.pn)).length (valL (y.hH b) 3 a (d b)) (valL (y.hH a) 2 b (d a))
  rw [e1,e2]
  refine ⟨fun j _=>?_,hl,?_⟩
  ·have hv:numB (zi (wyL (y.ah d) a b) j)=true:=by
    show numB (zi ((valL (y.hH a) 2 b (d a)).drop (cnt (y.hH b) 3 a (d b))) j)=true
    rw [qno]
    exact qm1 hnum _
   simp [qb9,itL,hv]
  ·rw [qn8 _ _ (Nat.le_refl _),List.take_length]
   show valL (y.hH b) 3 a (d b) ++ (valL (y.hH a) 2 b (d a)).drop (cnt (y.hH b) 3 a (d b))=valL (y.hH a) 2 b (d a)
   obtain ⟨t1,h1⟩:=qj6 (y.hH b) 3 a (d b) (y.hL b - d b)
   obtain ⟨t2,h2⟩:=qj6 (y.hH a) 2 b (d a) (y.hL a - d a)
   rw [show d b+(y.hL b - d b)=y.hL b by have:=hd b hb;omega] at h1
   rw [show d a+(y.hL a - d a)=y.hL a by have:=hd a ha;omega] at h2
   have e:=(h.wa a ha b hb).eq
   rw [h1,h2] at e
   have hle:(valL (y.hH b) 3 a (d b)).length<=(valL (y.hH a) 2 b (d a)).length:=by
    rw [qel,qel]
    exact hw a ha b hb
   have e3:valL (y.hH b) 3 a (d b)=(valL (y.hH a) 2 b (d a)).take (valL (y.hH b) 3 a (d b)).length:=by
    have e4:=congrArg (List.take (valL (y.hH b) 3 a (d b)).length) e
    rw [List.append_assoc,List.take_left,List.take_append_of_le_length hle] at e4
    exact e4
   rw [<- qel (y.hH b) 3 a (d b)]
   conv=>lhs;lhs;rw [e3]
   exact List.take_append_drop _ _
 ·obtain ⟨dA,hA,hall⟩:=h.ro
  refine ⟨_,qun h hd hw hA,fun p hp=>?_⟩
  have:=hall p hp
  have h1:dA p=y.hL p:=this
  have h2:=hd p hp
  show min (dA p) (d p)=d p
  omega
theorem qp9 {y:Sy} {p k:Int} (h:bkC y p k=0):y.Ok/\bkIn y p k=true/\(bkY y p k).Ok/\bkY y p k=y.atY (cN (bkE y p k))/\(∀ q,q<y.pn->cN (bkE y p k) q<=y.hL q)/\y.Wh (cN (bkE y p k)):=by
 unfold bkC at h
 by_cases ho:y.okB=true
 ·rw [if_pos ho] at h
  by_cases hb:bkIn y p k=true
  ·rw [if_pos hb] at h
   by_cases hw:wfB (y.ah (cN (bkE y p k)))=true
   ·have hO:=Sy.ok_of ho
    have hc:=qet hO hb
    have hd:∀ q,q<y.pn->cN (bkE y p k) q<=y.hL q:=fun q hq=>(qhe hc).leN hq
    have e:bkY y p k=y.atY (cN (bkE y p k)):=by
     unfold bkY
     rw [if_pos ho,if_pos hb,if_pos hw]
    exact ⟨hO,hb,by rw [e];exact hO.atOk hd (qe8 hc).2 hw,e,hd,(qe8 hc).2⟩
   ·rw [if_neg hw] at h
    cases h
  ·rw [if_neg hb] at h
   cases h
 ·rw [if_neg ho] at h
  cases h
theorem Sy.Wh.congr {y:Sy} {c d:Nat->Nat} (h:y.Wh c) (e:∀ p,p<y.pn->d p=c p):y.Wh d:=fun a ha b hb=>by
 have:=h a ha b hb
 unfold tN sN at *
 rw [e a ha,e b hb]
 exact this
theorem qnq {y:Sy} (hO:y.Ok) {P:Nat} (hP:P<y.pn):bkC y P (y.hL P)=0/\bkY y P (y.hL P)=y.atY (cN (flT y y.hn))/\∀ p,p<y.pn->cN (flT y y.hn) p=y.hL p/\(bkY y P (y.hL P)).sS p=y.sS p:=by
 have hh:=hO.cn.2.2.1
 have hz:∀ p,p<y.pn->cN (flT y y.hn) p=y.hL p:=fun p hp=>by
  unfold cN
  rw [qly (by omega)]
  omega
 have hl:bkL y P (y.hL P)=flT y y.hn:=by
  unfold bkL
  refine qnu (by rw [List.length_set]) fun p hp=>?_
  show zi ((flT y y.hn).set P (y.hL P)) p=zi (flT y y.hn) p
  rw [qlz (by rw [qcj];omega)]
  by_cases e:p=P
  ·rw [if_pos e,e,qly (by omega)]
  ·rw [if_neg e]
 have hc:y.Cut (flT y y.hn):=by
  rw [<- hl]
  exact qp8 hO (by omega) (Int.le_refl _)
 have he:bkE y P (y.hL P)=flT y y.hn:=by
  unfold bkE
  rw [Int.toNat_natCast,hl]
  exact qit (qhi hO hc) (Sy.Cl.start hc) (hO.whole.congr hz)
 have hin:bkIn y P (y.hL P)=true:=by
  simp only [bkIn,belB,inB,Bool.and_eq_true,decide_eq_true_eq,Int.toNat_natCast]
  omega
 have hwf:wfB (y.ah (cN (bkE y P (y.hL P))))=true:=by
  rw [he]
  exact hO.full_wf hz
 have e0:bkC y P (y.hL P)=0:=by
  unfold bkC
  rw [if_pos (Sy.okB_true hO),if_pos hin,if_pos hwf]
 have e1:bkY y P (y.hL P)=y.atY (cN (flT y y.hn)):=by
  rw [(qp9 e0).2.2.2.1,he]
 refine ⟨e0,e1,fun p hp=>⟨hz p hp,?_⟩⟩
 rw [e1]
 show resS (repO (y.pH p) (y.pL p) (y.hH p) (cN (flT y y.hn) p))=y.sS p
 rw [hz p hp,hO.rp p hp]
 rfl
theorem qui {y:Sy} (hO:y.Ok) {P:Nat} (hP:P<y.pn) (k:Int) {q:Nat} (hq:q<y.pn):zi (bkL y P k) q=if q=P then k else (y.hL q:Int):=by
 have hh:=hO.cn.2.2.1
 unfold bkL
 rw [qlz (by rw [qcj];omega),qly (by omega)]
theorem qvr {y:Sy} (_hO:y.Ok) {d:Nat->Nat} (h:y.hs.Put d):y.Wh d:=by
 induction h with
 | start=>exact fun a _ b _=>Nat.zero_le _
 | @next d p hput hp hc ih=>
  intro a ha b hb
  have h0:=ih a ha b hb
  unfold tN sN at *
  have hs : cnt (y.hH a) 2 b (d a) ≤ cnt (y.hH a) 2 b (up d p a) := qfa _ _ _ (by
   by_cases e:a=p
   ·subst e
    rw [qcd]
    omega
   ·rw [up_other e]
    exact Nat.le_refl _)
  by_cases e:b=p
  ·subst e
   rw [qcd]
   rcases zK (hitB (y.hH b) 3 a (d b)) with t | t
   ·rw [qfz t]
    obtain ⟨t1,t2⟩:=qcx.1 t
    have h1:cnt (y.hH b) 3 (y.hH b (d b)).q (d b)<cnt (y.hH (y.hH b (d b)).q.toNat) 2 b (d (y.hH b (d b)).q.toNat):=hc.2 t1
    rw [t2,Int.toNat_natCast] at h1
    omega
   ·rw [qiv t]
    omega
  ·rw [up_other e]
   omega
theorem Hs.Put.upto {x:Hs} {d:Nat->Nat} (h:x.Put d):∀ p i,i<=d p->∃ d',x.Put d'/\d' p=i:=by
 induction h with
 | start=>
  intro p i hi
  have hi:i<=0:=hi
  exact ⟨_,.start,(Nat.le_zero.1 hi).symm⟩
 | @next d p0 hput hp0 hc ih=>
  intro p i hi
  by_cases e:i<=d p
  ·exact ih p i e
  ·refine ⟨_,.next hput hp0 hc,?_⟩
   by_cases ep:p=p0
   ·subst ep
    rw [qcd] at hi ⊢
    omega
   ·rw [up_other ep] at hi
    exact absurd hi e
theorem qo1 {y:Sy} {P:Nat} {k:Int} (h:bkC y P k=0):((bkY y P k).hL P:Int)=k:=by
 obtain ⟨hO,hb,-,ht,-,-⟩:=qp9 h
 obtain ⟨P',e,hP,k0,k1⟩:=qfy hb
 obtain rfl:P=P':=by omega
 have hc:=qet hO hb
 rw [Int.toNat_natCast] at hc
 have s:=(qe8 hc).1
 obtain ⟨dA,hA,hall⟩:=hO.ro
 have h1:dA P=y.hL P:=hall P hP
 obtain ⟨d,hd,ed⟩:=hA.upto P k.toNat (by omega)
 have hle:=hd.le
 have g := s.gr d (fun q hq => by
  rw [qui hO hP k hq]
  have h2:d q<=y.hL q:=hle q
  by_cases eq:q=P
  ·rw [if_pos eq,eq,ed]
   omega
  ·rw [if_neg eq]
   omega) (qvr hO hd) P hP
 have u:=(s.le P hP)
 rw [qui hO hP k hP,if_pos rfl] at u
 rw [ed] at g
 rw [ht]
 show (((zi (bkE y P k) P).toNat:Nat):Int)=k
 have e2:zi (bkE y P k) P=zi (clS y (bkL y P k)) P:=by
  unfold bkE
  rw [Int.toNat_natCast]
 rw [e2]
 omega
def boK (y:Sy) (p:Int):Int:=if belB p y.hn=true then (y.hL p.toNat:Int) - 1 else 0
noncomputable def boC (y:Sy) (p:Int):Int:=bkC y p (boK y p)
noncomputable def boY (y:Sy) (p:Int):Sy:=bkY y p (boK y p)
theorem quk {y:Sy} {p:Int} (h:belB p y.hn=false):bkC y p (-1)=boC y p/\bkY y p (-1)=boY y p:=by
 have e:boK y p=0:=by
  unfold boK
  rw [if_neg (by rw [h];simp)]
 unfold boC boY
 rw [e]
 by_cases ho:y.okB=true
 ·have hn:=(Sy.ok_of ho).cn.2.2.1
  have hi:∀ k,bkIn y p k=false:=fun k=>by
   unfold bkIn
   rw [<- hn,h]
   rfl
  unfold bkC bkY
  rw [if_pos ho,if_pos ho,if_pos ho,if_pos ho,if_neg (by rw [hi];simp),if_neg (by rw [hi];simp),if_neg (by rw [hi];simp),if_neg (by rw [hi];simp)]
  exact ⟨rfl,rfl⟩
 ·unfold bkC bkY
  rw [if_neg ho,if_neg ho,if_neg ho,if_neg ho]
  exact ⟨rfl,rfl⟩
theorem qqa {y:Sy} {P:Nat} (h:P<y.hn):boK y (P:Int)=(y.hL P:Int) - 1:=by
 unfold boK
 rw [if_pos (by simp [belB];omega),Int.toNat_natCast]
open Go.ChangeShapes Go.WideShapes Go.ChangeAt
theorem qhk {zb:Bool} (x:SysIn) (p:Int) (w:World) (hG:SysG w x) (hL:x.Len) (hcap:∀ i,i<x.hn->x.hL i<=x.hC i) (hN:x.Nn zb) (hV:w.cell? ⟨0,0,none⟩=some (.iface 160 (.agg #[.pointer (some ⟨1,116,none⟩)]))):
  Calls Tryz.prog 7 #[x.v,.int .i64 p] w fun e w'=>∃ v,e=.returned (.tuple #[v,.int .i64 (boC x.y p)])/\qae zb w' w.heap.size (boY x.y p) v/\Bw w w':=by
 have HG:Hid (SysG w x):=hG
 have hhn:(x.hn:Int)<=1048576:=by have:=hL.h.1;omega
 have HHL:Hid (∀ i,i<x.hn->x.hL i<=1048576):=hL.h.2
 have HBk:Hid (∀ k wx,Bw w wx->Calls Tryz.prog 10 #[x.v,.int .i64 p,.int .i64 k] wx fun e w'=>∃ v,e=.returned (.tuple #[v,.int .i64 (bkC x.y p k)])/\qae zb w' wx.heap.size (bkY x.y p k) v/\Bw wx w'):=fun k wx hb=>qgp x p k wx (hG.below hb) hL hcap hN ((hb.cell (p:=⟨0,0,none⟩) (zJ w _ hV)).trans hV)
 have BW:Hid (Bw w ((w.alloc (x.oX)).alloc (zQ3))):=(zQ _ _).trans ((zQ _ _).mono (by simp))
 have NB:Hid (x.bX ((w.alloc (x.oX)).alloc (zQ3)) w.heap.size):=(BoxC.new w _ _ _ _ _).below (zQ _ _)
 have RB:Hid (BoxC ((w.alloc (x.oX)).alloc (zQ3)) (w.heap.size+1) (.slice none 0 0) (.slice none 0 0) (.slice none 0 0) (.slice none 0 0)/\∀ j,((w.alloc (x.oX)).alloc (zQ3)).frozen? ⟨w.heap.size+1,j,none⟩=false):=⟨⟨zW _ _ _ 0 (by simp),zW _ _ _ 1 (by simp),zW _ _ _ 2 (by simp),zW _ _ _ 3 (by simp)⟩,fun j=>yB _ _ _ _ (by simp)⟩
 have hM:w.heap.size<=w.heap.size+1:=Nat.le_succ _
 clear hG hL hcap hN hV
 go_enter Tryz.func7,Tryz.ntmps7
 go_upto_region 1 with fail
 generalize (w.alloc (x.oX)).alloc (zQ3)=W2 at *
 have LR:Hid (w.heap.size+1<W2.heap.size):=zJ _ _ RB.out.1.1
 have l1:=LR.out
 obtain ⟨b0,b1,b2,b3⟩:=NB.out
 by_cases hb:belB p x.hn=true
 case neg=>
  have hbf:belB p x.hn=false:=by
   cases h:belB p x.hn with
   | false=>rfl
   | true=>exact absurd h hb
  obtain ⟨C,hC⟩:∃ C,bkC x.y p 0=C:=⟨_,rfl⟩
  obtain ⟨Y,hY⟩:∃ Y,bkY x.y p 0=Y:=⟨_,rfl⟩
  have HV:Hid (boC x.y p=C/\boY x.y p=Y):=by
   have e:boK x.y p=0:=if_neg (by rw [show belB p x.y.hn=false from hbf];simp)
   unfold boC boY
   rw [e]
   exact ⟨hC,hY⟩
  have HB2:=HBk.out 0 W2 BW.out
  rw [hC,hY] at HB2
  have HB3:Hid (Calls Tryz.prog 10 #[x.v,.int .i64 p,.int .i64 0] W2 fun e w'=>∃ v,e=.returned (.tuple #[v,.int .i64 C])/\qae zb w' W2.heap.size Y v/\Bw W2 w'):=HB2
  clear HB2 hC hY HBk
  go_wp2_with fail
  refine (isBelow_any _ _ _).mono ?_
  rintro e w' ⟨rfl,hw⟩
  have hw2:=hw.symm
  subst hw2
  clear hw
  rw [hbf]
  clear hb hbf
  go_wp2_with fail
  refine HB3.out.mono ?_
  rintro e w3 ⟨v3,rfl,o3,q3⟩
  obtain ⟨cq,vp,vs,vw,vh,up,us,uw,uh,rfl,o3⟩:=o3
  obtain ⟨pa,pc,rfl⟩:=zU o3.p.row
  obtain ⟨sa,sc,rfl⟩:=zU o3.s.row
  obtain ⟨wa,wc,rfl⟩:=zU o3.t.row
  obtain ⟨ha,hc,rfl⟩:=zU o3.h.row
  have F3:Hid (qae zb w3 W2.heap.size Y (.agg #[.slice pa Y.pn pc,.slice sa Y.sn sc,.slice wa Y.wn wc,.slice ha Y.hn hc])/\Bw W2 w3):=⟨⟨_,_,_,_,_,_,_,_,_,rfl,o3⟩,q3⟩
  obtain ⟨r0,r1,r2,r3⟩:=RB.out.1.below q3
  have rf:∀ j,w3.frozen? ⟨w.heap.size+1,j,none⟩=false:=fun j=>((qah q3).2 _ j l1).trans (RB.out.2 j)
  have l3:w.heap.size+1<w3.heap.size:=zL l1 q3.size
  clear o3 q3 b0 b1 b2 b3
  go_wp2
  exact bodyPost_ret (v := .tuple #[.agg #[.slice pa Y.pn pc, .slice sa Y.sn sc, .slice wa Y.wn wc, .slice ha Y.hn hc], .int .i64 C]) (by simp [results, Tryz.results7, go_sem, r0, r1, r2, r3]) rfl ⟨_, by rw [HV.out.1], by
   rw [HV.out.2]
   exact ((((F3.out.1.setBelow l1 0 _).setBelow l1 1 _).setBelow l1 2 _).setBelow l1 3 _).base BW.out.size,(((((BW.out.trans (F3.out.2.mono BW.out.size))).setCell hM _).setCell hM _).setCell hM _).setCell hM _⟩
 obtain ⟨P,rfl,hP⟩:∃ P:Nat,p=P/\P<x.hn:=by
  simp only [belB,decide_eq_true_eq] at hb
  exact ⟨p.toNat,by omega,by omega⟩
 have hP':(P:Int)<(x.hn:Int):=by omega
 have nP:¬ (x.hn:Int)<=(P:Int):=by omega
 have hl1:x.hL P<=1048576:=HHL.out P hP
 obtain ⟨kk,hkk⟩:∃ kk:Int,(x.hL P:Int) - 1=kk:=⟨_,rfl⟩
 have hkb:-1<=kk/\kk<=1048576:=by omega
 obtain ⟨C,hC⟩:∃ C,bkC x.y (P:Int) kk=C:=⟨_,rfl⟩
 obtain ⟨Y,hY⟩:∃ Y,bkY x.y (P:Int) kk=Y:=⟨_,rfl⟩
 have HV:Hid (boC x.y (P:Int)=C/\boY x.y (P:Int)=Y):=by
  have e:boK x.y (P:Int)=kk:=(qqa (y:=x.y) hP).trans hkk
  unfold boC boY
  rw [e]
  exact ⟨hC,hY⟩
 have HB3:Hid (∀ wx,Bw w wx->Calls Tryz.prog 10 #[x.v,.int .i64 (P:Int),.int .i64 kk] wx fun e w'=>∃ v,e=.returned (.tuple #[v,.int .i64 C])/\qae zb w' wx.heap.size Y v/\Bw wx w'):=fun wx hb=>by
  have h:=HBk.out kk wx hb
  rw [hC,hY] at h
  exact h
 clear hC hY HBk
 obtain ⟨bh,oh,eh,ch0⟩:=HG.out.h.at hP
 have HEH:Hid (x.ha=some (aQ bh oh)):=eh
 clear eh
 have lbh:bh<w.heap.size:=zJ _ _ ch0
 have ch:=(BW.out.cell (p:=⟨bh,oh+P,none⟩) lbh).trans ch0
 go_wp2_with fail
 refine (isBelow_any _ _ _).mono ?_
 rintro e w' ⟨rfl,hw⟩
 have hw2:=hw.symm
 subst hw2
 clear hw
 rw [hb]
 clear hb
 go_upto_region 3 with fail
 have q0:Bw W2 W2.drew:=(Below.refl W2.heap.size W2).drew
 have HST:∀ wx,Below (w.heap.size+1) W2 wx->x.bX wx w.heap.size/\wx.cell? ⟨bh,oh+P,none⟩=some (.slice (x.hA P) (x.hL P) (x.hC P)):=fun wx hb=>⟨NB.out.belowB hb (Nat.lt_succ_self _),(hb.cell (p:=⟨bh,oh+P,none⟩) (Nat.lt_succ_of_lt lbh)).trans ch⟩
 refine qam (fun w'=>x.bX w' w.heap.size/\w'.cell? ⟨bh,oh+P,none⟩=some (.slice (x.hA P) (x.hL P) (x.hC P))) (fun i=>i == 12) (by kernel_rfl) ?_
 have hHeld:(fun w':World=>x.bX w' w.heap.size/\w'.cell? ⟨bh,oh+P,none⟩=some (.slice (x.hA P) (x.hL P) (x.hC P))) W2.drew:=HST _ (q0.mono (Nat.le_of_lt l1))
 refine qab 0 rfl hHeld ?_
 apply Exists.intro
 refine ⟨fun wq hSw=>?_,?_⟩
 ·obtain ⟨⟨h0,h1,h2,h3⟩,h4⟩:=hSw
  go_simp
  try with_reducible rfl
 (try simp only [Act.put,zD,zE,zF])
 refine qab 1 rfl hHeld ?_
 apply Exists.intro
 refine ⟨fun wq hSw=>?_,?_⟩
 ·obtain ⟨⟨h0,h1,h2,h3⟩,h4⟩:=hSw
  go_simp
  try with_reducible rfl
 (try simp only [Act.put,zD,zE,zF])
 refine qab 2 rfl hHeld ?_
 apply Exists.intro
 refine ⟨fun wq hSw=>?_,?_⟩
 ·obtain ⟨⟨h0,h1,h2,h3⟩,h4⟩:=hSw
  go_simp
  try with_reducible rfl
 (try simp only [Act.put,zD,zE,zF])
 refine qab 3 rfl hHeld ?_
 apply Exists.intro
 refine ⟨fun wq hSw=>?_,?_⟩
 ·obtain ⟨⟨h0,h1,h2,h3⟩,h4⟩:=hSw
  rw [HEH.out] at h3
  go_simp
  try with_reducible rfl
 (try simp only [Act.put,zD,zE,zF])
 refine qab 4 rfl hHeld ?_
 apply Exists.intro
 refine ⟨fun wq hSw=>?_,?_⟩
 ·obtain ⟨⟨h0,h1,h2,h3⟩,h4⟩:=hSw
  go_simp
  try with_reducible rfl
 (try simp only [Act.put,zD,zE,zF])
 refine qab 5 rfl hHeld ?_
 apply Exists.intro
 refine ⟨fun wq hSw=>?_,?_⟩
 ·obtain ⟨⟨h0,h1,h2,h3⟩,h4⟩:=hSw
  go_simp
  try with_reducible rfl
 (try simp only [Act.put,zD,zE,zF])
 refine qab 6 rfl hHeld ?_
 apply Exists.intro
 refine ⟨fun wq hSw=>?_,?_⟩
 ·obtain ⟨⟨h0,h1,h2,h3⟩,h4⟩:=hSw
  go_simp
  try with_reducible rfl
 (try simp only [Act.put,zD,zE,zF])
 refine qab 7 rfl hHeld ?_
 apply Exists.intro
 refine ⟨fun wq hSw=>?_,?_⟩
 ·obtain ⟨⟨h0,h1,h2,h3⟩,h4⟩:=hSw
  go_simp
  try with_reducible rfl
 (try simp only [Act.put,zD,zE,zF])
 refine qab 8 rfl hHeld ⟨.int .i64 kk,fun wq _=>?_,?_⟩
 ·go_simp
  try (rw [IntKind.wrap_i64];omega)
 (try simp only [Act.put,zD,zE,zF])
 refine qaa 9 rfl (by kernel_rfl) (fun K hK=>?_)
 refine qaf rfl 10 _ _ rfl #[x.v,.int .i64 (P:Int),.int .i64 kk] (by simp [Act.eval,SysIn.v,sysV]) (yA Tryz.func10 (by kernel_rfl) rfl) (HB3.out W2.drew (BW.out.trans (q0.mono BW.out.size))) ?_
 rintro e w3 ⟨v3,rfl,o3,d3⟩
 have q3:Bw W2 w3:=q0.trans (d3.mono q0.size)
 obtain ⟨cq,vp,vs,vw,vh,up,us,uw,uh,rfl,o3⟩:=o3
 obtain ⟨pa,pc,rfl⟩:=zU o3.p.row
 obtain ⟨sa,sc,rfl⟩:=zU o3.s.row
 obtain ⟨wa,wc,rfl⟩:=zU o3.t.row
 obtain ⟨ha,hc,rfl⟩:=zU o3.h.row
 refine ⟨_,rfl,?_⟩
 refine hK.out _ _ (fun _=>HST _ (q3.mono (Nat.le_of_lt l1))) ?_
 clear hHeld hK K
 have hHeld:(fun w':World=>x.bX w' w.heap.size/\w'.cell? ⟨bh,oh+P,none⟩=some (.slice (x.hA P) (x.hL P) (x.hC P))) w3:=HST _ (q3.mono (Nat.le_of_lt l1))
 (try simp only [Act.put,zD,zE,zF])
 refine wpGT_of [10,11] ?_
 iterate 2 (refine wpGT_take rfl hHeld ?_;apply Exists.intro;refine ⟨fun wq hSw=>?_,?_⟩;(· ((try dsimp only at hSw);go_simp;try with_reducible rfl));(try simp only [Act.put,zD,zE,zF]))
 refine wpGT_nil ?_
 have F3:Hid (qae zb w3 W2.drew.heap.size Y (.agg #[.slice pa Y.pn pc,.slice sa Y.sn sc,.slice wa Y.wn wc,.slice ha Y.hn hc])/\Bw W2 w3):=⟨⟨_,_,_,_,_,_,_,_,_,rfl,o3⟩,q3⟩
 obtain ⟨r0,r1,r2,r3⟩:=RB.out.1.below q3
 have rf:∀ j,w3.frozen? ⟨w.heap.size+1,j,none⟩=false:=fun j=>((qah q3).2 _ j l1).trans (RB.out.2 j)
 have l3:w.heap.size+1<w3.heap.size:=zL l1 q3.size
 refine qaa 12 rfl (by kernel_rfl) (fun K hK=>?_)
 go_simp
 refine hK.out _ _ (fun h=>?_) ?_
 ·exact absurd h (by decide)
 clear hK K hHeld
 (try simp only [Act.put,zD,zE,zF])
 refine qaa 13 rfl (by kernel_rfl) (fun K hK=>?_)
 go_simp
 refine hK.out _ _ (fun _=>?_) ?_
 ·exact HST _ (((((q3.mono (Nat.le_of_lt l1)).setCell (Nat.le_refl _) _).setCell (Nat.le_refl _) _).setCell (Nat.le_refl _) _).setCell (Nat.le_refl _) _)
 clear hK K o3 d3 q3 HST
 (try simp only [Act.put,zD,zE,zF])
 refine qar (by kernel_rfl) ?_ _
 go_wp2
 exact bodyPost_ret (v := .tuple #[.agg #[.slice pa Y.pn pc, .slice sa Y.sn sc, .slice wa Y.wn wc, .slice ha Y.hn hc], .int .i64 C]) (by simp [results, Tryz.results7, go_sem, r0, r1, r2, r3]) rfl ⟨_, by rw [HV.out.1], by
  rw [HV.out.2]
  exact ((((F3.out.1.setBelow (show w.heap.size+1<W2.drew.heap.size from l1) 0 _).setBelow (show w.heap.size+1<W2.drew.heap.size from l1) 1 _).setBelow (show w.heap.size+1<W2.drew.heap.size from l1) 2 _).setBelow (show w.heap.size+1<W2.drew.heap.size from l1) 3 _).base BW.out.size,(((((BW.out.trans (F3.out.2.mono BW.out.size))).setCell hM _).setCell hM _).setCell hM _).setCell hM _⟩
theorem qlm (x:SysIn) (p k:Int) (w:World) (hG:SysG w x) (hL:x.Len) (hcap:∀ i,i<x.hn->x.hL i<=x.hC i):
  Calls Tryz.prog 26 #[x.v,.int .i64 p,.int .i64 k] w fun e w'=>∃ v,e=.returned (.tuple #[v,.int .i64 (bkC x.y p k)])/\qae false w' w.heap.size (bkY x.y p k) v/\Bw w w':=by
 have HG:Hid (SysG w x):=hG
 have HLn:Hid (x.hn<=1048576/\x.pn<=1048576/\∀ i,i<x.hn->x.hL i<=1048576):=⟨hL.h.1,hL.p.1,hL.h.2⟩
 have HS:Hid (∀ wx,Bw w wx->Calls Tryz.prog 9 #[x.v] wx fun e w'=>e=.returned (.bool x.y.okB)/\Bw wx w'):=fun wx hb=>qcc x wx (hG.below hb) hL hcap
 have HC4:Hid (∀ wx,Bw w wx->Calls Tryz.prog 54 #[x.v] wx fun e w'=>∃ v,e=.returned v/\qae false w' wx.heap.size x.y v/\Bw wx w'):=fun wx hb=>(qdc x wx (hG.below hb) hL).mono fun e w' h=>by
  obtain ⟨v,e,o,b⟩:=h
  exact ⟨v,e,o.weak,b⟩
 have HFu:Hid (x.y.okB=true->∀ wx,Bw w wx->Calls Tryz.prog 48 #[x.v] wx fun e w'=>∃ u,e=.returned u/\OwnI w' wx.heap.size u (flT x.y x.hn)/\Bw wx w'):=fun _ wx hb=>qpk x wx (hG.below hb) hL
 have HCl:Hid (cutB x.y (bkL x.y p.toNat k)=true->∀ wx ca cc,Bw w wx->Sl wx ca (bkL x.y p.toNat k)->Calls Tryz.prog 42 #[x.v,.slice ca (bkL x.y p.toNat k).length cc] wx fun e w'=>∃ u,e=.returned u/\OwnI w' wx.heap.size u (bkE x.y p k)/\Bw wx w'):=fun ht wx ca cc hb hs=>qmz x ca cc _ wx (hG.below hb) hcap ht hs
 have HAt:Hid (x.y.okB=true->bkIn x.y p k=true->∀ wx ca cc,Bw w wx->Sl wx ca (bkE x.y p k)->Calls Tryz.prog 55 #[x.v,.slice ca (bkE x.y p k).length cc] wx fun e w'=>∃ v,e=.returned (.tuple #[v,.bool (wfB (x.y.ah (cN (bkE x.y p k))))])/\qae false w' wx.heap.size (x.y.atW (cN (bkE x.y p k))) v/\Bw wx w'):=fun t hb2 wx ca cc hb hs=>qs3 x ca cc (bkE x.y p k) wx (hG.below hb) hL hcap (Sy.ok_of t) (qhe (qet (Sy.ok_of t) hb2)) hs
 have BW:Hid (Bw w ((w.alloc (x.oX)).alloc (zQ3))):=(zQ _ _).trans ((zQ _ _).mono (by simp))
 have NB:Hid (x.bX ((w.alloc (x.oX)).alloc (zQ3)) w.heap.size):=(BoxC.new w _ _ _ _ _).below (zQ _ _)
 have RB:Hid (BoxC ((w.alloc (x.oX)).alloc (zQ3)) (w.heap.size+1) (.slice none 0 0) (.slice none 0 0) (.slice none 0 0) (.slice none 0 0)/\∀ j,((w.alloc (x.oX)).alloc (zQ3)).frozen? ⟨w.heap.size+1,j,none⟩=false):=⟨⟨zW _ _ _ 0 (by simp),zW _ _ _ 1 (by simp),zW _ _ _ 2 (by simp),zW _ _ _ 3 (by simp)⟩,fun j=>yB _ _ _ _ (by simp)⟩
 have hM:w.heap.size<=w.heap.size+1:=Nat.le_succ _
 clear hG hL hcap
 go_enter Tryz.func26,Tryz.ntmps26
 go_wp2_with fail
 generalize (w.alloc (x.oX)).alloc (zQ3)=W2 at *
 refine (HS.out W2 BW.out).mono ?_
 rintro e w1 ⟨rfl,q1⟩
 have B1:Hid (Bw w w1/\x.bX w1 w.heap.size/\BoxC w1 (w.heap.size+1) (.slice none 0 0) (.slice none 0 0) (.slice none 0 0) (.slice none 0 0)/\∀ j,w1.frozen? ⟨w.heap.size+1,j,none⟩=false):=⟨BW.out.trans (q1.mono BW.out.size),NB.out.below q1,RB.out.1.below q1,fun j=>((qah q1).2 _ j (zJ _ _ RB.out.1.1)).trans (RB.out.2 j)⟩
 clear q1 BW NB RB HS
 have LR:Hid (w.heap.size+1<w1.heap.size):=zJ _ _ B1.out.2.2.1.1
 have HRB:Hid (∀ wx,Bw w1 wx->x.bX wx w.heap.size/\BoxC wx (w.heap.size+1) (.slice none 0 0) (.slice none 0 0) (.slice none 0 0) (.slice none 0 0)/\(∀ j,wx.frozen? ⟨w.heap.size+1,j,none⟩=false)/\w.heap.size+1<wx.heap.size):=fun wx hb=>⟨B1.out.2.1.below hb,B1.out.2.2.1.below hb,fun j=>((qah hb).2 _ j LR.out).trans (B1.out.2.2.2 j),zL LR.out hb.size⟩
 obtain ⟨b0,b1,b2,b3⟩:=B1.out.2.1
 rcases zK x.y.okB with t | t
 case inr=>
  have HV:Hid (bkC x.y p k=1/\bkY x.y p k=x.y.nil):=⟨if_neg (by rw [t];simp),if_neg (by rw [t];simp)⟩
  obtain ⟨⟨r0,r1,r2,r3⟩,rf⟩:=B1.out.2.2
  have l1:=LR.out
  rw [t]
  clear t
  go_wp2
  exact bodyPost_ret (v:=.tuple #[sysV none 0 0 none 0 0 none 0 0 none 0 0,.int .i64 1]) (by simp [results,Tryz.results26,go_sem,r0,r1,r2,r3]) rfl ⟨_,by rw [HV.out.1],by rw [HV.out.2];exact qae.zero _ _ _,(((B1.out.1.setCell hM _).setCell hM _).setCell hM _).setCell hM _⟩
 have HO:Hid (x.y.Ok/\x.y.okB=true):=⟨Sy.ok_of t,t⟩
 have HNP:Hid (x.hn=x.pn/\x.pn<=4/\1<=x.pn):=⟨HO.out.1.cn.2.2.1,HO.out.1.cn.1.2,HO.out.1.cn.1.1⟩
 have h4:(x.pn:Int)<=4:=by have:=HNP.out;omega
 have h4h:(x.hn:Int)<=4:=by have:=HNP.out;omega
 rw [t]
 clear t
 have l1:=LR.out
 by_cases hb:belB p x.pn=true
 case neg=>
  have hbf:belB p x.pn=false:=by
   cases h:belB p x.pn with
   | false=>rfl
   | true=>exact absurd h hb
  have HV:Hid (bkC x.y p k=2/\bkY x.y p k=x.y):=by
   have hi:bkIn x.y p k=false:=by
    unfold bkIn
    rw [show belB p x.y.pn=false from hbf]
    rfl
   exact ⟨by show bkC x.y p k=2;rw [bkC,if_pos HO.out.2,if_neg (by rw [hi];simp)],by rw [bkY,if_pos HO.out.2,if_neg (by rw [hi];simp)]⟩
  have HBB:Hid (inB p 0 ((x.pn:Int) - 1)=false):=by
   show inB p 0 ((x.pn:Int) - 1)=false
   simp only [belB,inB,decide_eq_false_iff_not] at hbf ⊢;omega
  clear hb hbf
  go_wp2_with fail
  refine (l1In_any _ _ _ _).mono ?_
  rintro e w' ⟨rfl,hw⟩
  have hw2:=hw.symm
  subst hw2
  clear hw
  rw [show inB p 0 ((x.pn:Int) - 1)=false from HBB.out]
  go_wp2_with fail
  refine (HC4.out w1 B1.out.1).mono ?_
  rintro e w3 ⟨v3,rfl,o3,q3⟩
  obtain ⟨cq,vp,vs,vw,vh,up,us,uw,uh,rfl,o3⟩:=o3
  obtain ⟨pa,pc,rfl⟩:=zU o3.p.row
  obtain ⟨sa,sc,rfl⟩:=zU o3.s.row
  obtain ⟨wa,wc,rfl⟩:=zU o3.t.row
  obtain ⟨ha,hc,rfl⟩:=zU o3.h.row
  have F3:Hid (qae false w3 w1.heap.size x.y (.agg #[.slice pa x.y.pn pc,.slice sa x.y.sn sc,.slice wa x.y.wn wc,.slice ha x.y.hn hc])/\Bw w1 w3):=⟨⟨_,_,_,_,_,_,_,_,_,rfl,o3⟩,q3⟩
  obtain ⟨-,⟨r0,r1,r2,r3⟩,rf,l1⟩:=HRB.out w3 ((Below.refl w1.heap.size w1).trans (q3.mono (Below.refl w1.heap.size w1).size))
  clear o3 q3
  go_wp2
  exact bodyPost_ret (v := .tuple #[.agg #[.slice pa x.y.pn pc, .slice sa x.y.sn sc, .slice wa x.y.wn wc, .slice ha x.y.hn hc], .int .i64 2]) (by simp [results, Tryz.results26, go_sem, r0, r1, r2, r3]) rfl ⟨_, by rw [HV.out.1], by
   rw [HV.out.2]
   exact ((((F3.out.1.setBelow LR.out 0 _).setBelow LR.out 1 _).setBelow LR.out 2 _).setBelow LR.out 3 _).base B1.out.1.size,(((((B1.out.1).trans (F3.out.2.mono B1.out.1.size)).setCell hM _).setCell hM _).setCell hM _).setCell hM _⟩
 obtain ⟨P,rfl,hP⟩:∃ P:Nat,p=P/\P<x.pn:=by
  simp only [belB,decide_eq_true_eq] at hb
  exact ⟨p.toNat,by omega,by omega⟩
 have HBB:Hid (inB (P:Int) 0 ((x.pn:Int) - 1)=true):=by
  show inB (P:Int) 0 ((x.pn:Int) - 1)=true
  simp only [belB,inB,decide_eq_true_eq] at hb ⊢;omega
 clear hb
 have hPh:P<x.hn:=by have:=HNP.out;omega
 have hPh':(P:Int)<(x.hn:Int):=by omega
 have nPh:¬ (x.hn:Int)<=(P:Int):=by omega
 obtain ⟨bh,oh,eh,ch⟩:=(HG.out.below B1.out.1).h.at hPh
 rw [eh] at b3
 have HEH:Hid (x.ha=some (aQ bh oh)):=eh
 clear eh
 have hlm:x.hL P<=200:=HO.out.1.hl200 hP
 have hlm':(x.hL P:Int)<=200:=by omega
 have HLP:Hid (x.y.hL P=x.hL P):=rfl
 by_cases hk:0<=k/\k<=(x.hL P:Int)
 case neg=>
  have HV:Hid (bkC x.y (P:Int) k=2/\bkY x.y (P:Int) k=x.y):=by
   have hi:bkIn x.y (P:Int) k=false:=by
    simp only [bkIn,inB,Int.toNat_natCast,Bool.and_eq_false_iff,decide_eq_false_iff_not]
    exact .inr hk
   exact ⟨by show bkC x.y (P:Int) k=2;rw [bkC,if_pos HO.out.2,if_neg (by rw [hi];simp)],by rw [bkY,if_pos HO.out.2,if_neg (by rw [hi];simp)]⟩
  have HBK:Hid (inB k 0 (x.hL P:Int)=false):=by
   show inB k 0 (x.hL P:Int)=false
   simp only [inB,decide_eq_false_iff_not]
   exact hk
  clear hk
  go_wp2_with fail
  refine (l1In_any _ _ _ _).mono ?_
  rintro e w' ⟨rfl,hw⟩
  have hw2:=hw.symm
  subst hw2
  clear hw
  rw [show inB (P:Int) 0 ((x.pn:Int) - 1)=true from HBB.out]
  go_wp2_with fail
  refine (l1In_any _ _ _ _).mono ?_
  rintro e w' ⟨rfl,hw⟩
  have hw2:=hw.symm
  subst hw2
  clear hw
  rw [show inB k 0 (x.hL P:Int)=false from HBK.out]
  go_upto_region 4 with fail
  clear b0 b1 b2 b3 ch
  obtain ⟨b0,b1,b2,b3⟩:=B1.out.2.1
  go_wp2_with fail
  refine (HC4.out w1 B1.out.1).mono ?_
  rintro e w3 ⟨v3,rfl,o3,q3⟩
  obtain ⟨cq,vp,vs,vw,vh,up,us,uw,uh,rfl,o3⟩:=o3
  obtain ⟨pa,pc,rfl⟩:=zU o3.p.row
  obtain ⟨sa,sc,rfl⟩:=zU o3.s.row
  obtain ⟨wa,wc,rfl⟩:=zU o3.t.row
  obtain ⟨ha,hc,rfl⟩:=zU o3.h.row
  have F3:Hid (qae false w3 w1.heap.size x.y (.agg #[.slice pa x.y.pn pc,.slice sa x.y.sn sc,.slice wa x.y.wn wc,.slice ha x.y.hn hc])/\Bw w1 w3):=⟨⟨_,_,_,_,_,_,_,_,_,rfl,o3⟩,q3⟩
  obtain ⟨-,⟨r0,r1,r2,r3⟩,rf,l1⟩:=HRB.out w3 ((Below.refl w1.heap.size w1).trans (q3.mono (Below.refl w1.heap.size w1).size))
  clear o3 q3
  go_wp2
  exact bodyPost_ret (v := .tuple #[.agg #[.slice pa x.y.pn pc, .slice sa x.y.sn sc, .slice wa x.y.wn wc, .slice ha x.y.hn hc], .int .i64 2]) (by simp [results, Tryz.results26, go_sem, r0, r1, r2, r3]) rfl ⟨_, by rw [HV.out.1], by
   rw [HV.out.2]
   exact ((((F3.out.1.setBelow LR.out 0 _).setBelow LR.out 1 _).setBelow LR.out 2 _).setBelow LR.out 3 _).base B1.out.1.size,(((((B1.out.1).trans (F3.out.2.mono B1.out.1.size)).setCell hM _).setCell hM _).setCell hM _).setCell hM _⟩
 have hk0:¬ k<0:=by omega
 have hk0':0<=k:=hk.1
 have hk1:¬ (x.hL P:Int)<k:=by omega
 have hk1':k<=(x.hL P:Int):=hk.2
 have HBK:Hid (inB k 0 (x.hL P:Int)=true):=by
  show inB k 0 (x.hL P:Int)=true
  simp only [inB,decide_eq_true_eq]
  exact hk
 have HIN:Hid (bkIn x.y (P:Int) k=true):=by
  show bkIn x.y (P:Int) k=true
  simp only [bkIn,inB,belB,Int.toNat_natCast,Bool.and_eq_true,decide_eq_true_eq]
  exact ⟨by have:x.y.pn=x.pn:=rfl;omega,hk⟩
 have HBC:Hid (bkC x.y (P:Int) k=(if wfB (x.y.ah (cN (bkE x.y (P:Int) k)))=true then 0 else 3)/\bkY x.y (P:Int) k=(if wfB (x.y.ah (cN (bkE x.y (P:Int) k)))=true then x.y.atY (cN (bkE x.y (P:Int) k)) else x.y)):=⟨by show bkC x.y (P:Int) k=_;rw [bkC,if_pos HO.out.2,if_pos HIN.out],by rw [bkY,if_pos HO.out.2,if_pos HIN.out]⟩
 have HYW:Hid (x.y.atW (cN (bkE x.y (P:Int) k))=(if wfB (x.y.ah (cN (bkE x.y (P:Int) k)))=true then x.y.atY (cN (bkE x.y (P:Int) k)) else x.y.nil)):=rfl
 have HF2:Hid (∀ wx,Bw w wx->Calls Tryz.prog 48 #[x.v] wx fun e w'=>∃ u,e=.returned u/\OwnI w' wx.heap.size u (flT x.y x.hn)/\Bw wx w'):=HFu.out HO.out.2
 have HC2:Hid (∀ wx ca cc,Bw w wx->Sl wx ca (bkL x.y P k)->Calls Tryz.prog 42 #[x.v,.slice ca x.hn cc] wx fun e w'=>∃ u,e=.returned u/\OwnI w' wx.heap.size u (bkE x.y (P:Int) k)/\Bw wx w'):=fun wx ca cc hb hs=>by
  have h:=HCl.out (qet HO.out.1 HIN.out) wx ca cc hb (by rw [Int.toNat_natCast];exact hs)
  rw [show (bkL x.y ((P:Int)).toNat k).length=x.hn by unfold bkL;rw [List.length_set,qcj];rfl] at h
  exact h
 have HA2:Hid (∀ wx ca cc,Bw w wx->Sl wx ca (bkE x.y (P:Int) k)->Calls Tryz.prog 55 #[x.v,.slice ca (bkE x.y (P:Int) k).length cc] wx fun e w'=>∃ v,e=.returned (.tuple #[v,.bool (wfB (x.y.ah (cN (bkE x.y (P:Int) k))))])/\qae false w' wx.heap.size (x.y.atW (cN (bkE x.y (P:Int) k))) v/\Bw wx w'):=HAt.out HO.out.2 HIN.out
 have HFL:Hid ((flT x.y x.hn).set P k=bkL x.y P k/\(flT x.y x.hn).length=x.hn):=⟨rfl,qcj _ _⟩
 clear hk HFu HCl HAt HIN
 generalize x.y.atW (cN (bkE x.y (P:Int) k))=YW at *
 generalize wfB (x.y.ah (cN (bkE x.y (P:Int) k)))=wf at *
 generalize x.y.atY (cN (bkE x.y (P:Int) k))=YA at *
 generalize bkE x.y (P:Int) k=E at *
 generalize bkL x.y P k=Lb at *
 generalize flT x.y x.hn=fl at *
 go_wp2_with fail
 refine (l1In_any _ _ _ _).mono ?_
 rintro e w' ⟨rfl,hw⟩
 have hw2:=hw.symm
 subst hw2
 clear hw
 rw [show inB (P:Int) 0 ((x.pn:Int) - 1)=true from HBB.out]
 go_wp2_with fail
 refine (l1In_any _ _ _ _).mono ?_
 rintro e w' ⟨rfl,hw⟩
 have hw2:=hw.symm
 subst hw2
 clear hw
 rw [show inB k 0 (x.hL P:Int)=true from HBK.out]
 go_upto_region 5 with fail
 clear b0 b1 b2 b3 ch
 obtain ⟨b0,b1,b2,b3⟩:=B1.out.2.1
 go_wp2_with fail
 refine (HF2.out w1 B1.out.1).mono ?_
 rintro e w4 ⟨v4,rfl,o4,q4⟩
 obtain ⟨gf,fc,rfl,hgf,hgl⟩:=o4.block (by have:=HFL.out.2;omega)
 rw [HFL.out.2] at o4 ⊢
 have O4:Hid (OwnI w4 w1.heap.size (.slice (some (aQ gf 0)) x.hn fc) fl/\Bw w1 w4):=⟨o4,q4⟩
 have cg:w4.cell? (aQ gf P)=some (.int .i64 (zi fl P)):=by
  have o5:OwnI w4 w1.heap.size (.slice (some (aQ gf 0)) fl.length fc) fl:=by rw [HFL.out.2];exact o4
  exact o5.cell (by rw [HFL.out.2];exact hPh)
 have cf:w4.frozen? (aQ gf P)=false:=by
  have o5:OwnI w4 w1.heap.size (.slice (some (aQ gf 0)) fl.length fc) fl:=by rw [HFL.out.2];exact o4
  exact o5.frozen P
 have F4:Hid (Sl (w4.setCell (aQ gf P) (.int .i64 k)) (some (aQ gf 0)) Lb/\Bw w1 (w4.setCell (aQ gf P) (.int .i64 k))):=by
  have h:=(o4.set (n:=x.hn) HFL.out.2.symm P k)
  refine ⟨?_,q4.setCell hgf _⟩
  have hs:=h.1
  rw [HFL.out.1] at hs
  have hl:Lb.length=x.hn:=by rw [<- HFL.out.1,List.length_set,HFL.out.2]
  rw [<- hl] at hs
  exact hs.slOf
 clear o4 q4
 go_upto_region 7 with fail
 clear cg cf hgf O4 HFL
 generalize w4.setCell (aQ gf P) (.int .i64 k)=w5 at *
 clear hgl w4
 obtain ⟨⟨b0,b1,b2,b3⟩,-,-,-⟩:=HRB.out w5 F4.out.2
 go_cut [9,10] from 43 to 48 (fun s t wx=>∃ N:Nat,s=.pointer (some (aQ N 0))/\t=.bool wf/\Hid (∃ pa pc sa sc wa wc ha hc,qae false wx w1.heap.size YW (.agg #[.slice pa YW.pn pc,.slice sa YW.sn sc,.slice wa YW.wn wc,.slice ha YW.hn hc])/\Bw w1 wx/\BoxC wx N (.slice pa YW.pn pc) (.slice sa YW.sn sc) (.slice wa YW.wn wc) (.slice ha YW.hn hc)))
 case first=>
  have q0:Bw w5 w5.drew:=(Below.refl w5.heap.size w5).drew
  refine qam (fun w'=>x.bX w' w.heap.size) (fun _=>false) (by kernel_rfl) ?_
  have hB5:∀ wx,Bw w5 wx->x.bX wx w.heap.size:=fun wx hb=>BoxC.below (w:=w5) ⟨b0,b1,b2,b3⟩ hb
  have hHeld:(fun w':World=>x.bX w' w.heap.size) w5.drew:=hB5 _ q0
  have hBW:∀ wx,Bw w5 wx->Bw w wx:=fun wx hb=>(B1.out.1.trans (F4.out.2.mono B1.out.1.size)).trans (hb.mono (B1.out.1.trans (F4.out.2.mono B1.out.1.size)).size)
  refine qab 0 rfl hHeld ?_
  apply Exists.intro
  refine ⟨fun wq hSw=>?_,?_⟩
  ·obtain ⟨h0,h1,h2,h3⟩:=hSw
   go_simp
   try with_reducible rfl
  (try simp only [Act.put,zD,zE,zF])
  refine qab 1 rfl hHeld ?_
  apply Exists.intro
  refine ⟨fun wq hSw=>?_,?_⟩
  ·obtain ⟨h0,h1,h2,h3⟩:=hSw
   go_simp
   try with_reducible rfl
  (try simp only [Act.put,zD,zE,zF])
  refine qab 2 rfl hHeld ?_
  apply Exists.intro
  refine ⟨fun wq hSw=>?_,?_⟩
  ·(try dsimp only at hSw)
   go_simp
   try with_reducible rfl
  (try simp only [Act.put,zD,zE,zF])
  have sz:w1.heap.size<=w5.heap.size:=F4.out.2.size
  have lb:w.heap.size+1<w5.heap.size:=zL l1 sz
  refine qdq 3 8 rfl rfl (by kernel_rfl) (fun K hK=>?_) (fun K hK=>?_)
  ·have q0':=q0
   refine qaf rfl 42 _ _ rfl #[x.v,.slice (some (aQ gf 0)) x.hn fc] (by simp [Act.eval,SysIn.v,sysV]) (yA Tryz.func42 (by kernel_rfl) rfl) (HC2.out w5.drew _ fc (hBW _ q0') (F4.out.1.below q0')) ?_
   rintro e w6 ⟨u6,rfl,o6,d6⟩
   obtain ⟨e6,c6,rfl,s6⟩:=o6.form
   refine ⟨_,rfl,?_⟩
   have q6:Bw w5 w6:=q0'.trans (d6.mono q0'.size)
   refine hK.out _ _ (fun _=>hB5 _ q6) ?_
   clear hK K
   (try simp only [Act.put,zD,zE,zF])
   refine qdq 4 8 rfl rfl (by kernel_rfl) (fun K hK=>?_) (fun K hK=>?_)
   ·have s6':=s6
    refine qaf rfl 55 _ _ rfl #[x.v,.slice e6 E.length c6] (by simp [Act.eval,SysIn.v,sysV]) (yA Tryz.func55 (by kernel_rfl) rfl) (HA2.out w6 _ c6 (hBW _ q6) s6') ?_
    rintro e w7 ⟨v7,rfl,o7,d7⟩
    obtain ⟨cq,vp,vs,vw,vh,up,us,uw,uh,rfl,o7⟩:=o7
    obtain ⟨pa,pc,rfl⟩:=zU o7.p.row
    obtain ⟨sa,sc,rfl⟩:=zU o7.s.row
    obtain ⟨wa,wc,rfl⟩:=zU o7.t.row
    obtain ⟨ha,hc,rfl⟩:=zU o7.h.row
    have O7:qae false w7 (w6).heap.size YW (.agg #[.slice pa YW.pn pc,.slice sa YW.sn sc,.slice wa YW.wn wc,.slice ha YW.hn hc]):=⟨_,_,_,_,_,_,_,_,_,rfl,o7⟩
    refine ⟨_,rfl,?_⟩
    have q7:Bw w5 w7:=q6.trans (d7.mono q6.size)
    refine hK.out _ _ (fun _=>hB5 _ q7) ?_
    clear hK K o7
    have hHeld:(fun w':World=>x.bX w' w.heap.size) w7:=hB5 _ q7
    (try simp only [Act.put,zD,zE,zF])
    refine wpGT_of [5,6,7] ?_
    iterate 3 (refine wpGT_take rfl hHeld ?_;apply Exists.intro;refine ⟨fun wq hSw=>?_,?_⟩;(· ((try dsimp only at hSw);go_simp;try with_reducible rfl));(try simp only [Act.put,zD,zE,zF]))
    refine wpGT_nil ?_
    refine qaa 8 rfl (by kernel_rfl) (fun K hK=>?_)
    go_simp
    have qa:=q7.trans ((zQ w7 (zQ3)).mono q7.size)
    refine hK.out _ _ (fun _=>hB5 _ qa) ?_
    clear hK K hHeld
    (try simp only [Act.put,zD,zE,zF])
    refine qaa 9 rfl (by kernel_rfl) (fun K hK=>?_)
    go_simp
    have qb:=q7.trans ((zQ w7 (oQ4 pa YW.pn pc sa YW.sn sc wa YW.wn wc ha YW.hn hc)).mono q7.size)
    refine hK.out _ _ (fun _=>hB5 _ qb) ?_
    clear hK K
    have hHeld:(fun w':World=>x.bX w' w.heap.size) (w7.alloc (oQ4 pa YW.pn pc sa YW.sn sc wa YW.wn wc ha YW.hn hc)):=hB5 _ qb
    (try simp only [Act.put,zD,zE,zF])
    refine qab 10 rfl hHeld ?_
    apply Exists.intro
    refine ⟨fun wq hSw=>?_,?_⟩
    ·(try dsimp only at hSw)
     go_simp
     try with_reducible rfl
    (try simp only [Act.put,zD,zE,zF])
    refine qar (by kernel_rfl) ?_ _
    go_wp2_with fail
    go_meet
    case rel=>exact ⟨w7.heap.size,by with_reducible rfl,by with_reducible rfl,_,_,_,_,_,_,_,_,(O7.below (zQ _ _)).base (zP sz q6.size),F4.out.2.trans (qb.mono sz),BoxC.new w7 _ _ _ _ _⟩
   ·go_simp
    have qa:=q6.trans ((zQ w6 (zQ3)).mono q6.size)
    have sA:Sl (w6.alloc (zQ3)) e6 E:=s6.below (zQ _ _)
    have bN:BoxC (w6.alloc (zQ3)) w6.heap.size (.slice none 0 0) (.slice none 0 0) (.slice none 0 0) (.slice none 0 0):=BoxC.new w6 _ _ _ _ _
    have fN:∀ j,(w6.alloc (zQ3)).frozen? ⟨w6.heap.size,j,none⟩=false:=fun j=>yB _ _ _ _ rfl
    have zN:w6.heap.size<(w6.alloc (zQ3)).heap.size:=by simp
    have sN6:w5.heap.size<=w6.heap.size:=q6.size
    refine hK.out _ _ (fun _=>hB5 _ qa) ?_
    clear hK K
    (try simp only [Act.put,zD,zE,zF])
    refine qaa 4 rfl (by kernel_rfl) (fun K hK=>?_)
    generalize w6.heap.size=N at *
    generalize w6.alloc (zQ3)=wA at *
    refine qaf rfl 55 _ _ rfl #[x.v,.slice e6 E.length c6] (by simp [Act.eval,SysIn.v,sysV]) (yA Tryz.func55 (by kernel_rfl) rfl) (HA2.out wA _ c6 (hBW _ qa) sA) ?_
    rintro e w7 ⟨v7,rfl,o7,d7⟩
    obtain ⟨cq,vp,vs,vw,vh,up,us,uw,uh,rfl,o7⟩:=o7
    obtain ⟨pa,pc,rfl⟩:=zU o7.p.row
    obtain ⟨sa,sc,rfl⟩:=zU o7.s.row
    obtain ⟨wa,wc,rfl⟩:=zU o7.t.row
    obtain ⟨ha,hc,rfl⟩:=zU o7.h.row
    have O7:qae false w7 (wA).heap.size YW (.agg #[.slice pa YW.pn pc,.slice sa YW.sn sc,.slice wa YW.wn wc,.slice ha YW.hn hc]):=⟨_,_,_,_,_,_,_,_,_,rfl,o7⟩
    refine ⟨_,rfl,?_⟩
    have q7:Bw w5 w7:=qa.trans (d7.mono qa.size)
    refine hK.out _ _ (fun _=>hB5 _ q7) ?_
    clear hK K o7
    have hHeld:(fun w':World=>x.bX w' w.heap.size) w7:=hB5 _ q7
    (try simp only [Act.put,zD,zE,zF])
    refine wpGT_of [5,6,7] ?_
    iterate 3 (refine wpGT_take rfl hHeld ?_;apply Exists.intro;refine ⟨fun wq hSw=>?_,?_⟩;(· ((try dsimp only at hSw);go_simp;try with_reducible rfl));(try simp only [Act.put,zD,zE,zF]))
    refine wpGT_nil ?_
    obtain ⟨n0,n1,n2,n3⟩:=bN.below d7
    have nf:∀ j,w7.frozen? ⟨N,j,none⟩=false:=fun j=>((qah d7).2 _ j zN).trans (fN j)
    refine qaa 9 rfl (by kernel_rfl) (fun K hK=>?_)
    go_simp
    have qb:Bw w5 ((((w7.setCell (aQ N 0) (.slice pa YW.pn pc)).setCell (aQ N 1) (.slice sa YW.sn sc)).setCell (aQ N 2) (.slice wa YW.wn wc)).setCell (aQ N 3) (.slice ha YW.hn hc)):=(((q7.setCell sN6 _).setCell sN6 _).setCell sN6 _).setCell sN6 _
    refine hK.out _ _ (fun _=>hB5 _ qb) ?_
    clear hK K hHeld
    have hHeld:(fun w':World=>x.bX w' w.heap.size) ((((w7.setCell (aQ N 0) (.slice pa YW.pn pc)).setCell (aQ N 1) (.slice sa YW.sn sc)).setCell (aQ N 2) (.slice wa YW.wn wc)).setCell (aQ N 3) (.slice ha YW.hn hc)):=hB5 _ qb
    (try simp only [Act.put,zD,zE,zF])
    refine qab 10 rfl hHeld ?_
    apply Exists.intro
    refine ⟨fun wq hSw=>?_,?_⟩
    ·(try dsimp only at hSw)
     go_simp
     try with_reducible rfl
    (try simp only [Act.put,zD,zE,zF])
    refine qar (by kernel_rfl) ?_ _
    go_wp2_with fail
    go_meet
    case rel=>exact ⟨N,by with_reducible rfl,by with_reducible rfl,_,_,_,_,_,_,_,_,((((O7.setBelow zN 0 _).setBelow zN 1 _).setBelow zN 2 _).setBelow zN 3 _).base (zP sz qa.size),F4.out.2.trans (qb.mono sz),BoxC.set4 ⟨n0,n1,n2,n3⟩ _ _ _ _⟩
  ·go_simp
   have qa0:=(zQ w5 (zQ3)).drew
   have bN:BoxC (w5.alloc (zQ3)).drew w5.heap.size (.slice none 0 0) (.slice none 0 0) (.slice none 0 0) (.slice none 0 0):=(BoxC.new w5 _ _ _ _ _).below (Below.refl _ _).drew
   have fN:∀ j,(w5.alloc (zQ3)).drew.frozen? ⟨w5.heap.size,j,none⟩=false:=fun j=>(World.frozen?_drew _ _).trans (yB _ _ _ _ rfl)
   have zN:w5.heap.size<(w5.alloc (zQ3)).drew.heap.size:=by simp
   refine hK.out _ _ (fun _=>hB5 _ qa0) ?_
   clear hK K
   (try simp only [Act.put,zD,zE,zF])
   refine qaa 3 rfl (by kernel_rfl) (fun K hK=>?_)
   obtain ⟨N,hNN⟩:∃ N,N=w5.heap.size:=⟨_,rfl⟩
   have sN6:w5.heap.size<=N:=by omega
   have bN:BoxC (w5.alloc (zQ3)).drew N (.slice none 0 0) (.slice none 0 0) (.slice none 0 0) (.slice none 0 0):=by rw [hNN];exact bN
   have fN:∀ j,(w5.alloc (zQ3)).drew.frozen? ⟨N,j,none⟩=false:=by rw [hNN];exact fN
   have zN:N<(w5.alloc (zQ3)).drew.heap.size:=by rw [hNN];exact zN
   rw [<- hNN]
   clear hNN
   generalize (w5.alloc (zQ3)).drew=wC at *
   refine qaf rfl 42 _ _ rfl #[x.v,.slice (some (aQ gf 0)) x.hn fc] (by simp [Act.eval,SysIn.v,sysV]) (yA Tryz.func42 (by kernel_rfl) rfl) (HC2.out wC _ fc (hBW _ qa0) (F4.out.1.below qa0)) ?_
   rintro e w6 ⟨u6,rfl,o6,d6⟩
   obtain ⟨e6,c6,rfl,s6⟩:=o6.form
   refine ⟨_,rfl,?_⟩
   have q6:Bw w5 w6:=qa0.trans (d6.mono qa0.size)
   refine hK.out _ _ (fun _=>hB5 _ q6) ?_
   clear hK K
   (try simp only [Act.put,zD,zE,zF])
   refine qaa 4 rfl (by kernel_rfl) (fun K hK=>?_)
   have qa:=q6
   have sA:=s6
   have fN:∀ j,w6.frozen? ⟨N,j,none⟩=false:=fun j=>((qah d6).2 _ j zN).trans (fN j)
   have bN:=bN.below d6
   have zN:N<w6.heap.size:=zL zN d6.size
   refine qaf rfl 55 _ _ rfl #[x.v,.slice e6 E.length c6] (by simp [Act.eval,SysIn.v,sysV]) (yA Tryz.func55 (by kernel_rfl) rfl) (HA2.out w6 _ c6 (hBW _ qa) sA) ?_
   rintro e w7 ⟨v7,rfl,o7,d7⟩
   obtain ⟨cq,vp,vs,vw,vh,up,us,uw,uh,rfl,o7⟩:=o7
   obtain ⟨pa,pc,rfl⟩:=zU o7.p.row
   obtain ⟨sa,sc,rfl⟩:=zU o7.s.row
   obtain ⟨wa,wc,rfl⟩:=zU o7.t.row
   obtain ⟨ha,hc,rfl⟩:=zU o7.h.row
   have O7:qae false w7 (w6).heap.size YW (.agg #[.slice pa YW.pn pc,.slice sa YW.sn sc,.slice wa YW.wn wc,.slice ha YW.hn hc]):=⟨_,_,_,_,_,_,_,_,_,rfl,o7⟩
   refine ⟨_,rfl,?_⟩
   have q7:Bw w5 w7:=qa.trans (d7.mono qa.size)
   refine hK.out _ _ (fun _=>hB5 _ q7) ?_
   clear hK K o7
   have hHeld:(fun w':World=>x.bX w' w.heap.size) w7:=hB5 _ q7
   (try simp only [Act.put,zD,zE,zF])
   refine wpGT_of [5,6,7] ?_
   iterate 3 (refine wpGT_take rfl hHeld ?_;apply Exists.intro;refine ⟨fun wq hSw=>?_,?_⟩;(· ((try dsimp only at hSw);go_simp;try with_reducible rfl));(try simp only [Act.put,zD,zE,zF]))
   refine wpGT_nil ?_
   obtain ⟨n0,n1,n2,n3⟩:=bN.below d7
   have nf:∀ j,w7.frozen? ⟨N,j,none⟩=false:=fun j=>((qah d7).2 _ j zN).trans (fN j)
   refine qaa 9 rfl (by kernel_rfl) (fun K hK=>?_)
   go_simp
   have qb:Bw w5 ((((w7.setCell (aQ N 0) (.slice pa YW.pn pc)).setCell (aQ N 1) (.slice sa YW.sn sc)).setCell (aQ N 2) (.slice wa YW.wn wc)).setCell (aQ N 3) (.slice ha YW.hn hc)):=(((q7.setCell sN6 _).setCell sN6 _).setCell sN6 _).setCell sN6 _
   refine hK.out _ _ (fun _=>hB5 _ qb) ?_
   clear hK K hHeld
   have hHeld:(fun w':World=>x.bX w' w.heap.size) ((((w7.setCell (aQ N 0) (.slice pa YW.pn pc)).setCell (aQ N 1) (.slice sa YW.sn sc)).setCell (aQ N 2) (.slice wa YW.wn wc)).setCell (aQ N 3) (.slice ha YW.hn hc)):=hB5 _ qb
   (try simp only [Act.put,zD,zE,zF])
   refine qab 10 rfl hHeld ?_
   apply Exists.intro
   refine ⟨fun wq hSw=>?_,?_⟩
   ·(try dsimp only at hSw)
    go_simp
    try with_reducible rfl
   (try simp only [Act.put,zD,zE,zF])
   refine qar (by kernel_rfl) ?_ _
   go_wp2_with fail
   go_meet
   case rel=>exact ⟨N,by with_reducible rfl,by with_reducible rfl,_,_,_,_,_,_,_,_,((((O7.setBelow zN 0 _).setBelow zN 1 _).setBelow zN 2 _).setBelow zN 3 _).base (zP sz qa.size),F4.out.2.trans (qb.mono sz),BoxC.set4 ⟨n0,n1,n2,n3⟩ _ _ _ _⟩
 case rest=>
  obtain ⟨N,rfl,rfl,HT⟩:=hcut
  obtain ⟨pa,pc,sa,sc,wa,wc,ha,hc,hOw,hBe,hBx⟩:=HT.out
  rename_i w7
  have F7:Hid (qae false w7 w1.heap.size YW (.agg #[.slice pa YW.pn pc,.slice sa YW.sn sc,.slice wa YW.wn wc,.slice ha YW.hn hc])/\Bw w1 w7/\BoxC w7 N (.slice pa YW.pn pc) (.slice sa YW.sn sc) (.slice wa YW.wn wc) (.slice ha YW.hn hc)):=⟨hOw,hBe,hBx⟩
  clear hOw hBe hBx HT b0 b1 b2 b3
  cases wf with
  | false=>
   have HV:Hid (bkC x.y (P:Int) k=3/\bkY x.y (P:Int) k=x.y):=⟨by rw [HBC.out.1];rfl,by rw [HBC.out.2];rfl⟩
   obtain ⟨⟨b0,b1,b2,b3⟩,-,-,-⟩:=HRB.out w7 F7.out.2.1
   go_wp2_with fail
   refine (HC4.out w7 (B1.out.1.trans (F7.out.2.1.mono B1.out.1.size))).mono ?_
   rintro e w3 ⟨v3,rfl,o3,q3⟩
   obtain ⟨cq,vp,vs,vw,vh,up,us,uw,uh,rfl,o3⟩:=o3
   obtain ⟨pa,pc,rfl⟩:=zU o3.p.row
   obtain ⟨sa,sc,rfl⟩:=zU o3.s.row
   obtain ⟨wa,wc,rfl⟩:=zU o3.t.row
   obtain ⟨ha,hc,rfl⟩:=zU o3.h.row
   have F3:Hid (qae false w3 w7.heap.size x.y (.agg #[.slice pa x.y.pn pc,.slice sa x.y.sn sc,.slice wa x.y.wn wc,.slice ha x.y.hn hc])/\Bw w7 w3):=⟨⟨_,_,_,_,_,_,_,_,_,rfl,o3⟩,q3⟩
   obtain ⟨-,⟨r0,r1,r2,r3⟩,rf,l1⟩:=HRB.out w3 ((F7.out.2.1).trans (q3.mono (F7.out.2.1).size))
   clear o3 q3
   go_wp2
   exact bodyPost_ret (v := .tuple #[.agg #[.slice pa x.y.pn pc, .slice sa x.y.sn sc, .slice wa x.y.wn wc, .slice ha x.y.hn hc], .int .i64 3]) (by simp [results, Tryz.results26, go_sem, r0, r1, r2, r3]) rfl ⟨_, by rw [HV.out.1], by
    rw [HV.out.2]
    exact ((((F3.out.1.setBelow (zL LR.out F7.out.2.1.size) 0 _).setBelow (zL LR.out F7.out.2.1.size) 1 _).setBelow (zL LR.out F7.out.2.1.size) 2 _).setBelow (zL LR.out F7.out.2.1.size) 3 _).base (B1.out.1.trans (F7.out.2.1.mono B1.out.1.size)).size,((((((B1.out.1.trans (F7.out.2.1.mono B1.out.1.size))).trans (F3.out.2.mono (B1.out.1.trans (F7.out.2.1.mono B1.out.1.size)).size)).setCell hM _).setCell hM _).setCell hM _).setCell hM _⟩
  | true=>
   have HV:Hid (bkC x.y (P:Int) k=0/\bkY x.y (P:Int) k=YA/\YW=YA):=⟨by rw [HBC.out.1];rfl,by rw [HBC.out.2];rfl,HYW.out⟩
   obtain ⟨-,⟨r0,r1,r2,r3⟩,rf,l7⟩:=HRB.out w7 F7.out.2.1
   obtain ⟨n0,n1,n2,n3⟩:=F7.out.2.2
   have lN:N<w7.heap.size:=zJ _ _ n0
   go_wp2
   exact bodyPost_ret (v := .tuple #[.agg #[.slice pa YW.pn pc, .slice sa YW.sn sc, .slice wa YW.wn wc, .slice ha YW.hn hc], .int .i64 0]) (by simp [results, Tryz.results26, go_sem, r0, r1, r2, r3]) rfl ⟨_, by rw [HV.out.1], by
    rw [HV.out.2.1,<- HV.out.2.2]
    exact ((((F7.out.1.setBelow l1 0 _).setBelow l1 1 _).setBelow l1 2 _).setBelow l1 3 _).base B1.out.1.size,(((((B1.out.1.trans (F7.out.2.1.mono B1.out.1.size))).setCell hM _).setCell hM _).setCell hM _).setCell hM _⟩
theorem qhw (x:SysIn) (p:Int) (w:World) (hG:SysG w x) (hL:x.Len) (hcap:∀ i,i<x.hn->x.hL i<=x.hC i):
  Calls Tryz.prog 8 #[x.v,.int .i64 p] w fun e w'=>∃ v,e=.returned (.tuple #[v,.int .i64 (boC x.y p)])/\qae false w' w.heap.size (boY x.y p) v/\Bw w w':=by
 have HG:Hid (SysG w x):=hG
 have hhn:(x.hn:Int)<=1048576:=by have:=hL.h.1;omega
 have HHL:Hid (∀ i,i<x.hn->x.hL i<=1048576):=hL.h.2
 have HBk:Hid (∀ k wx,Bw w wx->Calls Tryz.prog 26 #[x.v,.int .i64 p,.int .i64 k] wx fun e w'=>∃ v,e=.returned (.tuple #[v,.int .i64 (bkC x.y p k)])/\qae false w' wx.heap.size (bkY x.y p k) v/\Bw wx w'):=fun k wx hb=>qlm x p k wx (hG.below hb) hL hcap
 have BW:Hid (Bw w ((w.alloc (x.oX)).alloc (zQ3))):=(zQ _ _).trans ((zQ _ _).mono (by simp))
 have NB:Hid (x.bX ((w.alloc (x.oX)).alloc (zQ3)) w.heap.size):=(BoxC.new w _ _ _ _ _).below (zQ _ _)
 have RB:Hid (BoxC ((w.alloc (x.oX)).alloc (zQ3)) (w.heap.size+1) (.slice none 0 0) (.slice none 0 0) (.slice none 0 0) (.slice none 0 0)/\∀ j,((w.alloc (x.oX)).alloc (zQ3)).frozen? ⟨w.heap.size+1,j,none⟩=false):=⟨⟨zW _ _ _ 0 (by simp),zW _ _ _ 1 (by simp),zW _ _ _ 2 (by simp),zW _ _ _ 3 (by simp)⟩,fun j=>yB _ _ _ _ (by simp)⟩
 have hM:w.heap.size<=w.heap.size+1:=Nat.le_succ _
 clear hG hL hcap
 go_enter Tryz.func8,Tryz.ntmps8
 go_upto_region 1 with fail
 generalize (w.alloc (x.oX)).alloc (zQ3)=W2 at *
 have LR:Hid (w.heap.size+1<W2.heap.size):=zJ _ _ RB.out.1.1
 have l1:=LR.out
 obtain ⟨b0,b1,b2,b3⟩:=NB.out
 obtain ⟨kk,C,Y,HV,HB3,hcase⟩:∃ (kk C:Int) (Y:Sy),Hid (boC x.y p=C/\boY x.y p=Y)/\Hid (∀ wx,Bw w wx->Calls Tryz.prog 26 #[x.v,.int .i64 p,.int .i64 kk] wx fun e w'=>∃ v,e=.returned (.tuple #[v,.int .i64 C])/\qae false w' wx.heap.size Y v/\Bw wx w')/\((inB p 0 ((x.hn:Int) - 1)=false/\kk = -1)\/∃ P:Nat,p=P/\P<x.hn/\inB p 0 ((x.hn:Int) - 1)=true/\kk=(x.hL P:Int) - 1):=by
  by_cases hb:belB p x.hn=true
  ·obtain ⟨P,rfl,hP⟩:∃ P:Nat,p=P/\P<x.hn:=by
    simp only [belB,decide_eq_true_eq] at hb
    exact ⟨p.toNat,by omega,by omega⟩
   have e:boK x.y (P:Int)=(x.hL P:Int) - 1:=qqa (y:=x.y) hP
   refine ⟨(x.hL P:Int) - 1,_,_,⟨rfl,rfl⟩,fun wx hbx=>?_,.inr ⟨P,rfl,hP,?_,rfl⟩⟩
   ·have h:=HBk.out ((x.hL P:Int) - 1) wx hbx
    unfold boC boY
    rw [e]
    exact h
   ·simp only [inB,decide_eq_true_eq]
    omega
  ·have hbf:belB p x.hn=false:=by
    cases h:belB p x.hn with
    | false=>rfl
    | true=>exact absurd h hb
   have e:=quk (y:=x.y) (p:=p) hbf
   refine ⟨-1,_,_,⟨rfl,rfl⟩,fun wx hbx=>?_,.inl ⟨?_,rfl⟩⟩
   ·have h:=HBk.out (-1) wx hbx
    rw [e.1,e.2] at h
    exact h
   ·simp only [belB,inB,decide_eq_false_iff_not] at hbf ⊢
    omega
 clear HBk
 rcases hcase with ⟨hin,rfl⟩ | ⟨P,rfl,hP,hin,hkk⟩
 ·go_wp2_with fail
  refine (l1In_any _ _ _ _).mono ?_
  rintro e w' ⟨rfl,hw⟩
  have hw2:=hw.symm
  subst hw2
  clear hw
  rw [hin]
  clear hin
  go_wp2_with fail
  refine (HB3.out W2 BW.out).mono ?_
  rintro e w3 ⟨v3,rfl,o3,q3⟩
  obtain ⟨cq,vp,vs,vw,vh,up,us,uw,uh,rfl,o3⟩:=o3
  obtain ⟨pa,pc,rfl⟩:=zU o3.p.row
  obtain ⟨sa,sc,rfl⟩:=zU o3.s.row
  obtain ⟨wa,wc,rfl⟩:=zU o3.t.row
  obtain ⟨ha,hc,rfl⟩:=zU o3.h.row
  have F3:Hid (qae false w3 W2.heap.size Y (.agg #[.slice pa Y.pn pc,.slice sa Y.sn sc,.slice wa Y.wn wc,.slice ha Y.hn hc])/\Bw W2 w3):=⟨⟨_,_,_,_,_,_,_,_,_,rfl,o3⟩,q3⟩
  obtain ⟨r0,r1,r2,r3⟩:=RB.out.1.below q3
  have rf:∀ j,w3.frozen? ⟨w.heap.size+1,j,none⟩=false:=fun j=>((qah q3).2 _ j l1).trans (RB.out.2 j)
  have l3:w.heap.size+1<w3.heap.size:=zL l1 q3.size
  have G3:Hid (qae false (w3.alloc (oQ4 pa Y.pn pc sa Y.sn sc wa Y.wn wc ha Y.hn hc)) W2.heap.size Y (.agg #[.slice pa Y.pn pc,.slice sa Y.sn sc,.slice wa Y.wn wc,.slice ha Y.hn hc])/\Bw W2 (w3.alloc (oQ4 pa Y.pn pc sa Y.sn sc wa Y.wn wc ha Y.hn hc))/\BoxC (w3.alloc (oQ4 pa Y.pn pc sa Y.sn sc wa Y.wn wc ha Y.hn hc)) w3.heap.size (.slice pa Y.pn pc) (.slice sa Y.sn sc) (.slice wa Y.wn wc) (.slice ha Y.hn hc)):=⟨F3.out.1.below (zQ _ _),F3.out.2.trans ((zQ _ _).mono F3.out.2.size),BoxC.new w3 _ _ _ _ _⟩
  go_upto_region 5 with fail
  clear o3 q3 b0 b1 b2 b3 r0 r1 r2 r3 rf l3 F3
  generalize w3.alloc (oQ4 pa Y.pn pc sa Y.sn sc wa Y.wn wc ha Y.hn hc)=w4 at *
  generalize w3.heap.size=N4 at *
  clear w3
  obtain ⟨r0,r1,r2,r3⟩:=RB.out.1.below G3.out.2.1
  have rf:∀ j,w4.frozen? ⟨w.heap.size+1,j,none⟩=false:=fun j=>((qah G3.out.2.1).2 _ j l1).trans (RB.out.2 j)
  obtain ⟨n0,n1,n2,n3⟩:=G3.out.2.2
  have l4:w.heap.size+1<w4.heap.size:=zL l1 G3.out.2.1.size
  go_wp2
  exact bodyPost_ret (v := .tuple #[.agg #[.slice pa Y.pn pc, .slice sa Y.sn sc, .slice wa Y.wn wc, .slice ha Y.hn hc], .int .i64 C]) (by simp [results, Tryz.results8, go_sem, r0, r1, r2, r3]) rfl ⟨_, by rw [HV.out.1], by
   rw [HV.out.2]
   exact ((((G3.out.1.setBelow l1 0 _).setBelow l1 1 _).setBelow l1 2 _).setBelow l1 3 _).base BW.out.size,(((((BW.out.trans (G3.out.2.1.mono BW.out.size))).setCell hM _).setCell hM _).setCell hM _).setCell hM _⟩
 ·have hP':(P:Int)<(x.hn:Int):=by omega
  have nP:¬ (x.hn:Int)<=(P:Int):=by omega
  have hl1:x.hL P<=1048576:=HHL.out P hP
  have hkk':(x.hL P:Int) - 1=kk:=hkk.symm
  have hkb:-1<=kk/\kk<=1048576:=by omega
  obtain ⟨bh,oh,eh,ch⟩:=(HG.out.below BW.out).h.at hP
  go_wp2_with fail
  refine (l1In_any _ _ _ _).mono ?_
  rintro e w' ⟨rfl,hw⟩
  have hw2:=hw.symm
  subst hw2
  clear hw
  rw [hin]
  clear hin
  rw [eh] at b3
  clear eh
  go_upto_region 4 with fail
  clear ch b0 b1 b2 b3 hkk
  obtain ⟨b0,b1,b2,b3⟩:=NB.out
  go_wp2_with fail
  refine (HB3.out W2 BW.out).mono ?_
  rintro e w3 ⟨v3,rfl,o3,q3⟩
  obtain ⟨cq,vp,vs,vw,vh,up,us,uw,uh,rfl,o3⟩:=o3
  obtain ⟨pa,pc,rfl⟩:=zU o3.p.row
  obtain ⟨sa,sc,rfl⟩:=zU o3.s.row
  obtain ⟨wa,wc,rfl⟩:=zU o3.t.row
  obtain ⟨ha,hc,rfl⟩:=zU o3.h.row
  have F3:Hid (qae false w3 W2.heap.size Y (.agg #[.slice pa Y.pn pc,.slice sa Y.sn sc,.slice wa Y.wn wc,.slice ha Y.hn hc])/\Bw W2 w3):=⟨⟨_,_,_,_,_,_,_,_,_,rfl,o3⟩,q3⟩
  obtain ⟨r0,r1,r2,r3⟩:=RB.out.1.below q3
  have rf:∀ j,w3.frozen? ⟨w.heap.size+1,j,none⟩=false:=fun j=>((qah q3).2 _ j l1).trans (RB.out.2 j)
  have l3:w.heap.size+1<w3.heap.size:=zL l1 q3.size
  have G3:Hid (qae false (w3.alloc (oQ4 pa Y.pn pc sa Y.sn sc wa Y.wn wc ha Y.hn hc)) W2.heap.size Y (.agg #[.slice pa Y.pn pc,.slice sa Y.sn sc,.slice wa Y.wn wc,.slice ha Y.hn hc])/\Bw W2 (w3.alloc (oQ4 pa Y.pn pc sa Y.sn sc wa Y.wn wc ha Y.hn hc))/\BoxC (w3.alloc (oQ4 pa Y.pn pc sa Y.sn sc wa Y.wn wc ha Y.hn hc)) w3.heap.size (.slice pa Y.pn pc) (.slice sa Y.sn sc) (.slice wa Y.wn wc) (.slice ha Y.hn hc)):=⟨F3.out.1.below (zQ _ _),F3.out.2.trans ((zQ _ _).mono F3.out.2.size),BoxC.new w3 _ _ _ _ _⟩
  go_upto_region 5 with fail
  clear o3 q3 b0 b1 b2 b3 r0 r1 r2 r3 rf l3 F3
  generalize w3.alloc (oQ4 pa Y.pn pc sa Y.sn sc wa Y.wn wc ha Y.hn hc)=w4 at *
  generalize w3.heap.size=N4 at *
  clear w3
  obtain ⟨r0,r1,r2,r3⟩:=RB.out.1.below G3.out.2.1
  have rf:∀ j,w4.frozen? ⟨w.heap.size+1,j,none⟩=false:=fun j=>((qah G3.out.2.1).2 _ j l1).trans (RB.out.2 j)
  obtain ⟨n0,n1,n2,n3⟩:=G3.out.2.2
  have l4:w.heap.size+1<w4.heap.size:=zL l1 G3.out.2.1.size
  go_wp2
  exact bodyPost_ret (v := .tuple #[.agg #[.slice pa Y.pn pc, .slice sa Y.sn sc, .slice wa Y.wn wc, .slice ha Y.hn hc], .int .i64 C]) (by simp [results, Tryz.results8, go_sem, r0, r1, r2, r3]) rfl ⟨_, by rw [HV.out.1], by
   rw [HV.out.2]
   exact ((((G3.out.1.setBelow l1 0 _).setBelow l1 1 _).setBelow l1 2 _).setBelow l1 3 _).base BW.out.size,(((((BW.out.trans (G3.out.2.1.mono BW.out.size))).setCell hM _).setCell hM _).setCell hM _).setCell hM _⟩
theorem EvAt.put {w:World} {g n:Nat} {E:Nat->E3} (h:EvAt w g 0 n E) (t:Nat) (z:Int):∃ E',EvAt (w.setCell (aQ g t) (.int .i64 z)) g 0 n E':=by
 have key:∀ (o:Nat) (x:Int),w.cell? ⟨g,o,none⟩=some (.int .i64 x)->(w.setCell ⟨g,t,none⟩ (.int .i64 z)).cell? ⟨g,o,none⟩=some (.int .i64 (if o=t then z else x)):=by
  intro o x hx
  by_cases e:o=t
  ·subst e
   rw [if_pos rfl]
   exact World.cell?_setCell_same _ _ _ hx
  ·rw [if_neg e]
   exact (World.cell?_setCell_other _ _ _ _ fun e'=>e (by injection e' with _ e2;exact e2.symm)).trans hx
 refine ⟨fun i=>⟨if 0+i*3=t then z else (E i).k,if 0+i*3+1=t then z else (E i).q,if 0+i*3+2=t then z else (E i).v⟩,fun i hi=>?_⟩
 obtain ⟨h0,h1,h2⟩:=h i hi
 exact ⟨key _ _ h0,key _ _ h1,key _ _ h2⟩
def qgu (E:Nat->E3):Nat->List Value
 | 0=>[]
 | n+1=>qgu E n ++ [.int .i64 (E n).k,.int .i64 (E n).q,.int .i64 (E n).v]
theorem qdw (E:Nat->E3):∀ n,(qgu E n).length=n*3
 | 0=>rfl
 | n+1=>by
  rw [qgu,List.length_append,qdw E n]
  simp
  omega
theorem qnx (E:Nat->E3):∀ n i,i<n->(qgu E n)[i*3]? = some (.int .i64 (E i).k)/\(qgu E n)[i*3+1]? = some (.int .i64 (E i).q)/\(qgu E n)[i*3+2]? = some (.int .i64 (E i).v)
 | 0,i,hi=>by omega
 | n+1,i,hi=>by
  have hl:=qdw E n
  by_cases e:i=n
  ·subst e
   rw [qgu,List.getElem?_append_right (by omega),List.getElem?_append_right (by omega),List.getElem?_append_right (by omega),hl]
   simp
  ·obtain ⟨h0,h1,h2⟩:=qnx E n i (by omega)
   rw [qgu,List.getElem?_append_left (by omega),List.getElem?_append_left (by omega),List.getElem?_append_left (by omega)]
   exact ⟨h0,h1,h2⟩
theorem EvAt.cut {w:World} {g k j:Nat} {E:Nat->E3} (h:EvAt w g 0 k E) (hj:j<k):EvAt (w.setCells g (j*3) (qgu (fun i=>E (j+1+i)) (k - (j+1)))) g 0 (j+(k - (j+1))) (fun i=>if i<j then E i else E (i+1)):=by
 intro i hi
 have hl:=qdw (fun i=>E (j+1+i)) (k - (j+1))
 by_cases e:i<j
 ·have hout:∀ t,t<j*3->(w.setCells g (j*3) (qgu (fun i=>E (j+1+i)) (k - (j+1)))).cell? ⟨g,t,none⟩=w.cell? ⟨g,t,none⟩:=fun t ht=>World.cell?_setCells_out g _ _ _ _ fun _ _=>.inl ht
  obtain ⟨h0,h1,h2⟩:=h i (by omega)
  simp only [if_pos e]
  exact ⟨(hout _ (by omega)).trans h0,(hout _ (by omega)).trans h1,(hout _ (by omega)).trans h2⟩
 ·simp only [if_neg e]
  have hall:∀ t,t<(qgu (fun i=>E (j+1+i)) (k - (j+1))).length->(w.cell? ⟨g,j*3+t,none⟩).isSome=true:=by
   intro t ht
   rw [hl] at ht
   obtain ⟨h0,h1,h2⟩:=h (j+t / 3) (by omega)
   have he:t=t / 3*3\/t=t / 3*3+1\/t=t / 3*3+2:=by omega
   rcases he with e | e | e
   ·rw [show j*3+t=0+(j+t / 3)*3 from by omega,h0];rfl
   ·rw [show j*3+t=0+(j+t / 3)*3+1 from by omega,h1];rfl
   ·rw [show j*3+t=0+(j+t / 3)*3+2 from by omega,h2];rfl
  have hin:=fun t ht=>World.cell?_setCells_in g (qgu (fun i=>E (j+1+i)) (k - (j+1))) (j*3) w hall t ht
  obtain ⟨f0,f1,f2⟩:=qnx (fun i=>E (j+1+i)) (k - (j+1)) (i - j) (by omega)
  have hE:E (j+1+(i - j))=E (i+1):=by rw [show j+1+(i - j)=i+1 from by omega]
  rw [hE] at f0 f1 f2
  refine ⟨?_,?_,?_⟩
  ·rw [show 0+i*3=j*3+(i - j)*3 from by omega,hin _ (by omega),<- f0,List.getElem?_eq_getElem (by omega)]
  ·rw [show 0+i*3+1=j*3+((i - j)*3+1) from by omega,hin _ (by omega),<- f1,List.getElem?_eq_getElem (by omega)]
  ·rw [show 0+i*3+2=j*3+((i - j)*3+2) from by omega,hin _ (by omega),<- f2,List.getElem?_eq_getElem (by omega)]
open Go.Sort
theorem qfr (a0 a1:Option Addr) (c0 c1:Nat) (xs:List Int) (w:World) (hlen:xs.length<=1048576) (h0:Sl w a0 xs) (h1:Sl w a1 xs):
  Calls Tryz.prog 19 #[.slice a0 xs.length c0,.slice a1 xs.length c1] w fun e w'=>e=.returned (.bool true)/\Bw w w':=by
 have hl':(xs.length:Int)<=1048576:=by omega
 have H0:Hid (Sl w a0 xs):=h0
 have H1:Hid (Sl w a1 xs):=h1
 clear h0 h1
 go_enter Tryz.func19,Tryz.ntmps19
 go_wp2_with fail
 go_loopw [5] (fun i wr=>∃ k:Nat,k<=xs.length/\i=.int .i64 k/\Bw w wr) (fun i _=>xs.length - (intOf i).toNat)
 case atStart=>exact ⟨0,Nat.zero_le _,rfl,Below.refl _ _⟩
 case round=>
  obtain ⟨k,hk,rfl,hbw⟩:=hrel
  by_cases hlt:k<xs.length
  ·obtain ⟨b,off,rfl,hbl,ck⟩:=(H0.out.below hbw).at hlt
   obtain ⟨b',off',rfl,hbl',ck'⟩:=(H1.out.below hbw).at hlt
   have hlt':(k:Int)<(xs.length:Int):=by omega
   go_wp2_with fail
   go_quiet (fail)
   go_wp2
   go_roundw
   case rel=>exact ⟨k+1,by omega,by go_num,yC hbw _⟩
   case measure=>simp [intOf];omega
  ·go_wp2
   go_ret
   exact ⟨rfl,hbw⟩
theorem qp7 (a0:Option Addr) (len cap:Nat) (w:World):
  Calls Tryz.prog 5 #[.slice a0 len cap] w fun e w'=>e=.returned (.bool (decide ((1048576:Int)<len)))/\w'=w:=by
 go_enter Tryz.func5,Tryz.ntmps5
 go_wp2
 go_ret
 exact ⟨rfl,rfl⟩
theorem qpo {H:Type} {enc:TypeId × Value->H} {w:World} {a0:Option Addr} {len cap:Nat} {d:DataW H} {p:List MemPlace}
  (h:DataW.Trod enc Tryz.prog w 0 (fun _=>true) true 22 (.slice a0 len cap) d p):len<=maxLen/\qb1 w w.heap.size a0 len:=by
 obtain ⟨fuel,hf⟩:=h
 rcases open_ints Tryz.underlying22 Tryz.underlying5 (by kernel_rfl) hf with ⟨hcs,_⟩ | ⟨x,l,c,zs,hcs,_,hl,hm,hz,_,hcell,hwz⟩
 ·simp [Value.cells] at hcs
  obtain ⟨_,rfl,_⟩:=hcs
  exact ⟨Nat.zero_le _,.inl rfl⟩
 ·simp [Value.cells] at hcs
  obtain ⟨rfl,rfl,rfl⟩:=hcs
  refine ⟨zP hl hm,?_⟩
  by_cases h0:len=0
  ·exact .inl h0
  right
  have hz':zs.length=cap:=by simpa using hz
  obtain ⟨b,off,rfl,hc⟩:=ints_at hcell (by omega)
  refine ⟨b,off,rfl,qul (hc 0 (by omega)),fun j hj=>⟨zs.getD j 0,hc j (by omega),?_⟩⟩
  have hmem:zs.getD j 0 ∈ zs:=by
   rw [List.getD_eq_getElem?_getD,List.getElem?_eq_getElem (by omega)]
   exact List.getElem_mem _
  exact bounds_u8 (hwz _ hmem)
theorem qh9 (p code:Int) (ra oa ra' oa':Option Addr) (rc oc rc' oc':Nat) (rs os:List Int) (w:World) (hr:rs.length<=1048576) (ho:os.length<=1048576) (h1:Sl w ra rs) (h2:Sl w oa os) (h1':Sl w ra' rs) (h2':Sl w oa' os):
  Calls Tryz.prog 37 #[stV p ra rs.length rc oa os.length oc code,stV p ra' rs.length rc' oa' os.length oc' code] w fun e w'=>e=.returned (.bool true)/\Bw w w':=by
 have H1:Hid (Sl w ra rs):=h1
 have H2:Hid (Sl w oa os):=h2
 have H1':Hid (Sl w ra' rs):=h1'
 have H2':Hid (Sl w oa' os):=h2'
 clear h1 h2 h1' h2'
 go_enter Tryz.func37,Tryz.ntmps37
 go_wp2_with fail
 refine (qfr ra ra' rc rc' rs _ hr (H1.out.below (by go_grown)) (H1'.out.below (by go_grown))).mono ?_
 rintro e w1 ⟨rfl,b1⟩
 have B1:Hid (Bw w w1):=qaj (by go_grown) b1 (by simp;omega)
 obtain ⟨hc1,hf1⟩:=qah b1
 have l0:w.heap.size<w.heap.size+1+1:=by omega
 have l1:w.heap.size+1<w.heap.size+1+1:=by omega
 have k0:w1.cell? (aQ w.heap.size 2)=some (.slice oa os.length oc):=(hc1 w.heap.size 2 (by simp;omega)).trans ((zS _ _ (by simp)).trans (zW _ _ _ 2 rfl))
 have k1:w1.cell? ⟨w.heap.size+1,2,none⟩=some (.slice oa' os.length oc'):=(hc1 (w.heap.size+1) 2 (by simp)).trans (qap _ _ _ 2 (by simp))
 clear b1 hc1 hf1
 go_wp2_with fail
 refine (qfr oa oa' oc oc' os _ ho (H2.out.below B1.out) (H2'.out.below B1.out)).mono ?_
 rintro e w2 ⟨rfl,b2⟩
 have B2:Hid (Bw w w2):=B1.out.trans (b2.mono B1.out.size)
 clear b2
 go_wp2
 go_ret
 exact ⟨rfl,B2.out⟩
