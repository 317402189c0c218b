import Derived.Test.YthgpldgkabcopaaGreatDoorYh38
namespace Go.Proofs.YthgpldgkabcopaaGreatDoor
set_option maxRecDepth 100000
set_option maxHeartbeats 8000000
open Go.RowKit Go.Deep
theorem qn2 {rs:List Int} (h:allN rs=true) (k:Nat):numB (zi rs k)=true:=by
 by_cases hk:k<rs.length
 ·exact (List.all_eq_true.1 h) _ (qtj hk)
 ·unfold zi
  rw [List.getD_eq_getElem?_getD,List.getElem?_eq_none (by omega)]
  decide
theorem qv0 {g:Nat->I5} {len:Nat} {p:Int} {rs os:List Int} {code k q v:Int} (h:doB g len p rs os code k q v=true):numB v=true:=by
 have hr:=qdi h
 have hs:qc4 len p rs os code=true:=by
  simp only [qbx,Bool.and_eq_true] at hr
  exact hr.1.2
 obtain ⟨⟨r0,r1,r2,r3,rfl,n0,n1,n2,n3⟩,-⟩:=qb3 hs
 have ha:allN [r0,r1,r2,r3]=true:=by simp [allN,n0,n1,n2,n3]
 unfold doB canB at h
 split at h
 ·simp only [Bool.and_eq_true] at h
  exact h.1.2
 ·simp only [Bool.and_eq_true,beq_iff_eq] at h
  rw [h.2.2.2,nxW,if_pos hr]
  unfold evW
  split
  ·exact qn2 ha _
  ·split
   ·exact qn2 ha _
   ·decide
theorem qw4 {g:Nat->I5} {n:Nat} {eh:Nat->E3} {m k:Nat} {S:S4} (h:rp g n eh m=some S) (hk:k<m):numB (eh k).v=true:=by
 cases h0:rp g n eh k with
 | none=>
  have:=qgl h0 (Nat.le_of_lt hk)
  rw [this] at h
  cases h
 | some T=>
  cases hd:doB g n T.p T.rs T.os T.c (eh k).k (eh k).q (eh k).v with
  | true=>exact qv0 hd
  | false=>
   have:=qgl (qum h0 hd) hk
   rw [this] at h
   cases h
theorem quj {g:Nat->I5} {n:Nat} {eh:Nat->E3} {m k:Nat} {S:S4} (h:repO g n eh m=some S) (hk:k<=m):∃ T,repO g n eh k=some T:=by
 obtain ⟨h1,h2,h3⟩:=qbl h
 unfold repO
 rw [if_pos ⟨h1,by omega⟩]
 cases h0:rp g n eh k with
 | none=>
  rw [qgl h0 hk] at h3
  cases h3
 | some T=>exact ⟨T,rfl⟩
theorem qk2 (eh:Nat->E3) (kd pr:Int) (n:Nat):∀ k,∃ t,valL eh kd pr (n+k)=valL eh kd pr n ++ t
 | 0=>⟨[],by simp⟩
 | k+1=>by
  obtain ⟨t,h⟩:=qk2 eh kd pr n k
  rcases zK (hitB eh kd pr (n+k)) with e | e
  ·exact ⟨t ++ [(eh (n+k)).v],by rw [<- Nat.add_assoc,qk1 e,h,List.append_assoc]⟩
  ·exact ⟨t,by rw [<- Nat.add_assoc,qhh e,h]⟩
theorem qk0 (eh:Nat->E3) (kd pr:Int) (n:Nat):(valL eh kd pr n).length=cnt eh kd pr n:=by simp [valL,cnt]
theorem qu6 {eh:Nat->E3} {kd pr:Int} {n:Nat} (h:∀ i,i<n->numB (eh i).v=true):allN (valL eh kd pr n)=true:=by
 rw [allN,List.all_eq_true]
 intro v hv
 simp only [valL,List.mem_map] at hv
 obtain ⟨i,hi,rfl⟩:=hv
 obtain ⟨j,hj⟩:=List.mem_iff_getElem?.1 hi
 exact h i (qkc eh kd pr n j i hj).1
theorem qpa (l:List Int):∀ n,n<=l.length->numL (itL l) n=l.take n
 | 0,_=>by simp [numL]
 | n+1,h=>by
  rw [qfw (by rfl),qpa l n (by omega),List.take_add_one,List.getElem?_eq_getElem (by omega)]
  simp [itL,zi,List.getD_eq_getElem?_getD,List.getElem?_eq_getElem (show n<l.length by omega)]
theorem qvy {y:Sy} {d:Nat->Nat} (hO:y.Ok) (_hd:∀ p,p<y.pn->d p<=y.hL p) (hw:y.Wh d) {d':Nat->Nat} (h:y.hs.Put d'):(y.ah d).Put (fun p=>min (d' p) (d p)):=by
 induction h with
 | start=>
  have e:(fun p=>min 0 (d p))=fun _=>0:=funext fun p=>by omega
  show (y.ah d).Put (fun p=>min 0 (d p))
  rw [e]
  exact .start
 | @next d' p hput hp hc ih=>
  have hp':p<y.pn:=hp
  by_cases hlt:d' p<d p
  ·have e:(fun i=>min (up d' p i) (d i))=up (fun i=>min (d' i) (d i)) p:=funext fun i=>by
    by_cases ei:i=p
    ·subst ei
     rw [qc0,qc0]
     omega
    ·rw [up_other ei,up_other ei]
   rw [e]
   have em:min (d' p) (d p)=d' p:=by omega
   refine .next ih hp ⟨by show min (d' p) (d p)<d p;omega,fun hk=>?_⟩
   have hk:(y.hH p (min (d' p) (d p))).k=3:=hk
   show cnt (y.hH p) 3 (y.hH p (min (d' p) (d p))).q (min (d' p) (d p))<cnt (y.hH (y.hH p (min (d' p) (d p))).q.toNat) 2 p (min (d' (y.hH p (min (d' p) (d p))).q.toNat) (d (y.hH p (min (d' p) (d p))).q.toNat))
   rw [em] at hk ⊢
   have h1:d' p<y.hL p:=hc.1
   have hq:=hO.evq hp' h1
   have h2:cnt (y.hH p) 3 (y.hH p (d' p)).q (d' p)<cnt (y.hH (y.hH p (d' p)).q.toNat) 2 p (d' (y.hH p (d' p)).q.toNat):=hc.2 hk
   have h3:=hw (y.hH p (d' p)).q.toNat (by omega) p hp'
   unfold tN sN at h3
   rw [show (((y.hH p (d' p)).q.toNat:Nat):Int)=(y.hH p (d' p)).q by omega] at h3
   have hh:hitB (y.hH p) 3 (y.hH p (d' p)).q (d' p)=true:=qdx.2 ⟨hk,rfl⟩
   have h4:=qhc (y.hH p) 3 (y.hH p (d' p)).q (show d' p+1<=d p from hlt)
   rw [qht hh] at h4
   rcases Nat.le_total (d' (y.hH p (d' p)).q.toNat) (d (y.hH p (d' p)).q.toNat) with h5 | h5
   ·rw [Nat.min_eq_left h5]
    exact h2
   ·rw [Nat.min_eq_right h5]
    omega
  ·have e:(fun i=>min (up d' p i) (d i))=fun i=>min (d' i) (d i):=funext fun i=>by
    by_cases ei:i=p
    ·subst ei
     rw [qc0]
     omega
    ·rw [up_other ei]
   rw [e]
   exact ih
theorem Sy.Ok.atOk {y:Sy} {d:Nat->Nat} (h:y.Ok) (hd:∀ p,p<y.pn->d p<=y.hL p) (hw:y.Wh d) (hf:wfB (y.ah d)=true):(y.atY d).Ok:=by
 have hrp:∀ p,p<y.pn->∃ T,repO (y.pH p) (y.pL p) (y.hH p) (d p)=some T:=fun p hp=>quj (h.rp p hp) (hd p hp)
 refine ⟨⟨h.cn.1,rfl,rfl,rfl⟩,h.pr,fun p hp=>?_,fun p hp i hi=>h.pe p hp i (zL hi (hd p hp)),fun a ha b hb=>?_,?_⟩
 ·obtain ⟨T,hT⟩:=hrp p hp
  show repO (y.pH p) (y.pL p) (y.hH p) (d p)=some (resS (repO (y.pH p) (y.pL p) (y.hH p) (d p)))
  rw [hT]
  rfl
 ·have ha:a<y.pn:=ha
  have hb:b<y.pn:=hb
  obtain ⟨e1,e2⟩:=qwi (a:=a) hb
  have hl:(wyL (y.ah d) a b).length<=12:=qpi.1 hf a ha b hb
  have hnum:allN (valL (y.hH a) 2 b (d a))=true:=qu6 fun i hi=>qw4 (qbl (h.rp a ha)).2.2 (zL hi (hd a ha))
  show WayP (itL (wyL (y.ah d) ((a*y.pn+b) / y.pn) ((a*y.pn+b) % y.pn))) (wyL (y.ah d) ((a*y.pn+b) / y.pn) ((a*y.pn+b) % y.pn)).length (valL (y.hH b) 3 a (d b)) (valL (y.hH a) 2 b (d a))
  rw [e1,e2]
  refine ⟨fun j _=>?_,hl,?_⟩
  ·have hv:numB (zi (wyL (y.ah d) a b) j)=true:=by
    show numB (zi ((valL (y.hH a) 2 b (d a)).drop (cnt (y.hH b) 3 a (d b))) j)=true
    rw [qos]
    exact qn2 hnum _
   simp [qcg,itL,hv]
  ·rw [qpa _ _ (Nat.le_refl _),List.take_length]
   show valL (y.hH b) 3 a (d b) ++ (valL (y.hH a) 2 b (d a)).drop (cnt (y.hH b) 3 a (d b))=valL (y.hH a) 2 b (d a)
   obtain ⟨t1,h1⟩:=qk2 (y.hH b) 3 a (d b) (y.hL b - d b)
   obtain ⟨t2,h2⟩:=qk2 (y.hH a) 2 b (d a) (y.hL a - d a)
   rw [show d b+(y.hL b - d b)=y.hL b by have:=hd b hb;omega] at h1
   rw [show d a+(y.hL a - d a)=y.hL a by have:=hd a ha;omega] at h2
   have e:=(h.wa a ha b hb).eq
   rw [h1,h2] at e
   have hle:(valL (y.hH b) 3 a (d b)).length<=(valL (y.hH a) 2 b (d a)).length:=by
    rw [qk0,qk0]
    exact hw a ha b hb
   have e3:valL (y.hH b) 3 a (d b)=(valL (y.hH a) 2 b (d a)).take (valL (y.hH b) 3 a (d b)).length:=by
    have e4:=congrArg (List.take (valL (y.hH b) 3 a (d b)).length) e
    rw [List.append_assoc,List.take_left,List.take_append_of_le_length hle] at e4
    exact e4
   rw [<- qk0 (y.hH b) 3 a (d b)]
   conv=>lhs;lhs;rw [e3]
   exact List.take_append_drop _ _
 ·obtain ⟨dA,hA,hall⟩:=h.ro
  refine ⟨_,qvy h hd hw hA,fun p hp=>?_⟩
  have:=hall p hp
  have h1:dA p=y.hL p:=this
  have h2:=hd p hp
  show min (dA p) (d p)=d p
  omega
theorem qln {y:Sy} {p k:Int} (h:bkC y p k=0):y.Ok/\bkIn y p k=true/\(bkY y p k).Ok/\bkY y p k=y.atY (cN (bkE y p k))/\(∀ q,q<y.pn->cN (bkE y p k) q<=y.hL q)/\y.Wh (cN (bkE y p k)):=by
 unfold bkC at h
 by_cases ho:y.okB=true
 ·rw [if_pos ho] at h
  by_cases hb:bkIn y p k=true
  ·rw [if_pos hb] at h
   by_cases hw:wfB (y.ah (cN (bkE y p k)))=true
   ·have hO:=Sy.ok_of ho
    have hc:=qde hO hb
    have hd:∀ q,q<y.pn->cN (bkE y p k) q<=y.hL q:=fun q hq=>(qf9 hc).leN hq
    have e:bkY y p k=y.atY (cN (bkE y p k)):=by
     unfold bkY
     rw [if_pos ho,if_pos hb,if_pos hw]
    exact ⟨hO,hb,by rw [e];exact hO.atOk hd (qdu hc).2 hw,e,hd,(qdu hc).2⟩
   ·rw [if_neg hw] at h
    cases h
  ·rw [if_neg hb] at h
   cases h
 ·rw [if_neg ho] at h
  cases h
theorem qi5 {y:Sy} (hO:y.Ok) {P:Nat} (hP:P<y.pn) (k:Int) {q:Nat} (hq:q<y.pn):zi (bkL y P k) q=if q=P then k else (y.hL q:Int):=by
 have hh:=hO.cn.2.2.1
 unfold bkL
 rw [qpv (by rw [qcx];omega),qti (by omega)]
theorem qp3 {y:Sy} {p k j:Int} (h:bkC y p k=0) (hj:j<=k) (h1:bkC (bkY y p k) p j=0) (h2:bkC y p j=0):bkY (bkY y p k) p j=bkY y p j:=by
 obtain ⟨hO,hb,hO',ht,hd,hw⟩:=qln h
 obtain ⟨-,hb1,-,ht1,hd1,hw1⟩:=qln h1
 obtain ⟨-,hb2,-,ht2,hd2,hw2⟩:=qln h2
 obtain ⟨P,rfl,hP,k0,k1⟩:=qev hb
 have hc:=qde hO hb
 have hc1:=qde hO' hb1
 have hc2:=qde hO hb2
 have e1:=(qdu hc).1
 have s1:=(qdu hc1).1
 have s2:=(qdu hc2).1
 have l2:0<=j:=(qev hb2).choose_spec.2.2.1
 have ep:(bkY y P k).pn=y.pn:=by rw [ht];rfl
 have eW:∀ c,(bkY y P k).Wh c ↔ y.Wh c:=fun c=>by rw [ht];exact Iff.rfl
 have eL:∀ q,(bkY y P k).hL q=cN (bkE y P k) q:=fun q=>by rw [ht];rfl
 rw [Int.toNat_natCast] at hc hc1 hc2 e1 s1 s2
 have hP':P<(bkY y P k).pn:=by rw [ep];exact hP
 have za:∀ q,q<y.pn->0<=zi (bkE y P k) q:=fun q hq=>(e1.le q hq).1
 -- the greatest whole cut of each lies within the other
 have g1 : ∀ q, q < y.pn → (cN (bkE (bkY y P k) P j) q : Int) ≤ zi (bkE y P j) q := fun q hq => s2.gr _ (fun r hr => by
  have h3:=s1.le r (by rw [ep];exact hr)
  have h4:zi (bkL (bkY y P k) P j) r=_:=qi5 hO' hP' j (by rw [ep];exact hr)
  have h5:zi (bkL y P j) r=_:=qi5 hO hP j hr
  have h6:=hd r hr
  have h7:=za r hr
  rw [h4] at h3
  show ((zi (bkE (bkY y P k) P j) r).toNat:Int)<=zi (bkL y P j) r
  rw [h5]
  rw [eL] at h3
  have h8:zi (bkE (bkY y P k) P j) r=zi (clS (bkY y P k) (bkL (bkY y P k) P j)) r:=rfl
  rw [<- h8] at h3
  by_cases er:r=P
  ·rw [if_pos er] at h3 ⊢
   omega
  ·rw [if_neg er] at h3 ⊢
   omega) ((eW _).1 hw1) q hq
 have g2 : ∀ q, q < y.pn → (cN (bkE y P j) q : Int) ≤ zi (bkE (bkY y P k) P j) q := fun q hq => s1.gr _ (fun r hr => by
  have hr:r<y.pn:=by rw [<- ep];exact hr
  have h3:=s2.le r hr
  have h4:zi (bkL (bkY y P k) P j) r=_:=qi5 hO' hP' j (by rw [ep];exact hr)
  have h5:zi (bkL y P j) r=_:=qi5 hO hP j hr
  have h8:zi (bkE y P j) r=zi (clS y (bkL y P j)) r:=rfl
  rw [<- h8,h5] at h3
  have h9 := e1.gr (cN (bkE y P j)) (fun s hs => by
   have t3:=s2.le s hs
   have t5:zi (bkL y P j) s=_:=qi5 hO hP j hs
   have t6:zi (bkL y P k) s=_:=qi5 hO hP k hs
   have t8:zi (bkE y P j) s=zi (clS y (bkL y P j)) s:=rfl
   rw [<- t8,t5] at t3
   show ((zi (bkE y P j) s).toNat:Int)<=zi (bkL y P k) s
   rw [t6]
   by_cases er:s=P
   ·rw [if_pos er] at t3 ⊢
    omega
   ·rw [if_neg er] at t3 ⊢
    omega) hw2 r hr
  have h10:zi (bkE y P k) r=zi (clS y (bkL y P k)) r:=rfl
  rw [<- h10] at h9
  have h7:=za r hr
  show ((zi (bkE y P j) r).toNat:Int)<=zi (bkL (bkY y P k) P j) r
  rw [h4,eL]
  have h11:((zi (bkE y P j) r).toNat:Int)<=zi (bkE y P k) r:=h9
  show ((zi (bkE y P j) r).toNat:Int)<=if r=P then j else (((zi (bkE y P k) r).toNat:Nat):Int)
  by_cases er:r=P
  ·rw [if_pos er] at h3 ⊢
   omega
  ·rw [if_neg er] at h3 ⊢
   omega) ((eW _).2 hw2) q (by rw [ep];exact hq)
 have eE:bkE (bkY y P k) P j=bkE y P j:=by
  refine qox (s1.len.trans (ep.trans s2.len.symm)) fun q hq=>?_
  have hq':q<y.pn:=by
   have h3:(bkE (bkY y P k) P j).length=(bkY y P k).pn:=s1.len
   omega
  have h3:=g1 q hq'
  have h4:=g2 q hq'
  have h5:0<=zi (bkE (bkY y P k) P j) q:=(s1.le q (by rw [ep];exact hq')).1
  have h6:0<=zi (bkE y P j) q:=(s2.le q hq').1
  unfold cN at h3 h4
  show zi (bkE (bkY y P k) P j) q=zi (bkE y P j) q
  omega
 rw [ht1,ht2,eE,ht]
 rfl
theorem ql7 (W0 c len cap:Nat) (a0:Option Addr) (n:Int) (w:World) (hc:Cur w W0 c a0 len cap) (n1:1<=n) (n2:n<=1048576):
  Calls Tryz.prog 51 #[.pointer (some (aQ c 0)),.int .i64 n] w fun e w'=>∃ x:Int,e=.returned (.int .i64 x)/\(0<=x/\x<n)/\Cur w' W0 c a0 len cap/\w.grownBy w' (some c):=by
 by_cases hs:n<=256
 ·exact zY W0 c len cap a0 n w hc n1 hs
 have n3:¬ n<=0:=by omega
 have n4:(n == 0)=false:=by simp;omega
 have HCur:Hid (Cur w W0 c a0 len cap):=hc
 clear hc
 go_enter Tryz.func51,Tryz.ntmps51
 go_wp2_with fail
 refine (qdn W0 c len cap a0 _ HCur.out).mono ?_
 rintro e w1 ⟨x,rfl,⟨x0,x1⟩,hc1,hg1⟩
 have H1:Hid (Cur w1 W0 c a0 len cap/\w.grownBy w1 (some c)):=⟨hc1,hg1⟩
 clear hc1 hg1 HCur
 go_wp2_with fail
 refine (qdn W0 c len cap a0 _ H1.out.1).mono ?_
 rintro e w2 ⟨y,rfl,⟨y0,y1⟩,hc2,hg2⟩
 have H2:Hid (Cur w2 W0 c a0 len cap/\w.grownBy w2 (some c)):=⟨hc2,H1.out.2.trans hg2⟩
 clear hc2 hg2 H1
 go_wp2_with fail
 refine (qdn W0 c len cap a0 _ H2.out.1).mono ?_
 rintro e w3 ⟨z,rfl,⟨z0,z1⟩,hc3,hg3⟩
 have H3:Hid (Cur w3 W0 c a0 len cap/\w.grownBy w3 (some c)):=⟨hc3,H2.out.2.trans hg3⟩
 clear hc3 hg3 H2
 go_wp2_with fail
 refine (qdn W0 c len cap a0 _ H3.out.1).mono ?_
 rintro e w4 ⟨u,rfl,⟨u0,u1⟩,hc4,hg4⟩
 have H4:Hid (Cur w4 W0 c a0 len cap/\w.grownBy w4 (some c)):=⟨hc4,H3.out.2.trans hg4⟩
 clear hc4 hg4 H3
 have hp:0<=x*16777216+y*65536+z*256+u:=by omega
 go_wp2
 go_ret
 exact ⟨_,rfl,⟨Int.emod_nonneg _ (by omega),Int.emod_lt_of_pos _ (by omega)⟩,H4.out.1,H4.out.2⟩
def pickP (i:Nat):Int:=if i=0 then -1 else 4
def pickK (i:Nat):Int:=if i=0 then -1 else 201
theorem qpg (i:Nat):-1<=pickP i/\pickP i<=4:=by unfold pickP;split <;> omega
theorem qpe (i:Nat):-1<=pickK i/\pickK i<=201:=by unfold pickK;split <;> omega
theorem qpf (w:World):qhi (w.alloc (.cells #[.int .i64 (-1),.int .i64 4] 3)) w.heap.size 2 pickP:=fun j hj=>by
 rw [zW _ _ _ j rfl]
 match j,hj with
 | 0,_=>rfl
 | 1,_=>rfl
theorem qpd (w:World):qhi (w.alloc (.cells #[.int .i64 (-1),.int .i64 201] 3)) w.heap.size 2 pickK:=fun j hj=>by
 rw [zW _ _ _ j rfl]
 match j,hj with
 | 0,_=>rfl
 | 1,_=>rfl
theorem DW.alloc {w wr:World} {W0 c len cap N M B T:Nat} {a0:Option Addr} {x:SysIn} (h:DW w wr W0 c a0 len cap N M B T x) (o:Obj):DW w (wr.alloc o) W0 c a0 len cap N M B T x:=h.draw (h.cu.alloc o) (World.grownBy_alloc _ _ _)
def DrwA (w:World) (e:Ending) (w':World):Prop:=∃ (x:SysIn) (a b:Int) (B T:Nat),e=.returned (.tuple #[x.v,.int .i64 a,.int .i64 b])/\x.y.Sm/\SysX w' B T x/\w.heap.size<=B/\T<=w'.heap.size/\Bw w w'/\(-1<=a/\a<=16)/\(-1<=b/\b<=1000)
theorem qef (W0 len cap:Nat) (a0:Option Addr) (w:World) (hB:qbg w W0 a0 len) (hW:W0<=w.heap.size) (ln:len<=1048576):
  Calls Tryz.prog 25 #[.slice a0 len cap] w (DrwA w):=by
 have C0:Hid (qbg (w.alloc (zQ3)) W0 a0 len/\W0<=(w.alloc (zQ3)).heap.size/\Bw w (w.alloc (zQ3))/\Bx (w.alloc (zQ3)) w.heap.size (.slice none 0 0) (.slice none 0 0) (.slice none 0 0) (.slice none 0 0)/\(w.alloc (zQ3)).heap.size=w.heap.size+1):=⟨hB.kept (fun k hk=>(zQ w (zQ3)).block k (by omega)),by simp;omega,zQ _ _,Bx.new w _ _ _ _ _,by simp⟩
 clear hB
 go_enter Tryz.func25,Tryz.ntmps25
 go_wp2_with fail
 generalize w.alloc (zQ3)=W2 at *
 refine (qr1 W0 len cap a0 W2 C0.out.1 C0.out.2.1 ln).mono ?_
 rintro e w1 ⟨rfl,hc1,hg1⟩
 have C1:Hid (Cur w1 W0 W2.heap.size a0 len cap/\Bw w w1/\Bx w1 w.heap.size (.slice none 0 0) (.slice none 0 0) (.slice none 0 0) (.slice none 0 0)/\W2.heap.size=w.heap.size+1/\W2.heap.size<w1.heap.size):=⟨hc1,C0.out.2.2.1.trans ((qdd hg1).mono C0.out.2.2.1.size),C0.out.2.2.2.1.below (qdd hg1),C0.out.2.2.2.2,hc1.lt⟩
 clear hc1 hg1 C0
 generalize W2.heap.size=c at *
 go_wp2_with fail
 refine (qqn W0 c len cap a0 w1 C1.out.1).mono ?_
 rintro e w2 ⟨x,B,T,rfl,hm,hX,hc2,hg2,hcB,hT⟩
 have DA:Hid (DW w (w2.alloc (x.oX)) W0 c a0 len cap w.heap.size w2.heap.size B T x):=by
  have hs:=hg2.size
  have h1:=C1.out.2.2.2.1
  have h2:=C1.out.2.2.2.2
  refine ⟨hc2.alloc _,(Below.grown C1.out.2.1 hg2 C1.out.2.1.size (fun k hk=>by cases hk;omega)).trans ((zQ _ _).mono (by have:=C1.out.2.1.size;omega)),hX.keep (by simp) fun b _ _ hl=>(zQ w2 _).block b hl,(C1.out.2.2.1.grown hg2 (by simp;omega)).below (zQ _ _),Bx.new _ _ _ _ _ _,Nat.le_refl _,by omega,hcB,by omega,hT⟩
 have HM:Hid x.y.Sm:=hm
 have hn16:(x.hn:Int)<=16:=by
  have h:x.hn<=16:=hm.n.2.2.2
  omega
 have HL:Hid (∀ i,i<x.hn->x.hL i<=1000):=fun i hi=>hm.h i hi
 clear hX hc2 hg2 hcB hT C1 hm
 obtain ⟨⟨z0,z1,z2,z3⟩,-⟩:=DA.out.b6
 go_wp2_with fail
 generalize w2.alloc (x.oX)=wA at *
 generalize w2.heap.size=M at *
 clear z0 z1 z2 z3
 refine (qhz (x.hn:Int) 1 wA).mono ?_
 rintro e w' ⟨m,rfl,⟨m1,m2,m3⟩,rfl⟩
 go_wp2_with fail
 refine (zY W0 c len cap a0 m _ DA.out.cu (by omega) (by omega)).mono ?_
 rintro e w3 ⟨p,rfl,⟨p0,p1⟩,hc3,hg3⟩
 have D3:Hid (DW w w3 W0 c a0 len cap w.heap.size M B T x):=DA.out.draw hc3 hg3
 clear hc3 hg3 DA
 obtain ⟨⟨z0,z1,z2,z3⟩,-⟩:=D3.out.b6
 by_cases hp:p<(x.hn:Int)
 ·obtain ⟨P,rfl⟩:∃ P:Nat,p=P:=⟨p.toNat,by omega⟩
  have hP:P<x.hn:=by omega
  obtain ⟨b,off,ea,cb⟩:=D3.out.sx.self.h.at hP
  have cb:w3.cell? ⟨b,off+P,none⟩=some (.slice (x.hA P) (x.hL P) (x.hC P)):=cb
  have hk':(x.hL P:Int)<=1000:=by have:=HL.out P hP;omega
  rw [ea] at z3
  clear ea
  go_wp2_with fail
  clear z0 z1 z2 z3 cb
  refine (ql7 W0 c len cap a0 ((x.hL P:Int)+1) w3 D3.out.cu (by omega) (by omega)).mono ?_
  rintro e w4 ⟨k,rfl,⟨k0,k1⟩,hc4,hg4⟩
  have D4:Hid (DW w w4 W0 c a0 len cap w.heap.size M B T x):=D3.out.draw hc4 hg4
  clear hc4 hg4 D3 hP HL
  generalize x.hL P=lP at *
  have hPP:-1<=(P:Int)/\(P:Int)<=16:=by omega
  clear hp p0 p1 m1 m2 m3
  go_wp2_with fail
  refine (zY W0 c len cap a0 15 w4 D4.out.cu (by omega) (by omega)).mono ?_
  rintro e w5 ⟨r,rfl,⟨r0,r1⟩,hc5,hg5⟩
  have D5:Hid (DW w w5 W0 c a0 len cap w.heap.size M B T x):=D4.out.draw hc5 hg5
  clear hc5 hg5 D4
  by_cases e0:r=0
  ·subst e0
   go_wp2_with fail
   have cN5:c<w5.heap.size:=D5.out.cu.lt
   refine (qco W0 c len cap w5.heap.size 2 2 a0 pickP _ (D5.out.cu.alloc _) (by omega) (by omega) (by simp) (by omega) (qpf w5)).mono ?_
   rintro e w6 ⟨i,hi,rfl,hc6,hg6⟩
   have D6:Hid (DW w w6 W0 c a0 len cap w.heap.size M B T x):=(D5.out.alloc _).draw hc6 hg6
   clear hc6 hg6 D5 cN5
   have hv:=qpg i
   generalize pickP i=v at *
   obtain ⟨⟨x0,x1,x2,x3⟩,xf⟩:=D6.out.b2
   obtain ⟨⟨z0,z1,z2,z3⟩,-⟩:=D6.out.b6
   go_wp2
   refine bodyPost_ret (v:=.tuple #[x.v,.int .i64 v,.int .i64 k]) (by simp [results,Tryz.results25,go_sem,x0,x1,x2,x3]) rfl ⟨x,v,k,B,T,rfl,HM.out,?_,?_,?_,?_,by omega,by omega⟩
   ·exact D6.out.set4 _ _ _ _
   ·have:=D6.out.sz
    omega
   ·have:=D6.out.sz
    have:=D6.out.b6.lt
    simp
    omega
   ·exact (((D6.out.be.setCell (Nat.le_refl _) _).setCell (Nat.le_refl _) _).setCell (Nat.le_refl _) _).setCell (Nat.le_refl _) _
  ·by_cases e1:r=1
   ·subst e1
    go_wp2_with fail
    have cN5:c<w5.heap.size:=D5.out.cu.lt
    refine (qco W0 c len cap w5.heap.size 2 2 a0 pickK _ (D5.out.cu.alloc _) (by omega) (by omega) (by simp) (by omega) (qpd w5)).mono ?_
    rintro e w6 ⟨i,hi,rfl,hc6,hg6⟩
    have D6:Hid (DW w w6 W0 c a0 len cap w.heap.size M B T x):=(D5.out.alloc _).draw hc6 hg6
    clear hc6 hg6 D5 cN5
    have hv:=qpe i
    generalize pickK i=v at *
    obtain ⟨⟨x0,x1,x2,x3⟩,xf⟩:=D6.out.b2
    obtain ⟨⟨z0,z1,z2,z3⟩,-⟩:=D6.out.b6
    go_wp2
    refine bodyPost_ret (v:=.tuple #[x.v,.int .i64 (P:Int),.int .i64 v]) (by simp [results,Tryz.results25,go_sem,x0,x1,x2,x3]) rfl ⟨x,(P:Int),v,B,T,rfl,HM.out,?_,?_,?_,?_,by omega,by omega⟩
    ·exact D6.out.set4 _ _ _ _
    ·have:=D6.out.sz
     omega
    ·have:=D6.out.sz
     have:=D6.out.b6.lt
     simp
     omega
    ·exact (((D6.out.be.setCell (Nat.le_refl _) _).setCell (Nat.le_refl _) _).setCell (Nat.le_refl _) _).setCell (Nat.le_refl _) _
   ·have e0':(r == 0)=false:=by simpa using e0
    have e1':(r == 1)=false:=by simpa using e1
    obtain ⟨⟨x0,x1,x2,x3⟩,xf⟩:=D5.out.b2
    obtain ⟨⟨z0,z1,z2,z3⟩,-⟩:=D5.out.b6
    go_wp2
    refine bodyPost_ret (v:=.tuple #[x.v,.int .i64 (P:Int),.int .i64 k]) (by simp [results,Tryz.results25,go_sem,x0,x1,x2,x3]) rfl ⟨x,(P:Int),k,B,T,rfl,HM.out,?_,?_,?_,?_,by omega,by omega⟩
    ·exact D5.out.set4 _ _ _ _
    ·have:=D5.out.sz
     omega
    ·have:=D5.out.sz
     have:=D5.out.b6.lt
     simp
     omega
    ·exact (((D5.out.be.setCell (Nat.le_refl _) _).setCell (Nat.le_refl _) _).setCell (Nat.le_refl _) _).setCell (Nat.le_refl _) _
 ·clear z0 z1 z2 z3
  obtain ⟨⟨z0,z1,z2,z3⟩,-⟩:=D3.out.b6
  have hpn:¬ p<(x.hn:Int):=hp
  go_wp2_with fail
  clear z0 z1 z2 z3
  refine (zY W0 c len cap a0 15 w3 D3.out.cu (by omega) (by omega)).mono ?_
  rintro e w5 ⟨r,rfl,⟨r0,r1⟩,hc5,hg5⟩
  have D5:Hid (DW w w5 W0 c a0 len cap w.heap.size M B T x):=D3.out.draw hc5 hg5
  clear hc5 hg5 D3
  by_cases e0:r=0
  ·subst e0
   go_wp2_with fail
   have cN5:c<w5.heap.size:=D5.out.cu.lt
   refine (qco W0 c len cap w5.heap.size 2 2 a0 pickP _ (D5.out.cu.alloc _) (by omega) (by omega) (by simp) (by omega) (qpf w5)).mono ?_
   rintro e w6 ⟨i,hi,rfl,hc6,hg6⟩
   have D6:Hid (DW w w6 W0 c a0 len cap w.heap.size M B T x):=(D5.out.alloc _).draw hc6 hg6
   clear hc6 hg6 D5 cN5
   have hv:=qpg i
   generalize pickP i=v at *
   obtain ⟨⟨x0,x1,x2,x3⟩,xf⟩:=D6.out.b2
   obtain ⟨⟨z0,z1,z2,z3⟩,-⟩:=D6.out.b6
   go_wp2
   refine bodyPost_ret (v:=.tuple #[x.v,.int .i64 v,.int .i64 0]) (by simp [results,Tryz.results25,go_sem,x0,x1,x2,x3]) rfl ⟨x,v,0,B,T,rfl,HM.out,?_,?_,?_,?_,by omega,by omega⟩
   ·exact D6.out.set4 _ _ _ _
   ·have:=D6.out.sz
    omega
   ·have:=D6.out.sz
    have:=D6.out.b6.lt
    simp
    omega
   ·exact (((D6.out.be.setCell (Nat.le_refl _) _).setCell (Nat.le_refl _) _).setCell (Nat.le_refl _) _).setCell (Nat.le_refl _) _
  ·by_cases e1:r=1
   ·subst e1
    go_wp2_with fail
    have cN5:c<w5.heap.size:=D5.out.cu.lt
    refine (qco W0 c len cap w5.heap.size 2 2 a0 pickK _ (D5.out.cu.alloc _) (by omega) (by omega) (by simp) (by omega) (qpd w5)).mono ?_
    rintro e w6 ⟨i,hi,rfl,hc6,hg6⟩
    have D6:Hid (DW w w6 W0 c a0 len cap w.heap.size M B T x):=(D5.out.alloc _).draw hc6 hg6
    clear hc6 hg6 D5 cN5
    have hv:=qpe i
    generalize pickK i=v at *
    obtain ⟨⟨x0,x1,x2,x3⟩,xf⟩:=D6.out.b2
    obtain ⟨⟨z0,z1,z2,z3⟩,-⟩:=D6.out.b6
    go_wp2
    refine bodyPost_ret (v:=.tuple #[x.v,.int .i64 p,.int .i64 v]) (by simp [results,Tryz.results25,go_sem,x0,x1,x2,x3]) rfl ⟨x,p,v,B,T,rfl,HM.out,?_,?_,?_,?_,by omega,by omega⟩
    ·exact D6.out.set4 _ _ _ _
    ·have:=D6.out.sz
     omega
    ·have:=D6.out.sz
     have:=D6.out.b6.lt
     simp
     omega
    ·exact (((D6.out.be.setCell (Nat.le_refl _) _).setCell (Nat.le_refl _) _).setCell (Nat.le_refl _) _).setCell (Nat.le_refl _) _
   ·have e0':(r == 0)=false:=by simpa using e0
    have e1':(r == 1)=false:=by simpa using e1
    obtain ⟨⟨x0,x1,x2,x3⟩,xf⟩:=D5.out.b2
    obtain ⟨⟨z0,z1,z2,z3⟩,-⟩:=D5.out.b6
    go_wp2
    refine bodyPost_ret (v:=.tuple #[x.v,.int .i64 p,.int .i64 0]) (by simp [results,Tryz.results25,go_sem,x0,x1,x2,x3]) rfl ⟨x,p,0,B,T,rfl,HM.out,?_,?_,?_,?_,by omega,by omega⟩
    ·exact D5.out.set4 _ _ _ _
    ·have:=D5.out.sz
     omega
    ·have:=D5.out.sz
     have:=D5.out.b6.lt
     simp
     omega
    ·exact (((D5.out.be.setCell (Nat.le_refl _) _).setCell (Nat.le_refl _) _).setCell (Nat.le_refl _) _).setCell (Nat.le_refl _) _
theorem qk3 (W0 len cap:Nat) (a0:Option Addr) (w:World) (hB:qbg w W0 a0 len) (hW:W0<=w.heap.size) (ln:len<=1048576):
  Calls Tryz.prog 8 #[.slice a0 len cap] w (DrwA w):=by
 have C0:Hid (qbg (w.alloc (zQ3)) W0 a0 len/\W0<=(w.alloc (zQ3)).heap.size/\Bw w (w.alloc (zQ3))/\Bx (w.alloc (zQ3)) w.heap.size (.slice none 0 0) (.slice none 0 0) (.slice none 0 0) (.slice none 0 0)/\(w.alloc (zQ3)).heap.size=w.heap.size+1):=⟨hB.kept (fun k hk=>(zQ w (zQ3)).block k (by omega)),by simp;omega,zQ _ _,Bx.new w _ _ _ _ _,by simp⟩
 clear hB
 go_enter Tryz.func8,Tryz.ntmps8
 go_wp2_with fail
 generalize w.alloc (zQ3)=W2 at *
 refine (qef W0 len cap a0 W2 C0.out.1 C0.out.2.1 ln).mono ?_
 rintro e w2 ⟨x,a,b,B,T,rfl,hm,hX,hBl,hT,hb,ha1,hb1⟩
 have HM:Hid x.y.Sm:=hm
 have hab:(-1<=a/\a<=16)/\(-1<=b/\b<=1000):=⟨ha1,hb1⟩
 have F:Hid (SysX (w2.alloc (x.oX)) B T x/\Bx (w2.alloc (x.oX)) w.heap.size (.slice none 0 0) (.slice none 0 0) (.slice none 0 0) (.slice none 0 0)/\Bx (w2.alloc (x.oX)) w2.heap.size (.slice x.pa x.pn x.pc) (.slice x.sa x.sn x.sc) (.slice x.wa x.wn x.wc) (.slice x.ha x.hn x.hc)/\Bw w (w2.alloc (x.oX))/\w.heap.size<B/\T<=w2.heap.size):=by
  have h1:=C0.out.2.2.2.2
  have h2:=hb.size
  exact ⟨hX.keep (by simp) fun b _ _ hl=>(zQ w2 _).block b hl,(C0.out.2.2.2.1.below hb).below (zQ _ _),Bx.new _ _ _ _ _ _,(C0.out.2.2.1.trans (hb.mono (by omega))).trans ((zQ _ _).mono (by omega)),by omega,hT⟩
 clear hX hBl hT hb hm ha1 hb1 C0
 go_upto_region 2 with fail
 generalize w2.alloc (x.oX)=wA at *
 generalize w2.heap.size=M at *
 obtain ⟨⟨x0,x1,x2,x3⟩,xf⟩:=F.out.2.1
 obtain ⟨⟨z0,z1,z2,z3⟩,-⟩:=F.out.2.2.1
 go_wp2
 refine bodyPost_ret (v:=.tuple #[x.v,.int .i64 a,.int .i64 b]) (by simp [results,Tryz.results8,go_sem,x0,x1,x2,x3]) rfl ⟨x,a,b,B,T,rfl,HM.out,?_,?_,?_,?_,hab.1,hab.2⟩
 ·exact F.out.1.keep (by simp) fun b hb _ _=>by
   have:=F.out.2.2.2.2.1
   rw [zO _ _ _ _ (by show b≠w.heap.size;omega),zO _ _ _ _ (by show b≠w.heap.size;omega),zO _ _ _ _ (by show b≠w.heap.size;omega),zO _ _ _ _ (by show b≠w.heap.size;omega)]
 ·exact Nat.le_of_lt F.out.2.2.2.2.1
 ·have:=F.out.2.2.2.2.2
  have:=F.out.2.2.1.lt
  simp
  omega
 ·exact (((F.out.2.2.2.1.setCell (Nat.le_refl _) _).setCell (Nat.le_refl _) _).setCell (Nat.le_refl _) _).setCell (Nat.le_refl _) _
theorem qih (W0 len cap:Nat) (a0:Option Addr) (w:World) (hB:qbg w W0 a0 len) (hW:W0<=w.heap.size) (ln:len<=1048576):
  Calls Tryz.prog 18 #[.slice a0 len cap] w (DrwA w):=by
 have C0:Hid (qbg (w.alloc (zQ3)) W0 a0 len/\W0<=(w.alloc (zQ3)).heap.size/\Bw w (w.alloc (zQ3))/\Bx (w.alloc (zQ3)) w.heap.size (.slice none 0 0) (.slice none 0 0) (.slice none 0 0) (.slice none 0 0)/\(w.alloc (zQ3)).heap.size=w.heap.size+1):=⟨hB.kept (fun k hk=>(zQ w (zQ3)).block k (by omega)),by simp;omega,zQ _ _,Bx.new w _ _ _ _ _,by simp⟩
 clear hB
 go_enter Tryz.func18,Tryz.ntmps18
 go_wp2_with fail
 generalize w.alloc (zQ3)=W2 at *
 refine (qef W0 len cap a0 W2 C0.out.1 C0.out.2.1 ln).mono ?_
 rintro e w2 ⟨x,a,b,B,T,rfl,hm,hX,hBl,hT,hb,ha1,hb1⟩
 have HM:Hid x.y.Sm:=hm
 have hab:(-1<=a/\a<=16)/\(-1<=b/\b<=1000):=⟨ha1,hb1⟩
 have F:Hid (SysX (w2.alloc (x.oX)) B T x/\Bx (w2.alloc (x.oX)) w.heap.size (.slice none 0 0) (.slice none 0 0) (.slice none 0 0) (.slice none 0 0)/\Bx (w2.alloc (x.oX)) w2.heap.size (.slice x.pa x.pn x.pc) (.slice x.sa x.sn x.sc) (.slice x.wa x.wn x.wc) (.slice x.ha x.hn x.hc)/\Bw w (w2.alloc (x.oX))/\w.heap.size<B/\T<=w2.heap.size):=by
  have h1:=C0.out.2.2.2.2
  have h2:=hb.size
  exact ⟨hX.keep (by simp) fun b _ _ hl=>(zQ w2 _).block b hl,(C0.out.2.2.2.1.below hb).below (zQ _ _),Bx.new _ _ _ _ _ _,(C0.out.2.2.1.trans (hb.mono (by omega))).trans ((zQ _ _).mono (by omega)),by omega,hT⟩
 clear hX hBl hT hb hm ha1 hb1 C0
 go_upto_region 2 with fail
 generalize w2.alloc (x.oX)=wA at *
 generalize w2.heap.size=M at *
 obtain ⟨⟨x0,x1,x2,x3⟩,xf⟩:=F.out.2.1
 obtain ⟨⟨z0,z1,z2,z3⟩,-⟩:=F.out.2.2.1
 go_wp2
 refine bodyPost_ret (v:=.tuple #[x.v,.int .i64 a,.int .i64 b]) (by simp [results,Tryz.results18,go_sem,x0,x1,x2,x3]) rfl ⟨x,a,b,B,T,rfl,HM.out,?_,?_,?_,?_,hab.1,hab.2⟩
 ·exact F.out.1.keep (by simp) fun b hb _ _=>by
   have:=F.out.2.2.2.2.1
   rw [zO _ _ _ _ (by show b≠w.heap.size;omega),zO _ _ _ _ (by show b≠w.heap.size;omega),zO _ _ _ _ (by show b≠w.heap.size;omega),zO _ _ _ _ (by show b≠w.heap.size;omega)]
 ·exact Nat.le_of_lt F.out.2.2.2.2.1
 ·have:=F.out.2.2.2.2.2
  have:=F.out.2.2.1.lt
  simp
  omega
 ·exact (((F.out.2.2.2.1.setCell (Nat.le_refl _) _).setCell (Nat.le_refl _) _).setCell (Nat.le_refl _) _).setCell (Nat.le_refl _) _
def DrwB (w:World) (e:Ending) (w':World):Prop:=∃ (x:SysIn) (a:Int) (B T:Nat),e=.returned (.tuple #[x.v,.int .i64 a])/\x.y.Sm/\SysX w' B T x/\w.heap.size<=B/\T<=w'.heap.size/\Bw w w'/\(-1<=a/\a<=16)
structure WJ (w wr:World) (X:Nat) (x:SysIn):Prop where
 g:SysG wr x
 bx:x.bX wr X
 be:Bw w wr
theorem WJ.below {w wr w':World} {X:Nat} {x:SysIn} (h:WJ w wr X x) (hb:Bw wr w'):WJ w w' X x:=⟨h.g.below hb,h.bx.below hb,h.be.trans (hb.mono h.be.size)⟩
theorem qaj.inJ {z:Bool} {w:World} {B:Nat} {y:Sy} {v:Value} (o:qaj z w B y v):∃ x:SysIn,v=x.v/\x.y=y/\SysG w x/\(∀ i,i<x.hn->x.hL i<=x.hC i)/\x.Nn false:=by
 obtain ⟨x,e1,e2,h⟩:=o.sysT.x
 exact ⟨x,e1,e2,h.self,h.cap,h.nn⟩
