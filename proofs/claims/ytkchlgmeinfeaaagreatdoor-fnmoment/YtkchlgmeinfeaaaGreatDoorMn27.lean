import Derived.Test.YtkchlgmeinfeaaaGreatDoorMn24
import Derived.Test.YtkchlgmeinfeaaaGreatDoorMn26
namespace Go.Proofs.YtkchlgmeinfeaaaGreatDoor
open Go.Proofs.Tryz
set_option maxRecDepth 100000
set_option maxHeartbeats 4000000
open Go.RowKit Go.Deep
theorem Sy.Cl.ex {y:Sy} {c:List Int}:∀ (n:Nat) (e:List Int),sm e<=n->y.Cl c e->∃ e',y.Cl c e'/\y.Wh (cN e')
 | n,e,hn,h=>by
  by_cases hw:y.Wh (cN e)
  ·exact ⟨e,h,hw⟩
  ·obtain ⟨a,ha,b,hb,hno⟩:∃ a,a<y.pn/\∃ b,b<y.pn/\¬ tN y (cN e) a b<=sN y (cN e) a b:=by
    apply Classical.byContradiction;intro hc;exact hw fun a ha b hb=>Classical.byContradiction fun h'=>hc ⟨a,ha,b,hb,h'⟩
   have ho:0<=ovN y (cN e) a b:=by
    apply Classical.byContradiction;intro h0;exact hno (qd9.1 (by omega))
   obtain ⟨h1,h2,h3⟩:=h.next ha hb ho;have hlt:=qr8 e b _ (by rw [h.len];exact hb) h3 h2;cases n with
   | zero=>omega
   | succ n=>exact Sy.Cl.ex n _ (by omega) h1
theorem qw7 {y:Sy} {n p:Nat} (h:p<n):zi (flT y n) p=(y.hL p:Int):=by
 unfold zi flT;simp [List.getD_eq_getElem?_getD,h]
theorem qam.weak {z:Bool} {w:World} {B:Nat} {y:Sy} {v:Value} (o:qam z w B y v):qam false w B y v:=by
 obtain ⟨c,vp,vs,vw,vh,up,us,uw,uh,e,o⟩:=o;exact ⟨c,vp,vs,vw,vh,up,us,uw,uh,e,o.weak⟩
theorem qm3 {rs:List Int} (h:allN rs=true) (k:Nat):numB (zi rs k)=true:=by
 by_cases hk:k<rs.length
 ·exact (List.all_eq_true.1 h) _ (qsr hk)
 ·unfold zi
  rw [List.getD_eq_getElem?_getD,List.getElem?_eq_none (by omega)];decide
theorem qvh {g:Nat->I5} {len:Nat} {p:Int} {rs os:List Int} {code k q v:Int} (h:doB g len p rs os code k q v=true):numB v=true:=by
 have hr:=qcw h
 have hs:qc1 len p rs os code=true:=by
  simp only [qbv,nH] at hr;exact hr.1.2
 obtain ⟨⟨r0,r1,r2,r3,rfl,n0,n1,n2,n3⟩,-⟩:=qbw hs;have ha:allN [r0,r1,r2,r3]=true:=by simp [allN,n0,n1,n2,n3]
 unfold doB canB at h
 split at h
 ·simp only [nH] at h
  exact h.1.2
 ·simp only [nH,beq_iff_eq] at h
  rw [h.2.2.2,nxW,nC hr];unfold evW
  split
  ·exact qm3 ha _
  ·split
   ·exact qm3 ha _
   ·decide
theorem qwy {g:Nat->I5} {n:Nat} {eh:Nat->E3} {m k:Nat} {S:S4} (h:rp g n eh m=some S) (hk:k<m):numB (eh k).v=true:=by
 cases h0:rp g n eh k with
 | none=>
  have:=qee h0 (nJ hk);rw [this] at h;cases h
 | some T=>
  cases hd:doB g n T.p T.rs T.os T.c (eh k).k (eh k).q (eh k).v with
  | true=>exact qvh hd
  | false=>
   have:=qee (qry h0 hd) hk;rw [this] at h;cases h
theorem qtx {g:Nat->I5} {n:Nat} {eh:Nat->E3} {m k:Nat} {S:S4} (h:repO g n eh m=some S) (hk:k<=m):∃ T,repO g n eh k=some T:=by
 obtain ⟨h1,h2,h3⟩:=qbe h;unfold repO;rw [nC ⟨h1,by omega⟩];cases h0:rp g n eh k with
 | none=>
  rw [qee h0 hk] at h3;cases h3
 | some T=>exact ⟨T,rfl⟩
theorem qf4 (eh:Nat->E3) (kd pr:Int) (n:Nat):∀ k,∃ t,valL eh kd pr (n+k)=valL eh kd pr n ++ t
 | 0=>⟨[],by simp⟩
 | k+1=>by
  obtain ⟨t,h⟩:=qf4 eh kd pr n k
  rcases zK (hitB eh kd pr (n+k)) with e | e
  ·exact ⟨t ++ [(eh (n+k)).v],by rw [<- Nat.add_assoc,qhb e,h,List.append_assoc]⟩
  ·exact ⟨t,by rw [<- Nat.add_assoc,qhc e,h]⟩
theorem qf3 (eh:Nat->E3) (kd pr:Int) (n:Nat):(valL eh kd pr n).length=cnt eh kd pr n:=by simp [valL,cnt]
theorem qum {eh:Nat->E3} {kd pr:Int} {n:Nat} (h:∀ i,i<n->numB (eh i).v=true):allN (valL eh kd pr n)=true:=by
 rw [allN,List.all_eq_true];intro v hv;simp only [valL,List.mem_map] at hv;obtain ⟨i,hi,rfl⟩:=hv;obtain ⟨j,hj⟩:=List.mem_iff_getElem?.1 hi;exact h i (qju eh kd pr n j i hj).1
theorem qof (l:List Int):∀ n,n<=l.length->numL (itL l) n=l.take n
 | 0,_=>by simp [numL]
 | n+1,h=>by
  rw [qfq (by rfl),qof l n (by omega),List.take_add_one,List.getElem?_eq_getElem (by omega)];simp [itL,zi,List.getD_eq_getElem?_getD,List.getElem?_eq_getElem (show n<l.length by omega)]
theorem qvf {y:Sy} {d:Nat->Nat} (hO:y.Ok) (_hd:∀ p,p<y.pn->d p<=y.hL p) (hw:y.Wh d) {d':Nat->Nat} (h:y.hs.Put d'):(y.ah d).Put (fun p=>min (d' p) (d p)):=by
 induction h with
 | start=>
  have e:(fun p=>min 0 (d p))=fun _=>0:=funext fun p=>by omega
  show (y.ah d).Put (fun p=>min 0 (d p));rw [e];exact .start
 | @next d' p hput hp hc ih=>
  have hp':p<y.pn:=hp;by_cases hlt:d' p<d p
  ·have e:(fun i=>min (up d' p i) (d i))=up (fun i=>min (d' i) (d i)) p:=funext fun i=>by
    by_cases ei:i=p
    ·subst ei
     rw [qbu,qbu];omega
    ·rw [up_other ei,up_other ei]
   rw [e];have em:min (d' p) (d p)=d' p:=by omega
   refine .next ih hp ⟨by show min (d' p) (d p)<d p;omega,fun hk=>?_⟩;have hk:(y.hH p (min (d' p) (d p))).k=3:=hk;show cnt (y.hH p) 3 (y.hH p (min (d' p) (d p))).q (min (d' p) (d p))<cnt (y.hH (y.hH p (min (d' p) (d p))).q.toNat) 2 p (min (d' (y.hH p (min (d' p) (d p))).q.toNat) (d (y.hH p (min (d' p) (d p))).q.toNat));rw [em] at hk ⊢;have h1:d' p<y.hL p:=hc.1;have hq:=hO.evq hp' h1;have h2:cnt (y.hH p) 3 (y.hH p (d' p)).q (d' p)<cnt (y.hH (y.hH p (d' p)).q.toNat) 2 p (d' (y.hH p (d' p)).q.toNat):=hc.2 hk;have h3:=hw (y.hH p (d' p)).q.toNat (by omega) p hp';unfold tN sN at h3;rw [show (((y.hH p (d' p)).q.toNat:Nat):Int)=(y.hH p (d' p)).q by omega] at h3;have hh:hitB (y.hH p) 3 (y.hH p (d' p)).q (d' p)=true:=qc5.2 ⟨hk,rfl⟩;have h4:=qfh (y.hH p) 3 (y.hH p (d' p)).q (show d' p+1<=d p from hlt);rw [qhl hh] at h4
   rcases Nat.le_total (d' (y.hH p (d' p)).q.toNat) (d (y.hH p (d' p)).q.toNat) with h5 | h5
   ·rw [Nat.min_eq_left h5]
    exact h2
   ·rw [Nat.min_eq_right h5]
    omega
  ·have e:(fun i=>min (up d' p i) (d i))=fun i=>min (d' i) (d i):=funext fun i=>by
    by_cases ei:i=p
    ·subst ei
     rw [qbu];omega
    ·rw [up_other ei]
   rw [e];exact ih
theorem Sy.Ok.wayOf {y:Sy} (h:y.Ok) {a b:Nat} (ha:a<y.pn) (hb:b<y.pn):cnt (y.hH b) 3 a (y.hL b)+(numL (y.wH (a*y.pn+b)) (y.wL (a*y.pn+b))).length=cnt (y.hH a) 2 b (y.hL a):=by
 have e:=congrArg List.length (h.wa a ha b hb).eq;rw [List.length_append,qf3,qf3] at e;exact e
theorem Sy.Ok.atOk {y:Sy} {d:Nat->Nat} (h:y.Ok) (hd:∀ p,p<y.pn->d p<=y.hL p) (hw:y.Wh d) (hf:wfB (y.ah d)=true):(y.atY d).Ok:=by
 have hrp:∀ p,p<y.pn->∃ T,repO (y.pH p) (y.pL p) (y.hH p) (d p)=some T:=fun p hp=>qtx (h.rp p hp) (hd p hp);refine ⟨⟨h.cn.1,rfl,rfl,rfl⟩,h.pr,fun p hp=>?_,fun p hp i hi=>h.pe p hp i (zL hi (hd p hp)),fun a ha b hb=>?_,?_⟩
 ·obtain ⟨T,hT⟩:=hrp p hp
  show repO (y.pH p) (y.pL p) (y.hH p) (d p)=some (resS (repO (y.pH p) (y.pL p) (y.hH p) (d p)));rw [hT];rfl
 ·have ha:a<y.pn:=ha
  have hb:b<y.pn:=hb;obtain ⟨e1,e2⟩:=qv5 (a:=a) hb;have hl:(wyL (y.ah d) a b).length<=12:=qhy.1 hf a ha b hb;have hnum:allN (valL (y.hH a) 2 b (d a))=true:=qum fun i hi=>qwy (qbe (h.rp a ha)).2.2 (zL hi (hd a ha));show WayP (itL (wyL (y.ah d) ((a*y.pn+b) / y.pn) ((a*y.pn+b) % y.pn))) (wyL (y.ah d) ((a*y.pn+b) / y.pn) ((a*y.pn+b) % y.pn)).length (valL (y.hH b) 3 a (d b)) (valL (y.hH a) 2 b (d a));rw [e1,e2];refine ⟨fun j _=>?_,hl,?_⟩
  ·have hv:numB (zi (wyL (y.ah d) a b) j)=true:=by
    show numB (zi ((valL (y.hH a) 2 b (d a)).drop (cnt (y.hH b) 3 a (d b))) j)=true;rw [qnt];exact qm3 hnum _
   simp [qci,itL,hv]
  ·rw [qof _ _ (nA _),List.take_length]
   show valL (y.hH b) 3 a (d b) ++ (valL (y.hH a) 2 b (d a)).drop (cnt (y.hH b) 3 a (d b))=valL (y.hH a) 2 b (d a);obtain ⟨t1,h1⟩:=qf4 (y.hH b) 3 a (d b) (y.hL b - d b);obtain ⟨t2,h2⟩:=qf4 (y.hH a) 2 b (d a) (y.hL a - d a);rw [show d b+(y.hL b - d b)=y.hL b by have:=hd b hb;omega] at h1;rw [show d a+(y.hL a - d a)=y.hL a by have:=hd a ha;omega] at h2;have e:=(h.wa a ha b hb).eq;rw [h1,h2] at e
   have hle:(valL (y.hH b) 3 a (d b)).length<=(valL (y.hH a) 2 b (d a)).length:=by
    rw [qf3,qf3];exact hw a ha b hb
   have e3:valL (y.hH b) 3 a (d b)=(valL (y.hH a) 2 b (d a)).take (valL (y.hH b) 3 a (d b)).length:=by
    have e4:=congrArg (List.take (valL (y.hH b) 3 a (d b)).length) e;rw [List.append_assoc,List.take_left,List.take_append_of_le_length hle] at e4;exact e4
   rw [<- qf3 (y.hH b) 3 a (d b)]
   conv=>lhs;lhs;rw [e3]
   exact List.take_append_drop _ _
 ·obtain ⟨dA,hA,hall⟩:=h.ro
  refine ⟨_,qvf h hd hw hA,fun p hp=>?_⟩;have:=hall p hp;have h1:dA p=y.hL p:=this;have h2:=hd p hp;show min (dA p) (d p)=d p;omega
theorem Sy.Wh.congr {y:Sy} {c d:Nat->Nat} (h:y.Wh c) (e:∀ p,p<y.pn->d p=c p):y.Wh d:=fun a ha b hb=>by
 have:=h a ha b hb;unfold tN sN at *;rw [e a ha,e b hb];exact this
open Go.ChangeShapes Go.WideShapes Go.ChangeAt Go.Sort Go.Maps
theorem qt0 (a b c d:Int) (w:World):(Instr.index 49 (.agg #[iV a,iV b,iV c,iV d]) (iV 0)).run prog w=.ok (iV a) w:=by kernel_rfl
theorem qt1 (a b c d:Int) (w:World):(Instr.index 49 (.agg #[iV a,iV b,iV c,iV d]) (iV 1)).run prog w=.ok (iV b) w:=by kernel_rfl
theorem qt2 (a b c d:Int) (w:World):(Instr.index 49 (.agg #[iV a,iV b,iV c,iV d]) (iV 2)).run prog w=.ok (iV c) w:=by kernel_rfl
theorem qt3 (a b c d:Int) (w:World):(Instr.index 49 (.agg #[iV a,iV b,iV c,iV d]) (iV 3)).run prog w=.ok (iV d) w:=by kernel_rfl
section
attribute [local go_sem] qt0 qt1 qt2 qt3
def hisZ (ha:Option Addr) (hn hc:Nat):List Value:=[.slice ha hn hc,iV 0,iV 0,iV 0,iV 0,iV 0,iV 0,iV 0,iV 0,iV 0,iV 0,iV 0,iV 0,iV 0,iV 0,iV 0,iV 0,iV 0,iV 0,iV 0,iV 0]
theorem qs9 (ha:Option Addr) (hn hc:Nat):(hisZ ha hn hc).length=21:=rfl
theorem qta (ha:Option Addr) (hn hc:Nat):∀ v ∈ hisZ ha hn hc,v.oneCell'=true:=by
 intro v hv;simp only [hisZ,List.mem_cons,List.not_mem_nil,or_false] at hv
 rcases hv with rfl | rfl | rfl | rfl | rfl | rfl | rfl | rfl | rfl | rfl | rfl | rfl | rfl | rfl | rfl | rfl | rfl | rfl | rfl | rfl | rfl <;> rfl
theorem qws:(prog.info? 52).map (·.size)=some 21:=by kernel_rfl
theorem HisQ.of_range {w:World} {X:Nat} {x:SysIn} (h:w.rangeAt X 0 (hisZ x.ha x.hn x.hc)) (hn:x.hn=x.pn) (hf:∀ j,w.frozen? ⟨X,j,none⟩=false):HisQ w X x.ha x.hc x.y.hs (fun _=>0):=by
 have hz:∀ j,j<20->w.cell? ⟨X,1+j,none⟩=some (iV 0):=fun j hj=>by
  have h1:(hisZ x.ha x.hn x.hc)[1+j]? = some (iV 0):=by
   match j,hj with
   | 0,_=>rfl
   | 1,_=>rfl
   | 2,_=>rfl
   | 3,_=>rfl
   | 4,_=>rfl
   | 5,_=>rfl
   | 6,_=>rfl
   | 7,_=>rfl
   | 8,_=>rfl
   | 9,_=>rfl
   | 10,_=>rfl
   | 11,_=>rfl
   | 12,_=>rfl
   | 13,_=>rfl
   | 14,_=>rfl
   | 15,_=>rfl
   | 16,_=>rfl
   | 17,_=>rfl
   | 18,_=>rfl
   | 19,_=>rfl
   | n+20,h=>exact absurd h (by omega)
  have:=h (1+j) _ h1
  rwa [nL] at this
 refine ⟨?_,fun i hi=>hz i (by omega),fun a b ha hb=>?_,hf⟩
 ·have:=h 0 _ rfl
  show w.cell? (aQ X 0)=some (.slice x.ha x.pn x.hc);rw [<- hn];exact this
 ·rw [Hs.opn_start,show 5+a*4+b=1+(4+a*4+b) by omega]
  exact hz _ (by omega)
def BoxS (w:World) (N:Nat) (a b:Value):Prop:=w.cell? (aQ N 0)=some a/\w.cell? (aQ N 1)=some b
theorem BoxS.lt {w:World} {N:Nat} {a b:Value} (h:BoxS w N a b):N<w.heap.size:=zJ w _ h.1
theorem BoxS.blk {w w':World} {N:Nat} {a b:Value} (h:BoxS w N a b) (hb:w'.heap[N]? = w.heap[N]?):BoxS w' N a b:=⟨(zH hb).trans h.1,(zH hb).trans h.2⟩
theorem BoxS.bw {w w':World} {N:Nat} {a b:Value} (h:BoxS w N a b) (hb:Bw w w'):BoxS w' N a b:=h.blk (hb.block N h.lt)
theorem BoxS.new (w:World) (a b:Value) (t:TypeId):BoxS (w.alloc (.cells #[a,b] t)) w.heap.size a b:=⟨zW _ _ _ 0 rfl,zW _ _ _ 1 rfl⟩
structure BoxF (w:World) (N:Nat) (f:Nat->Nat):Prop where
 c0:w.cell? (aQ N 0)=some (iV (f 0))
 c1:w.cell? (aQ N 1)=some (iV (f 1))
 c2:w.cell? (aQ N 2)=some (iV (f 2))
 c3:w.cell? (aQ N 3)=some (iV (f 3))
 fz:∀ j,w.frozen? ⟨N,j,none⟩=false
theorem BoxF_iff {w:World} {N:Nat} {f:Nat->Nat}:BoxF w N f ↔ w.cell? ⟨N,0,none⟩=some (iV (f 0))/\w.cell? ⟨N,1,none⟩=some (iV (f 1))/\w.cell? ⟨N,2,none⟩=some (iV (f 2))/\w.cell? ⟨N,3,none⟩=some (iV (f 3))/\∀ j,w.frozen? ⟨N,j,none⟩=false:=⟨fun h=>⟨h.c0,h.c1,h.c2,h.c3,h.fz⟩,fun h=>⟨h.1,h.2.1,h.2.2.1,h.2.2.2.1,h.2.2.2.2⟩⟩
theorem BoxF.lt {w:World} {N:Nat} {f:Nat->Nat} (h:BoxF w N f):N<w.heap.size:=zJ w _ h.c0
theorem BoxF.blk {w w':World} {N:Nat} {f:Nat->Nat} (h:BoxF w N f) (hb:w'.heap[N]? = w.heap[N]?):BoxF w' N f:=⟨(zH hb).trans h.c0,(zH hb).trans h.c1,(zH hb).trans h.c2,(zH hb).trans h.c3,fun j=>(zI hb).trans (h.fz j)⟩
theorem BoxF.bw {w w':World} {N:Nat} {f:Nat->Nat} (h:BoxF w N f) (hb:Bw w w'):BoxF w' N f:=h.blk (hb.block N h.lt)
theorem BoxF.new (w:World) (f:Nat->Nat) (t:TypeId):BoxF (w.alloc (.cells #[iV (f 0),iV (f 1),iV (f 2),iV (f 3)] t)) w.heap.size f:=⟨zW _ _ _ 0 rfl,zW _ _ _ 1 rfl,zW _ _ _ 2 rfl,zW _ _ _ 3 rfl,fun _=>yD _ _ _ _ rfl⟩
theorem BoxF.put {w:World} {N:Nat} {f:Nat->Nat} (h:BoxF w N f) (g:Nat->Nat):BoxF ((((w.setCell (aQ N 0) (iV (g 0))).setCell (aQ N 1) (iV (g 1))).setCell (aQ N 2) (iV (g 2))).setCell (aQ N 3) (iV (g 3))) N g/\qap (fun b=>b=N) w ((((w.setCell (aQ N 0) (iV (g 0))).setCell (aQ N 1) (iV (g 1))).setCell (aQ N 2) (iV (g 2))).setCell (aQ N 3) (iV (g 3))):=by
 obtain ⟨h0,h1,h2,h3,hf⟩:=h;exact ⟨⟨by go_cell,by go_cell,by go_cell,by go_cell,fun j=>by simpa using hf j⟩,(((qap.of_set (P:=fun b=>b=N) w (a:=(aQ N 0)) rfl _).trans (qap.of_set (P:=fun b=>b=N) _ (a:=(aQ N 1)) rfl _)).trans (qap.of_set (P:=fun b=>b=N) _ (a:=(aQ N 2)) rfl _)).trans (qap.of_set (P:=fun b=>b=N) _ (a:=(aQ N 3)) rfl _)⟩
def tnD (f:Nat->Nat):Nat->Nat->Nat
 | 0=>fun _=>0
 | k+1=>up (tnD f k) (f k)
theorem qf2 (f:Nat->Nat) (k:Nat):tnD f (k+1)=up (tnD f k) (f k):=rfl
def tnH (f:Nat->Nat) (k:Nat):Wo2:=⟨(f k:Nat),(tnD f k (f k):Nat)⟩
def rwF (h:Nat->Wo2) (k:Nat):Nat:=(h k).m.toNat
def Hs.RwAt (y:Hs) (h:Nat->Wo2) (k:Nat):Prop:=∃ p,p<y.n/\(h k).m=(p:Nat)/\(h k).v=(tnD (rwF h) k p:Nat)/\y.Can (tnD (rwF h) k) p
def Hs.RwOk (y:Hs) (h:Nat->Wo2) (n:Nat):Prop:=(∀ k,k<n->y.RwAt h k)/\y.All (tnD (rwF h) n)
noncomputable def rwB (y:Sy) (h:Nat->Wo2) (n:Nat):Bool:=y.okB && qB (y.hs.RwOk h n)
theorem qv0 {y:Sy} {h:Nat->Wo2} {n:Nat} (e:y.okB=true):rwB y h n=qB (y.hs.RwOk h n):=by rw [rwB,e];rfl
def Hs.Least (y:Hs) (d:Nat->Nat) (p:Nat):Prop:=p<y.n/\y.Can d p/\∀ j,j<p->¬ y.Can d j
theorem Hs.Least.one {y:Hs} {d:Nat->Nat} {p q:Nat} (h:y.Least d p) (h':y.Least d q):p=q:=by
 rcases Nat.lt_trichotomy p q with e | e | e
 ·exact absurd h.2.1 (h'.2.2 p e)
 ·exact e
 ·exact absurd h'.2.1 (h.2.2 q e)
open Classical in
noncomputable def Hs.lst (y:Hs) (d:Nat->Nat):Nat:=if h:∃ p,y.Least d p then h.choose else 0
theorem Hs.Least.lst {y:Hs} {d:Nat->Nat} {p:Nat} (h:y.Least d p):y.lst d=p:=by
 unfold Hs.lst;have he:∃ p,y.Least d p:=⟨p,h⟩
 rw [dif_pos he];exact he.choose_spec.one h
noncomputable def Hs.gr (y:Hs):Nat->Nat->Nat
 | 0=>fun _=>0
 | k+1=>up (y.gr k) (y.lst (y.gr k))
noncomputable def Hs.gf (y:Hs) (k:Nat):Nat:=y.lst (y.gr k)
theorem Hs.gr_tn (y:Hs):∀ k,tnD y.gf k=y.gr k
 | 0=>rfl
 | k+1=>by
  rw [qf2,Hs.gr_tn y k];rfl
theorem Hs.gr_next {y:Hs} {k p:Nat} (h:y.Least (y.gr k) p):y.gr (k+1)=up (y.gr k) p/\y.gf k=p:=by
 refine ⟨?_,h.lst⟩;show up (y.gr k) (y.lst (y.gr k))=_;rw [h.lst]
theorem Hs.gr_sum {y:Hs}:∀ {k:Nat},(∀ j,j<k->∃ p,y.Least (y.gr j) p)->sumL (y.gr k) y.n=k/\y.Put (y.gr k)
 | 0,_=>⟨qej _,.start⟩
 | k+1,hh=>by
  obtain ⟨h1,h2⟩:=Hs.gr_sum fun j hj=>hh j (Nat.lt_succ_of_lt hj);obtain ⟨p,hp⟩:=hh k (Nat.lt_succ_self _);rw [(Hs.gr_next hp).1,qh4 hp.1,h1];exact ⟨rfl,.next h2 hp.1 hp.2.1⟩
def Hs.tot (y:Hs):Nat:=sumL y.l y.n
theorem Hs.all_sum {y:Hs} {d:Nat->Nat} (h:y.All d):sumL d y.n=y.tot:=qf1 h
theorem Hs.gr_end {y:Hs} {k:Nat} (hh:∀ j,j<k->∃ p,y.Least (y.gr j) p) (hp:y.Peers) (hr:y.Row) (hs:∀ p,p<y.n->¬ y.Can (y.gr k) p):k=y.tot:=by
 obtain ⟨h1,h2⟩:=Hs.gr_sum hh;have h3:=(Hs.row_iff h2 hp hs).1 hr;rw [<- h1];exact Hs.all_sum h3
theorem Hs.gr_le {y:Hs} {k:Nat} (hh:∀ j,j<k->∃ p,y.Least (y.gr j) p):k<=y.tot:=by
 obtain ⟨h1,h2⟩:=Hs.gr_sum hh;rw [<- h1];exact qde h2.le _
theorem Hs.tot_le {y:Hs} (h4:y.n<=4) (hl:∀ i,i<y.n->y.l i<=200):y.tot<=800:=by
 have h9:∀ m,m<=y.n->sumL y.l m<=m*200:=by
  intro m
  induction m with
  | zero=>exact fun _=>nA _
  | succ m ih=>
   intro hm;have h3:=ih (by omega);have h5:=hl m hm;show sumL y.l m+y.l m<=(m+1)*200;omega
 have:=h9 _ (nA _);unfold Hs.tot;omega
noncomputable def rwN (y:Sy):Nat:=if y.okB=true then y.hs.tot else 0
noncomputable def rwH (y:Sy):Nat->Wo2:=tnH y.hs.gf
theorem qpx {w:World} {B:Nat} {a:Option Addr} {cap lo:Nat} {xs:List Int} (h:OwnI w B (.slice a xs.length cap) xs) (hl:lo<=xs.length):
  ∃ a',(∀ w',(Instr.slice 30 (.slice a xs.length cap) (some (iV (lo:Int))) none none).run prog w'=.ok (.slice a' (xs.drop lo).length (cap - lo)) w')/\∀ k,k<(xs.drop lo).length->∃ g o,a'=some ⟨g,o,none⟩/\B<=g/\g<w.heap.size/\w.cell? ⟨g,o+k,none⟩=some (iV (zi (xs.drop lo) k)):=by
 have hl':(lo:Int)<=(xs.length:Int):=by omega
 rcases h.2 with ⟨e,h0⟩ | ⟨g,cp,cur,e,hb,hg,hnc,-⟩
 ·simp only [Value.slice.injEq] at e
  obtain ⟨rfl,-,rfl⟩:=e;have h00:lo=0:=by omega
  subst h00;refine ⟨none,fun w'=>?_,fun k hk=>?_⟩
  ·rw [h0]
   simp [go_sem,h0]
  ·simp at hk
   omega
 ·simp only [Value.slice.injEq] at e
  obtain ⟨rfl,-,rfl⟩:=e;by_cases hc:cap=lo
  ·refine ⟨some (aQ g 0),fun w'=>?_,fun k hk=>?_⟩
   ·have e1:xs.length=lo:=by omega
    subst hc;simp [go_sem,e1]
   ·simp at hk
    omega
  ·refine ⟨some (aQ g lo),fun w'=>?_,fun k hk=>⟨g,lo,rfl,hb,(h.lt g rfl).2,?_⟩⟩
   ·simp [go_sem,hl',hc,Addr.add]
    exact fun h=>h.symm
   ·rw [qnt]
    exact h.cell (by simp at hk;omega)
theorem qp2 (X hc:Nat) (ha:Option Addr) (hA:Nat->Option Addr) (hC:Nat->Nat) (y:Hs) (a b:Nat) (w:World) (c0:w.cell? ⟨X,0,none⟩=some (.slice ha y.n hc)) (hE:HisE w ha hA hC y) (hl:∀ i,i<y.n->y.l i<=200) (hbn:b<y.n):
  Calls prog 64 #[.pointer (some (aQ X 0)),iV a,iV b] w fun e w'=>∃ a1 c1,e=.returned (.slice a1 (cnt (y.e b) 3 a (y.l b)) c1)/\Bw w w':=by
 have HE:Hid (EvL w (hA b) (y.l b) (y.e b)):=hE.ev b hbn;have HLb:Hid (y.l b<=1048576):=by have:=hl b hbn;show _<=_;omega
 have hb':(b:Int)<(y.n:Int):=by omega
 obtain ⟨bh,oh,eh,ch⟩:=hE.row.at hbn;rw [eh] at c0;clear hE hl eh
 go_enter func64,ntmps64
 go_wp2_with fail
 refine (qc6 (hA b) (y.l b) _ (y.e b) 3 a w HLb.out HE.out).mono ?_;rintro e w1 ⟨v,rfl,o1,b1⟩;obtain ⟨a1,c1,rfl,-⟩:=o1.form;have O1:Hid (Bw w w1):=b1;clear o1 b1 c0 ch;go_wp2;go_ret;exact ⟨_,_,by rw [qcb];rfl,O1.out⟩
theorem ql1 (X hc:Nat) (ha:Option Addr) (hA:Nat->Option Addr) (hC:Nat->Nat) (y:Hs) (a b:Nat) (w:World) (c0:w.cell? ⟨X,0,none⟩=some (.slice ha y.n hc)) (hE:HisE w ha hA hC y) (hl:∀ i,i<y.n->y.l i<=200) (han:a<y.n) (hbn:b<y.n) (hle:cnt (y.e b) 3 a (y.l b)<=cnt (y.e a) 2 b (y.l a)):
  Calls prog 93 #[.pointer (some (aQ X 0)),iV a,iV b] w fun e w'=>∃ a1 c1,e=.returned (.slice a1 (wyL y a b).length c1)/\w'.ownsRow w.heap.size 94 2 (.slice a1 (wyL y a b).length c1) (wyL y a b).length (fT (itL (wyL y a b)) (wyL y a b).length)/\Value.slice a1 (wyL y a b).length c1≠nS/\Bw w w':=by
 have HS:Hid (∀ wx,Bw w wx->Calls prog 66 #[.pointer (some ⟨X,0,none⟩),iV a,iV b] wx fun e w'=>∃ a1 c1,e=.returned (.slice a1 (valL (y.e a) 2 b (y.l a)).length c1)/\OwnI w' wx.heap.size (.slice a1 (valL (y.e a) 2 b (y.l a)).length c1) (valL (y.e a) 2 b (y.l a))/\Bw wx w'):=fun wx hb=>qln X hc ha hA hC y a b wx ((hb.cell (p:=⟨X,0,none⟩) (zJ w _ c0)).trans c0) (hE.bw hb) hl han;have HT:Hid (∀ wx,Bw w wx->Calls prog 64 #[.pointer (some ⟨X,0,none⟩),iV a,iV b] wx fun e w'=>∃ a1 c1,e=.returned (.slice a1 (cnt (y.e b) 3 a (y.l b)) c1)/\Bw wx w'):=fun wx hb=>qp2 X hc ha hA hC y a b wx ((hb.cell (p:=⟨X,0,none⟩) (zJ w _ c0)).trans c0) (hE.bw hb) hl hbn
 have hlv:(valL (y.e a) 2 b (y.l a)).length<=200:=by
  rw [qcb];exact zP (qgx _ _ _ _) (hl a han)
 have hle':cnt (y.e b) 3 a (y.l b)<=(valL (y.e a) 2 b (y.l a)).length:=by
  rw [qcb];exact hle
 have hzs:wyL y a b=(valL (y.e a) 2 b (y.l a)).drop (cnt (y.e b) 3 a (y.l b)):=rfl;rw [hzs];clear hzs c0 hE hl hle;generalize cnt (y.e b) 3 a (y.l b)=tn at *;generalize valL (y.e a) 2 b (y.l a)=xs at *;have HO0:Hid ((w.alloc (.cells #[] 94)).ownsRow w.heap.size 94 2 (sG w.heap.size 0 0) 0 []):=World.ownsRow_made (base:=w.heap.size) (e:=94) (size:=2) w #[] 0 (nA _) (by unfold maxLen;omega) (by simp);have BW:Hid (Bw w (w.alloc (.cells #[] 94))/\(w.alloc (.cells #[] 94)).heap.size=w.heap.size+1):=⟨zT _ _,by simp⟩
 have HLE:Hid (tn<=xs.length/\xs.length<=200):=⟨hle',hlv⟩
 clear hle'
 go_enter func93,ntmps93
 go_wp2_with fail
 generalize w.alloc (.cells #[] 94)=W1 at *;refine (HS.out W1 BW.1).mono ?_;rintro e w1 ⟨a1,c1,rfl,o1,q1⟩;have O1:Hid (OwnI w1 W1.heap.size (.slice a1 xs.length c1) xs/\Bw W1 w1):=⟨o1,q1⟩
 clear o1 q1 HS;go_wp2_with fail
 refine (HT.out w1 (BW.1.trans (O1.2.mono BW.1.size))).mono ?_;rintro e w2 ⟨a2,c2,rfl,q2⟩;obtain ⟨a3,ks,hcell⟩:=qpx (O1.1.bw q2) HLE.1;have HC:Hid (∀ k,k<(xs.drop tn).length->∃ g o,a3=some ⟨g,o,none⟩/\W1.heap.size<=g/\g<w2.heap.size/\w2.cell? ⟨g,o+k,none⟩=some (iV (zi (xs.drop tn) k))):=hcell;have hzl:(xs.drop tn).length<=200:=by rw [List.length_drop];omega
 have hzl':((xs.drop tn).length:Int)<=200:=by omega
 have O2:Hid (w2.ownsRow w.heap.size 94 2 (sG w.heap.size 0 0) 0 []/\Bw W1 w2):=⟨qaw HO0.out fun k hk=>(O1.2.trans (q2.mono O1.2.size)).block k (HO0.lt k hk).2,O1.2.trans (q2.mono O1.2.size)⟩
 generalize hzs:xs.drop tn=zs at *;have HZS:Hid (xs.drop tn=zs):=hzs;clear hcell q2 O1 HT HO0 hlv HLE hzs;go_wp2_with fail
 clear ks
 go_loopw [7,22] (fun o i wr=>∃ k:Nat,k<=zs.length/\i=.int .i64 k/\Hid (wr.ownsRow w.heap.size 94 2 o k (fT (itL zs) k)/\o≠nS/\(∀ j,o.ownBlock=some j->j=w.heap.size\/w2.heap.size<=j)/\Bw w wr/\w2.heap.size<=wr.heap.size/\∀ g,W1.heap.size<=g->g<w2.heap.size->wr.heap[g]? = w2.heap[g]?)) (fun _ i _=>zs.length - (intOf i).toNat)
 case atStart=>exact ⟨0,nD _,rfl,O2.1,by simp,fun j hj=>by cases hj;exact .inl rfl,BW.1.trans (O2.2.mono BW.1.size),nA _,fun _ _ _=>rfl⟩
 case round=>
  clear O2;obtain ⟨k,hk,rfl,HB⟩:=hrel;by_cases hlt:k<zs.length
  ·have hlt':(k:Int)<(zs.length:Int):=by omega
   obtain ⟨g,o,rfl,hg1,hg2,ck⟩:=HC.out k hlt;have ck:wr.cell? ⟨g,o+k,none⟩=some (iV (zi zs k)):=(zH (HB.2.2.2.2.2 g hg1 hg2)).trans ck;have HK2:Hid (k<=2000000):=by show _<=_;omega
   have hgl:g<wr.heap.size:=by have:=HB.2.2.2.2.1;omega
   go_wp2_with (at_builtin; refine qao kndT wr rfl rfl _ _ rfl w.heap.size u7 k _ rfl HB.1 #[.bool false, .int .i64 (zi zs k)] rfl rfl (by intro u hu; simp at hu; rcases hu with rfl | rfl <;> rfl) HK2.out HB.2.2.2.1.size ?_; intro v5 w5 o5 g5 q5 n5; have F5 : Hid (w5.ownsRow w.heap.size 94 2 v5 (k + 1) (fT (itL zs) (k + 1)) ∧ v5 ≠ nS ∧ (∀ j, v5.ownBlock = some j → j = w.heap.size ∨ w2.heap.size ≤ j) ∧ Below w.heap.size w w5 ∧ w2.heap.size ≤ w5.heap.size ∧ ∀ g, W1.heap.size ≤ g → g < w2.heap.size → w5.heap[g]? = w2.heap[g]?) := ⟨o5, n5, fun j hj => by
     rcases q5 j hj with h | h
     ·exact HB.2.2.1 j h
     ·exact .inr (Nat.le_trans HB.2.2.2.2.1 h), Below.grown HB.2.2.2.1 g5 HB.2.2.2.1.size (fun j hj => (HB.1.lt j hj).1), Nat.le_trans HB.2.2.2.2.1 g5.size, fun b h1 h2 => (g5.block b (Nat.lt_of_lt_of_le h2 HB.2.2.2.2.1) (fun hj => by
      have e1:=BW.2
      rcases HB.2.2.1 b hj.symm with h | h <;> omega)).trans (HB.2.2.2.2.2 b h1 h2)⟩;clear o5 g5 q5 n5)
   go_roundw
   case rel=>exact ⟨k+1,by omega,by go_num,F5.out⟩
   case measure=>simp [intOf];omega
  ·have hkn:k=zs.length:=by omega
   subst hkn;obtain ⟨a4,c4,rfl⟩:=zU HB.1;go_wp2;go_ret;rw [HZS.out];exact ⟨a4,c4,rfl,HB.1,HB.2.1,HB.2.2.2.1⟩
theorem qp5 (X hc:Nat) (ha:Option Addr) (hA:Nat->Option Addr) (hC:Nat->Nat) (y:Hs) (w:World) (c0:w.cell? ⟨X,0,none⟩=some (.slice ha y.n hc)) (hE:HisE w ha hA hC y) (hl:∀ i,i<y.n->y.l i<=200) (h4:y.n<=4) (hle:∀ a,a<y.n->∀ b,b<y.n->cnt (y.e b) 3 a (y.l b)<=cnt (y.e a) 2 b (y.l a)):
  Calls prog 47 #[.pointer (some (aQ X 0))] w fun e w'=>∃ v u,e=.returned (.tuple #[v,.bool (wfB y)])/\(wfB y=true->LT true w' (fun k=>w.heap.size<=k/\k<w'.heap.size) v (y.n*y.n) u (fun i=>(wyL y (i / y.n) (i % y.n)).length) (fun i=>itL (wyL y (i / y.n) (i % y.n))))/\Bw w w':=by
 have HU:Hid (∀ wx,Bw w wx->∀ a b,a<y.n->b<y.n->Calls prog 93 #[.pointer (some ⟨X,0,none⟩),iV (a:Nat),iV (b:Nat)] wx fun e w'=>∃ a1 c1,e=.returned (.slice a1 (wyL y a b).length c1)/\w'.ownsRow wx.heap.size 94 2 (.slice a1 (wyL y a b).length c1) (wyL y a b).length (fT (itL (wyL y a b)) (wyL y a b).length)/\Value.slice a1 (wyL y a b).length c1≠nS/\Bw wx w'):=fun wx hb a b ha' hb'=>ql1 X hc ha hA hC y a b wx ((hb.cell (p:=⟨X,0,none⟩) (zJ w _ c0)).trans c0) (hE.bw hb) hl ha' hb' (hle a ha' b hb');have HC0:Hid (∀ wx,Bw w wx->wx.cell? ⟨X,0,none⟩=some (.slice ha y.n hc)):=fun wx hb=>(hb.cell (p:=⟨X,0,none⟩) (zJ w _ c0)).trans c0;have hl':(y.n:Int)<=4:=by omega
 have HW:Hid (∀ a b,a<y.n->(wyL y a b).length<=200):=fun a b ha'=>by
  unfold wyL;rw [List.length_drop,qcb];have h1:=qgx (y.e a) 2 b (y.l a);have h2:=hl a ha';omega
 have HF:Hid (wfB y=qB (∀ a,a<y.n->∀ b,b<y.n->(wyL y a b).length<=12)):=rfl;clear hE hl hle c0;generalize wfB y=R at *;obtain ⟨L,hLe⟩:∃ L:Nat->Nat,(fun i=>(wyL y (i / y.n) (i % y.n)).length)=L:=⟨_,rfl⟩
 obtain ⟨H,hHe⟩:∃ H:Nat->Nat->I2,(fun i=>itL (wyL y (i / y.n) (i % y.n)))=H:=⟨_,rfl⟩
 rw [hLe,hHe]
 have HLH:Hid (∀ k j,j<y.n->(wyL y k j).length=L (k*y.n+j)/\itL (wyL y k j)=H (k*y.n+j)):=fun k j hj=>by
  obtain ⟨e1,e2⟩:=qv5 (a:=k) hj;rw [<- hLe,<- hHe];dsimp only;rw [e1,e2];exact ⟨rfl,rfl⟩
 clear hLe hHe
 go_enter func47,ntmps47
 have c1:=HC0.out (w.alloc (.cells #[] 92)) (zT _ _);go_wp2_with fail
 clear c1
 go_loopw [4,14] (fun v i wr=>∃ k:Nat,k<=y.n/\i=.int .i64 k/\Hid ((∃ u,LT true wr (fun b=>w.heap.size<=b/\b<wr.heap.size) v (k*y.n) u L H)/\Bw w wr)/\Hid (∀ a,a<k->∀ b,b<y.n->(wyL y a b).length<=12)) (fun _ i _=>y.n - (intOf i).toNat)
 case atStart=>exact ⟨0,nD _,rfl,⟨⟨fun _=>.slice none 0 0,by rw [Nat.zero_mul];exact LL.new _ _ _ w _ (by simp) _ _ _⟩,zT _ _⟩,fun j hj=>by omega⟩
 case round=>
  obtain ⟨k,hk,rfl,HB,HK⟩:=hrel;by_cases hlt:k<y.n
  ·have hlt':(k:Int)<(y.n:Int):=by omega
   have c1:=HC0.out wr HB.2;go_wp2_with fail
   clear c1
   go_loopw [4,22] (fun v i wr=>∃ j:Nat,j<=y.n/\i=.int .i64 j/\Hid ((∃ u,LT true wr (fun b=>w.heap.size<=b/\b<wr.heap.size) v (k*y.n+j) u L H)/\Bw w wr)/\Hid (∀ b,b<j->(wyL y k b).length<=12)) (fun _ i _=>y.n - (intOf i).toNat)
   case atStart=>exact ⟨0,nD _,rfl,HB.out,fun j hj=>by omega⟩
   case round=>
    clear HB;obtain ⟨j,hj,rfl,HB,HJ⟩:=hrel;by_cases hjt:j<y.n
    ·have hjt':(j:Int)<(y.n:Int):=by omega
     go_wp2_with fail
     refine (HU.out _ HB.2 k j hlt hjt).mono ?_;rintro e w3 ⟨a3,c3,rfl,o3,n3,q3⟩;have hm:=HW.out k j hlt;by_cases ho:12<(wyL y k j).length
     ·have HV:Hid (R=false):=by
       show R=false;rw [HF.out]
       exact qar fun h=>by
        have h1:=h k hlt j hjt;omega
      have ho':(12:Int)<((wyL y k j).length:Int):=by omega
      have B3:Hid (Bw w w3):=HB.2.trans (q3.mono HB.2.size);generalize (wyL y k j).length=m at *;clear o3 n3 q3 HB;go_wp2;exact bodyPost_ret (v:=.tuple #[nS,.bool false]) (by simp [results,results47,go_sem]) rfl ⟨_,fun _=>.slice none 0 0,by rw [HV.out],fun h=>(by rw [HV.out] at h;cases h),B3.out⟩
     ·have ho':¬ (12:Int)<((wyL y k j).length:Int):=by omega
      have HJ':Hid (∀ b,b<j+1->(wyL y k b).length<=12):=fun b hb=>by
       by_cases e:b=j
       ·subst e
        omega
       ·exact HJ.out b (by omega)
      rw [(HLH.out k j hjt).1,(HLH.out k j hjt).2] at o3;rw [(HLH.out k j hjt).1] at n3 ho' hm ⊢;have h16:k*y.n<=4*4:=Nat.mul_le_mul (by omega) h4;have HK2:Hid (k*y.n+j<=2000000):=by show _<=_;omega
      have F4:Hid (w3.ownsRow wr.heap.size 94 2 (.slice a3 (L (k*y.n+j)) c3) (L (k*y.n+j)) (fT (H (k*y.n+j)) (L (k*y.n+j)))/\Bw wr w3/\Value.slice a3 (L (k*y.n+j)) c3≠nS):=⟨o3,q3,n3⟩
      obtain ⟨⟨u,oz⟩,bz⟩:=HB.out;have OZ:Hid (LT true wr (fun b=>w.heap.size<=b/\b<wr.heap.size) u4 (k*y.n+j) u L H):=oz;have BZ:Hid (Bw w wr):=bz;clear HJ o3 n3 q3 ho oz bz HB h16;generalize hkk:k*y.n+j=kk at *;have HKK:Hid (k*y.n+j=kk):=hkk;clear hkk;go_wp2_with (at_builtin;refine qao qmv w3 rfl rfl _ _ rfl 0 u4 kk _ rfl (OZ.bw F4.2.1).row #[.slice a3 (L kk) c3] rfl rfl (by intro u hu;simp at hu;subst hu;rfl) HK2.out (nD _) ?_;intro v5 w5 o5 g5 q5 n5;have F5:Hid (LT true w5 (fun b=>w.heap.size<=b/\b<w5.heap.size) v5 (kk+1) (fun j=>if j=kk then .slice a3 (L kk) c3 else u j) L H/\Bw w w5):=⟨OZ.push F4.2.1 F4.1 (fun _=>F4.2.2) o5 g5 q5 (fun j hj _=>⟨hj.1,zL hj.2 (zP F4.2.1.size g5.size)⟩) (fun j hj hj'=>⟨zP BZ.size hj,hj'⟩),Below.grown (BZ.trans (F4.2.1.mono BZ.size)) g5 (zP BZ.size F4.2.1.size) (fun j hj=>(OZ.rb j hj).1)⟩;clear o5 g5 q5 n5)
      go_roundw
      case rel=>exact ⟨j+1,by omega,by go_num,⟨⟨_,by rw [<- Nat.add_assoc,HKK.out];exact F5.1⟩,F5.2⟩,HJ'.out⟩
      case measure=>simp [intOf];omega
    ·have HK':Hid (∀ a,a<k+1->∀ b,b<y.n->(wyL y a b).length<=12):=fun a ha b hb=>by
      by_cases e:a=k
      ·subst e
       exact HJ.out b (by omega)
      ·exact HK.out a (by omega) b hb
     have hjn:j=y.n:=by omega
     have HB':Hid ((∃ u,LT true wr (fun b=>w.heap.size<=b/\b<wr.heap.size) u4 ((k+1)*y.n) u L H)/\Bw w wr):=by
      have:=HB.out;rw [hjn] at this;rw [Nat.add_mul,Nat.one_mul];exact this
     clear HK HJ HB hjn;go_wp2;go_roundw
     case rel=>exact ⟨k+1,by omega,by go_num,HB'.out,HK'.out⟩
     case measure=>simp [intOf];omega
  ·have HV:Hid (R=true):=by
    show R=true;rw [HF.out];exact qaz fun a ha b hb=>HK.out a (by omega) b hb
   have hkn:k=y.n:=by omega
   subst hkn;obtain ⟨⟨u,oz⟩,bz⟩:=HB.out;have OZ:Hid (LT true wr (fun b=>w.heap.size<=b/\b<wr.heap.size) u4 (y.n*y.n) u L H/\Bw w wr):=⟨oz,bz⟩
   clear HK HB oz bz;go_wp2;exact bodyPost_ret (v:=.tuple #[u4,.bool true]) (by simp [results,results47,go_sem]) rfl ⟨_,u,by rw [HV.out],fun _=>OZ.1,OZ.2⟩
theorem AtP.start {z:Bool} {B m3 m1:Nat} {w3 w1:World} {y:Sy} {vp vw:Value} {up uw:Nat->Value} (o3:LT z w3 (fun k=>m3<=k/\k<w3.heap.size) vw y.wn uw y.wL y.wH) (o1:LI z w1 (fun k=>m1<=k/\k<w1.heap.size) vp y.pn up y.pL y.pH) (hb:Bw w3 w1) (h1:w3.heap.size<=m1) (hB:B<=m3) (h3:m3<=w3.heap.size):
  ∃ c,AtP z B w1.heap.size c { y with sn:=0,hn:=0 } (w1.alloc (.cells #[vp,nS,vw,nS] 29)) vp nS vw nS up (fun _=>.slice none 0 0) uw (fun _=>.slice none 0 0):=by
 have hs:=hb.size;have ba:=zQ w1 (.cells #[vp,nS,vw,nS] 29);refine ⟨fun k=>if k=w1.heap.size then 0 else if k<w3.heap.size then 3 else 1,BoxC.new w1 _ _ _ _ _,fun j=>yD _ _ _ _ rfl,nC rfl,by omega,?_,LS.nil _ _ _ _,?_,LL.nil _ _ _ _ _ _ _ _⟩
 ·refine (o1.mono fun k hk _=>⟨by omega,?_⟩).bw ba
  show (if k=w1.heap.size then 0 else if k<w3.heap.size then 3 else 1)=1;rw [nB (by omega),nB (by omega)]
 ·refine ((o3.mono fun k hk _=>⟨by omega,?_⟩).bw hb).bw ba
  show (if k=w1.heap.size then 0 else if k<w3.heap.size then 3 else 1)=3;rw [nB (by omega),nC (by omega)]
def Sy.Rpl (y:Sy) (d:Nat->Nat):Prop:=∀ p,p<y.pn->(repO (y.pH p) (y.pL p) (y.hH p) (d p)).isSome=true
noncomputable def ctB (y:Sy) (d:Nat->Nat):Bool:=qB (y.Wh d) && (wfB (y.ah d) && qB (y.Rpl d))
noncomputable def ctS (y:Sy) (d:Nat->Nat):Sy:=if ctB y d=true then y.atY d else y.nil
theorem qwe {y:Sy} {d:Nat->Nat} (h:¬ y.Wh d):ctB y d=false:=by
 unfold ctB;rw [qar h];rfl
theorem qwf {y:Sy} {d:Nat->Nat} (h:wfB (y.ah d)=false):ctB y d=false:=by
 unfold ctB;rw [h];simp
theorem qwg {y:Sy} {d:Nat->Nat} (h:¬ y.Rpl d):ctB y d=false:=by
 unfold ctB;rw [qar h];simp
theorem qwh {y:Sy} {d:Nat->Nat} (h1:y.Wh d) (h2:wfB (y.ah d)=true) (h3:y.Rpl d):ctB y d=true:=by
 unfold ctB;rw [qaz h1,h2,qaz h3];rfl
theorem qsm (y:Sy) (d:Nat->Nat):(∀ a,a<(y.ah d).n->∀ b,b<(y.ah d).n->nthV ((y.ah d).e b) 3 a ((y.ah d).l b) (cnt ((y.ah d).e a) 2 b ((y.ah d).l a):Nat)<0) ↔ y.Wh d:=
 ⟨fun h a ha b hb=>(qd9 (y:=y) (c:=d)).1 (h a ha b hb),fun h a ha b hb=>(qd9 (y:=y) (c:=d)).2 (h a ha b hb)⟩
theorem qmh (X hc0:Nat) (ea:Option Addr) (eA:Nat->Option Addr) (eC:Nat->Nat) (y:Sy) (d:Nat->Nat) (pa:Option Addr) (pc:Nat) (pA:Nat->Option Addr) (pC:Nat->Nat) (w:World) (c0:w.cell? ⟨X,0,none⟩=some (.slice ea y.pn hc0)) (hE:HisE w ea eA eC (y.ah d)) (hl:∀ i,i<y.pn->d i<=200) (h4:y.pn<=4) (hP:RowS w pa y.pn fun i=>.slice (pA i) (y.pL i) (pC i)) (hI:∀ i,i<y.pn->∃ b,pA i=some ⟨b,0,none⟩/\b<w.heap.size/\qan w b 0 (y.pL i) (y.pH i)) (hpl:∀ i,i<y.pn->y.pL i<=1048576) (hV:w.cell? ⟨0,0,none⟩=some (.iface 221 (.agg #[.pointer (some ⟨1,132,none⟩)]))):
  Calls prog 21 #[.pointer (some (aQ X 0)),.slice pa y.pn pc] w fun e w'=>∃ v,e=.returned (.tuple #[v,.bool (ctB y d)])/\qam true w' w.heap.size (ctS y d) v/\Bw w w':=by
 have HVx:Hid (∀ wx,Bw w wx->wx.cell? ⟨0,0,none⟩=some (.iface 221 (.agg #[.pointer (some ⟨1,132,none⟩)]))):=fun wx hb=>(hb.cell (p:=⟨0,0,none⟩) (zJ w _ hV)).trans hV
 have HX3 : Hid (∀ wx, Below w.heap.size w wx → wx.cell? ⟨X, 0, none⟩ = some (.slice ea y.pn hc0) ∧ HisE wx ea eA eC (y.ah d) ∧ RowS wx pa y.pn (fun i => .slice (pA i) (y.pL i) (pC i)) ∧ ∀ i, i < y.pn → ∃ b, pA i = some ⟨b, 0, none⟩ ∧ b < wx.heap.size ∧ qan wx b 0 (y.pL i) (y.pH i)) := fun wx hb => ⟨(hb.cell (p := ⟨X, 0, none⟩) (World.block_lt_of_cell? w _ c0)).trans c0, hE.bw hb, hP.bw hb, fun i hi => by
  obtain ⟨b,e,hlt,hI⟩:=hI i hi
  exact ⟨b,e,zL hlt hb.size,hI.bw hb hlt⟩⟩
 have HWh:Hid (∀ wx,Bw w wx->Calls prog 23 #[.pointer (some ⟨X,0,none⟩)] wx (rB wx (.bool (qB (y.Wh d))))):=fun wx hb=>by
  have h:=qgw X hc0 ea eA eC (y.ah d) wx (HX3.out wx hb).1 (HX3.out wx hb).2.1 (fun i hi=>hl i hi) h4
  have e:qB (y.Wh d)=qB (∀ a,a<(y.ah d).n->∀ b,b<(y.ah d).n->nthV ((y.ah d).e b) 3 a ((y.ah d).l b) (cnt ((y.ah d).e a) 2 b ((y.ah d).l a):Nat)<0):=by
   by_cases hw:y.Wh d
   ·rw [qaz hw,qaz ((qsm y d).2 hw)]
   ·rw [qar hw,qar fun h=>hw ((qsm y d).1 h)]
  rw [e];exact h
 have HW:Hid (y.Wh d->∀ wx,Bw w wx->Calls prog 47 #[.pointer (some ⟨X,0,none⟩)] wx fun e w'=>∃ v u,e=.returned (.tuple #[v,.bool (wfB (y.ah d))])/\(wfB (y.ah d)=true->LT true w' (fun k=>wx.heap.size<=k/\k<w'.heap.size) v (y.atY d).wn u (y.atY d).wL (y.atY d).wH)/\Bw wx w'):=fun hw wx hb=>qp5 X hc0 ea eA eC (y.ah d) wx (HX3.out wx hb).1 (HX3.out wx hb).2.1 (fun i hi=>hl i hi) h4 (fun a ha b hb=>hw a ha b hb)
 have HP : Hid (∀ wx, Below w.heap.size w wx → Calls prog 48 #[.slice pa y.pn pc] wx fun e w' => ∃ v u, e = .returned v ∧ LI true w' (fun k => wx.heap.size ≤ k ∧ k < w'.heap.size) v y.pn u y.pL y.pH ∧ Below wx.heap.size wx w') := fun wx hb => qdz pa y.pn pc pA y.pL pC y.pH wx (by omega) hpl (HX3.out wx hb).2.2.1 (fun i hi => by
  obtain ⟨b,e,hlt,hI⟩:=(HX3.out wx hb).2.2.2 i hi
  exact ⟨b,0,e,by rw [e];exact srcI hlt hI⟩)
 have HR:Hid (∀ wx,Bw w wx->∀ p,p<y.pn->Calls prog 49 #[.slice (pA p) (y.pL p) (pC p),.slice (eA p) (d p) (eC p)] wx (qcy wx ((y.atY d).sS p) (repO (y.pH p) (y.pL p) (y.hH p) (d p)).isSome)):=fun wx hb p hp=>by
  obtain ⟨b,e,hlt,hI⟩:=(HX3.out wx hb).2.2.2 p hp;rw [e];exact qgv b (y.pL p) (pC p) (eA p) (d p) (eC p) (y.pH p) (y.hH p) wx (by have:=hpl p hp;unfold maxLen;omega) hlt hI ((HX3.out wx hb).2.1.ev p hp) (by have:=hl p hp;omega) (HVx.out wx hb)
 have HK:Hid (∀ wx,Bw w wx->∀ p,p<y.pn->Calls prog 50 #[.slice (eA p) (d p) (eC p)] wx fun e w'=>∃ a1 c1,e=.returned (.slice a1 (d p) c1)/\w'.ownsRow wx.heap.size 47 3 (.slice a1 (d p) c1) (d p) (fE (y.hH p) (d p))/\Value.slice a1 (d p) c1≠nS/\Bw wx w'):=fun wx hb p hp=>qhn (eA p) (d p) (eC p) (y.hH p) wx (by have:=hl p hp;omega) (srcE ((HX3.out wx hb).2.1.ev p hp));have HN:Hid (y.pn<=4):=h4;have BW:Hid (Bw w (w.alloc (zQ3))):=zQ _ _;have RB:Hid (BoxC (w.alloc (zQ3)) w.heap.size nS nS nS nS/\∀ j,(w.alloc (zQ3)).frozen? ⟨w.heap.size,j,none⟩=false):=⟨BoxC.new w _ _ _ _ _,fun j=>yD _ _ _ _ (by simp)⟩
 have hM:w.heap.size<=w.heap.size:=nA _;have HNO:Hid (ctB y d=false->ctS y d=y.nil):=fun h=>nB (by rw [h];simp);have HYES:Hid (ctB y d=true->ctS y d=y.atY d):=fun h=>nC h;have HC1:Hid (qB (y.Wh d)=false->ctB y d=false):=fun h=>qwe fun hw=>by rw [qaz hw] at h;cases h
 have HC2:Hid (wfB (y.ah d)=false->ctB y d=false):=qwf;have HC3:Hid (¬ y.Rpl d->ctB y d=false):=qwg;have HC4:Hid (qB (y.Wh d)=true->wfB (y.ah d)=true->y.Rpl d->ctB y d=true):=fun h1=>qwh (qhy.1 h1);have HW':Hid (qB (y.Wh d)=true->∀ wx,Bw w wx->Calls prog 47 #[.pointer (some ⟨X,0,none⟩)] wx fun e w'=>∃ v u,e=.returned (.tuple #[v,.bool (wfB (y.ah d))])/\(wfB (y.ah d)=true->LT true w' (fun k=>wx.heap.size<=k/\k<w'.heap.size) v (y.atY d).wn u (y.atY d).wL (y.atY d).wH)/\Bw wx w'):=fun h=>HW.out (qhy.1 h);clear c0 hE hl h4 hP hI hpl hV HW;generalize qB (y.Wh d)=tw at *;generalize wfB (y.ah d)=wf at *;generalize ctB y d=R at *;generalize ctS y d=RS at *
 go_enter func21,ntmps21
 go_wp2_with fail
 generalize w.alloc (zQ3)=W2 at *;refine (HWh.out W2 BW.out).mono ?_;rintro e w1 ⟨rfl,q1⟩;have B1:Hid (Bw w w1/\BoxC w1 w.heap.size nS nS nS nS/\∀ j,w1.frozen? ⟨w.heap.size,j,none⟩=false):=⟨BW.trans (q1.mono BW.size),RB.1.bw q1,fun j=>((qae q1).2 _ j (zJ _ _ RB.1.1)).trans (RB.2 j)⟩
 clear q1 BW RB HWh;have l1:w.heap.size<w1.heap.size:=zJ _ _ B1.2.1.1;cases tw with
 | false=>
  have HV:Hid (R=false/\RS=y.nil):=⟨HC1.out rfl,HNO.out (HC1.out rfl)⟩
  obtain ⟨⟨r0,r1,r2,r3⟩,rf⟩:=B1.2;clear HC1 HC2 HC3 HC4 HNO HYES HX3 HW' HP HR HK HVx;go_wp2;exact bodyPost_ret (v:=.tuple #[sysV none 0 0 none 0 0 none 0 0 none 0 0,.bool false]) (by simp [results,results21,go_sem,r0,r1,r2,r3]) rfl ⟨_,by rw [HV.1],by rw [HV.2];exact qam.zero _ _ _,(((B1.1.setCell hM _).setCell hM _).setCell hM _).setCell hM _⟩
 | true=>
  have HWa:Hid (∀ wx,Bw w wx->Calls prog 47 #[.pointer (some ⟨X,0,none⟩)] wx fun e w'=>∃ v u,e=.returned (.tuple #[v,.bool wf])/\(wf=true->LT true w' (fun k=>wx.heap.size<=k/\k<w'.heap.size) v (y.atY d).wn u (y.atY d).wL (y.atY d).wH)/\Bw wx w'):=HW'.out rfl;have HC5:Hid (wf=true->y.Rpl d->R=true):=HC4.out rfl;clear HC1 HC4 HW';go_wp2_with fail
  refine (HWa.out w1 B1.1).mono ?_;rintro e w4 ⟨v4,u4,rfl,o4,q4⟩;have F4:Hid ((wf=true->LT true w4 (fun k=>w1.heap.size<=k/\k<w4.heap.size) v4 (y.atY d).wn u4 (y.atY d).wL (y.atY d).wH)/\Bw w1 w4):=⟨o4,q4⟩
  clear o4 q4 HWa;cases wf with
  | false=>
   have HV:Hid (R=false/\RS=y.nil):=⟨HC2.out rfl,HNO.out (HC2.out rfl)⟩
   obtain ⟨r0,r1,r2,r3⟩:=B1.2.1.bw F4.2;have rf:∀ j,w4.frozen? ⟨w.heap.size,j,none⟩=false:=fun j=>((qae F4.2).2 _ j l1).trans (B1.2.2 j);have Q4:Hid (Bw w w4):=B1.1.trans (F4.2.mono B1.1.size);clear HC2 HC3 HC5 HNO HYES HX3 HP HR HK HVx F4;go_wp2;exact bodyPost_ret (v:=.tuple #[sysV none 0 0 none 0 0 none 0 0 none 0 0,.bool false]) (by simp [results,results21,go_sem,r0,r1,r2,r3]) rfl ⟨_,by rw [HV.1],by rw [HV.2];exact qam.zero _ _ _,(((Q4.setCell hM _).setCell hM _).setCell hM _).setCell hM _⟩
  | true=>
   have HC6:Hid (y.Rpl d->R=true):=HC5.out rfl;have O4:Hid (LT true w4 (fun k=>w1.heap.size<=k/\k<w4.heap.size) v4 (y.atY d).wn u4 (y.atY d).wL (y.atY d).wH/\Bw w1 w4):=⟨F4.1 rfl,F4.2⟩
   clear HC2 HC5 F4;obtain ⟨a4,c4,rfl⟩:=zU O4.1.row;go_wp2_with fail
   refine (HP.out w4 (B1.1.trans (O4.2.mono B1.1.size))).mono ?_;rintro e w5 ⟨v5,uu5,rfl,o5,q5⟩;obtain ⟨a5,c5,rfl⟩:=zU o5.row;obtain ⟨cl5,st5⟩:=AtP.start (z:=true) (B:=w1.heap.size) (y:=y.atY d) O4.1 o5 q5 (nA _) (nA _) O4.2.size;have F5:Hid (AtP true w1.heap.size w5.heap.size cl5 { y.atY d with sn:=0,hn:=0 } (w5.alloc (oQ4 a5 y.pn c5 none 0 0 a4 (y.atY d).wn c4 none 0 0)) (.slice a5 y.pn c5) nS (.slice a4 (y.atY d).wn c4) nS uu5 (fun _=>.slice none 0 0) u4 (fun _=>.slice none 0 0)/\Bw w1 (w5.alloc (oQ4 a5 y.pn c5 none 0 0 a4 (y.atY d).wn c4 none 0 0))):=⟨st5,(O4.2.trans (q5.mono O4.2.size)).trans ((zQ _ _).mono (zP O4.2.size q5.size))⟩
   clear o5 q5 st5 HP;go_upto_region 7 with fail
   clear O4;generalize w5.alloc (oQ4 a5 y.pn c5 none 0 0 a4 (y.atY d).wn c4 none 0 0)=W5 at *;generalize hNN:w5.heap.size=N at *;clear hNN w5;have HX4:Hid (∀ wx,Bw w1 wx->Bw w wx/\BoxC wx w.heap.size nS nS nS nS/\(∀ j,wx.frozen? ⟨w.heap.size,j,none⟩=false)/\w1.heap.size<=wx.heap.size):=fun wx hb=>⟨B1.1.trans (hb.mono B1.1.size),B1.2.1.bw hb,fun j=>((qae hb).2 _ j l1).trans (B1.2.2 j),hb.size⟩
   have HL1:Hid (w.heap.size<w1.heap.size):=l1;clear B1 l1;have hn':(y.pn:Int)<=4:=by have:=HN.out;omega
   have hx0:=(HX3.out _ (HX4.out _ F5.2).1).1;go_wp2_with fail
   clear hx0
   go_loopw [34] (fun i wr=>∃ k:Nat,k<=y.pn/\i=.int .i64 k/\Hid ((∃ cl vs vh us uh,AtP true w1.heap.size N cl { y.atY d with sn:=k,hn:=k } wr (.slice a5 y.pn c5) vs (.slice a4 (y.atY d).wn c4) vh uu5 us u4 uh)/\Bw w1 wr)/\Hid (∀ p,p<k->(repO (y.pH p) (y.pL p) (y.hH p) (d p)).isSome=true)) (fun i _=>y.pn - (intOf i).toNat)
   case atStart=>exact ⟨0,nD _,rfl,⟨⟨_,_,_,_,_,F5.1⟩,F5.2⟩,fun p hp=>by omega⟩
   case round=>
    clear F5;obtain ⟨k,hk,rfl,HZ,HPs⟩:=hrel;by_cases hlt:k<y.pn
    ·have hlt':(k:Int)<(y.pn:Int):=by omega
     obtain ⟨hbw,-,-,hle3⟩:=HX4.out wr HZ.2;obtain ⟨-,hrw,hpw,-⟩:=HX3.out wr hbw;have RW:Hid (Bw w wr):=hbw;obtain ⟨be,oe,rfl,ce⟩:=hrw.row.at hlt;obtain ⟨bp,op,rfl,cp⟩:=hpw.at hlt;obtain ⟨⟨cl,vs,vh,us,uh,hA⟩,hbz⟩:=HZ.out;have AP:Hid (AtP true w1.heap.size N cl { y.atY d with sn:=k,hn:=k } wr (.slice a5 y.pn c5) vs (.slice a4 (y.atY d).wn c4) vh uu5 us u4 uh):=hA;have BZ:Hid (Bw w1 wr):=hbz;clear hA hbz HZ hle3 hbw hrw hpw;replace ce:wr.cell? ⟨be,oe+k,none⟩=some (.slice (eA k) (d k) (eC k)):=ce;go_wp2_with fail
     refine (HR.out wr RW.out k hlt).mono ?_;rintro e w6 ⟨v6,rfl,o6,q6⟩;obtain ⟨ra1,rc1,oa1,oc1,rfl,-,-⟩:=o6.read;clear ce cp;have S6:Hid (qaf w6 wr.heap.size (stV ((y.atY d).sS k).p ra1 ((y.atY d).sS k).rs.length rc1 oa1 ((y.atY d).sS k).os.length oc1 ((y.atY d).sS k).c) ((y.atY d).sS k).p ((y.atY d).sS k).rs ((y.atY d).sS k).os ((y.atY d).sS k).c/\Bw wr w6):=⟨o6,q6⟩
     clear o6 q6;generalize hTT:(y.atY d).sS k=T at *;have HTT:Hid ((y.atY d).sS k=T):=hTT;clear hTT;generalize hrb:(repO (y.pH k) (y.pL k) (y.hH k) (d k)).isSome=rb at *;have HRB:Hid ((repO (y.pH k) (y.pL k) (y.hH k) (d k)).isSome=rb):=hrb;clear hrb;have N7:Hid (BoxC (w6.alloc (oQ1 T.p ra1 T.rs.length rc1 oa1 T.os.length oc1 T.c)) w6.heap.size (iV T.p) (.slice ra1 T.rs.length rc1) (.slice oa1 T.os.length oc1) (iV T.c)/\Bw wr (w6.alloc (oQ1 T.p ra1 T.rs.length rc1 oa1 T.os.length oc1 T.c))/\qaf (w6.alloc (oQ1 T.p ra1 T.rs.length rc1 oa1 T.os.length oc1 T.c)) wr.heap.size (stV T.p ra1 T.rs.length rc1 oa1 T.os.length oc1 T.c) T.p T.rs T.os T.c):=⟨BoxC.new w6 _ _ _ _ _,S6.2.trans ((zQ _ _).mono S6.2.size),S6.1.bw (zQ _ _)⟩
     go_upto_region 11 with fail
     clear S6;generalize w6.alloc (oQ1 T.p ra1 T.rs.length rc1 oa1 T.os.length oc1 T.c)=w7 at *;generalize hN7:w6.heap.size=S7 at *;clear hN7 w6;cases rb with
     | false=>
      have hnr:¬ y.Rpl d:=fun h=>by
       have h1:=h k hlt;rw [HRB.out] at h1;cases h1
      have HV:Hid (R=false/\RS=y.nil):=⟨HC3.out hnr,HNO.out (HC3.out hnr)⟩
      have Q7:Hid (Bw w1 w7):=BZ.trans (N7.2.1.mono BZ.size);obtain ⟨hb7,⟨r0,r1,r2,r3⟩,rf,-⟩:=HX4.out w7 Q7.out;have B7:Hid (Bw w w7):=hb7;clear hb7 hnr HC3 HC6 HNO HYES HX3 HX4 HR HK HVx AP BZ N7 RW HRB HTT HPs;go_wp2;exact bodyPost_ret (v:=.tuple #[sysV none 0 0 none 0 0 none 0 0 none 0 0,.bool false]) (by simp [results,results21,go_sem,r0,r1,r2,r3]) rfl ⟨_,by rw [HV.1],by rw [HV.2];exact qam.zero _ _ _,(((B7.setCell hM _).setCell hM _).setCell hM _).setCell hM _⟩
     | true=>
      have HPs':Hid (∀ p,p<k+1->(repO (y.pH p) (y.pL p) (y.hH p) (d p)).isSome=true):=fun p hp=>by
       by_cases e:p=k
       ·subst e
        exact HRB.out
       ·exact HPs.out p (by omega)
      clear HPs HRB;go_upto_region 13 with fail
      obtain ⟨sa,sc,rfl⟩:=zU AP.o.s.row;obtain ⟨ha,hc,rfl⟩:=zU AP.o.h.row;obtain ⟨x0,x1,x2,x3⟩:=(AP.bw N7.2.1).bx;obtain ⟨s0,s1,s2,s3⟩:=N7.1;have hk2:Hid (k<=2000000):=by show k<=2000000;omega
      have lN7:N<w7.heap.size:=zJ _ _ x0;have lS7:S7<w7.heap.size:=zJ _ _ s0;go_upto_region 14 with (at_builtin;refine qao kndS w7 rfl rfl _ _ rfl 0 (.slice sa k sc) k _ rfl (AP.o.s.bw N7.2.1).row #[.int .i64 T.p,.slice ra1 T.rs.length rc1,.slice oa1 T.os.length oc1,.int .i64 T.c] rfl rfl (by intro u hu;simp at hu;rcases hu with rfl | rfl | rfl | rfl <;> rfl) hk2.out (nD _) ?_;intro v8 w8 o8 g8 q8 n8;obtain ⟨a8,c8,rfl⟩:=zU o8;obtain ⟨⟨z0,z1,z2,z3⟩,zf⟩:=AP.box N7.2.1 g8 (fun k hk=>(AP.gS k hk).2);have F8:Hid (AtP true w1.heap.size N (rcol cl wr.heap.size 2) { y.atY d with sn:=k+1,hn:=k } (w8.setCell (aQ N 1) (.slice a8 (k+1) c8)) (.slice a5 y.pn c5) (.slice a8 (k+1) c8) (.slice a4 (y.atY d).wn c4) (.slice ha k hc) uu5 (fun j=>if j=k then stV T.p ra1 T.rs.length rc1 oa1 T.os.length oc1 T.c else us j) u4 uh/\Bw w1 (w8.setCell (aQ N 1) (.slice a8 (k+1) c8))):=⟨AP.state N7.2.1 (by rw [HTT.out];exact N7.2.2) o8 g8 q8,(Below.grown (BZ.trans (N7.2.1.mono BZ.size)) g8 (zP BZ.size N7.2.1.size) (fun j hj=>(AP.gS j hj).1)).setCell AP.bN _⟩;clear o8 g8 q8 n8)
      clear x0 x1 x2 x3 s0 s1 s2 s3 z0 z1 z2 z3 zf lN7 lS7 N7 AP;generalize w8.setCell (aQ N 1) (.slice a8 (k+1) c8)=w9 at *;clear w8;obtain ⟨x0,x1,x2,x3⟩:=F8.1.bx;have lN9:N<w9.heap.size:=F8.1.lt;have q0:Bw w9 w9.drew:=(nE w9.heap.size w9).drew;obtain ⟨hbw,-⟩:=HX4.out w9.drew (F8.2.trans (q0.mono F8.2.size));refine qah (fun w'=>w'.cell? (aQ N 3)=some (.slice ha k hc)) (fun i=>i == 7) (by kernel_rfl) ?_;have hHeld:(fun w':World=>w'.cell? (aQ N 3)=some (.slice ha k hc)) w9.drew:=(q0.cell (p:=(aQ N 3)) lN9).trans x3;refine qa0 [0,1,2] ?_;iterate 3 (refine qba rfl hHeld ?_)
      refine qav ?_;refine yW 3 rfl fun K hK=>?_;refine qag rfl 50 _ _ rfl #[.slice (eA k) (d k) (eC k)] (by simp [Act.eval]) (yB func50) (HK.out w9.drew hbw k hlt) ?_;rintro e w10 ⟨a10,c10,rfl,o10,n10,d10⟩;refine ⟨_,rfl,?_⟩;have Q10:Hid (Bw w9 w10/\w10.ownsRow w9.heap.size 47 3 (.slice a10 (d k) c10) (d k) (fE (y.hH k) (d k))/\Value.slice a10 (d k) c10≠nS):=⟨q0.trans (d10.mono q0.size),o10,n10⟩
      refine hK.out _ _ (fun _=>(Q10.1.cell (p:=(aQ N 3)) lN9).trans x3) ?_;clear hHeld hK K o10 n10 d10 hbw q0
      (try simp only [Act.put,zD,zE,zF])
      refine yW 4 rfl fun K hK=>?_;go_simp;refine hK.out _ _ (fun _=>((Q10.1.trans ((zQ w10 _).mono Q10.1.size)).cell (p:=(aQ N 3)) lN9).trans x3) ?_;clear hK K
      (try simp only [Act.put,zD,zE,zF])
      refine yW 5 rfl fun K hK=>?_;refine qa4 qjg w10 rfl rfl _ _ rfl 0 (.slice ha k hc) k _ rfl (F8.1.o.h.bw Q10.1).row #[.slice a10 (d k) c10] rfl rfl (by intro u hu;simp at hu;subst hu;rfl) hk2.out (nD _) ?_;intro v11 w11 o11 g11 q11 n11;obtain ⟨a11,c11,rfl⟩:=zU o11;obtain ⟨⟨z0,z1,z2,z3⟩,zf⟩:=F8.1.box Q10.1 g11 (fun k hk=>(F8.1.gH k hk).2);have F9:Hid (AtP true w1.heap.size N (rcol (rcol cl wr.heap.size 2) w9.heap.size 4) { y.atY d with sn:=k+1,hn:=k+1 } (w11.setCell (aQ N 3) (.slice a11 (k+1) c11)) (.slice a5 y.pn c5) (.slice a8 (k+1) c8) (.slice a4 (y.atY d).wn c4) (.slice a11 (k+1) c11) uu5 (fun j=>if j=k then stV T.p ra1 T.rs.length rc1 oa1 T.os.length oc1 T.c else us j) u4 (fun j=>if j=k then .slice a10 (d k) c10 else uh j)/\Bw w1 (w11.setCell (aQ N 3) (.slice a11 (k+1) c11))):=⟨F8.1.hist Q10.1 Q10.2.1 Q10.2.2 o11 g11 q11,(Below.grown (F8.2.trans (Q10.1.mono F8.2.size)) g11 (zP F8.2.size Q10.1.size) (fun j hj=>(F8.1.gH j hj).1)).setCell F8.1.bN _⟩
      refine hK.out _ _ (fun _=>z3) ?_;clear o11 g11 q11 n11 hK K
      (try simp only [Act.put,zD,zE,zF])
      have hHeld:(fun w':World=>w'.cell? (aQ N 3)=some (.slice ha k hc)) w11:=z3;refine qbn 6 rfl hHeld ?_;refine yW 7 rfl fun K hK=>?_;have hfN1:=zf 3;go_simp;refine hK.out _ _ (fun h=>?_) ?_
      ·exact absurd h (by decide)
      clear hK K z0 z1 z2 z3 zf hfN1 x0 x1 x2 x3 Q10 F8 lN9
      (try simp only [Act.put])
      refine yX ?_ _;go_wp2;go_roundw
      case rel=>exact ⟨k+1,by omega,by go_num,⟨⟨_,_,_,_,_,F9.1⟩,F9.2⟩,HPs'.out⟩
      case measure=>simp [intOf];omega
    ·have hkn:k=y.pn:=by omega
     subst hkn;have hlt':¬ (y.pn:Int)<(y.pn:Int):=by omega
     have hr1:R=true:=HC6.out fun p hp=>HPs.out p hp;have HV:Hid (R=true/\RS=y.atY d):=⟨hr1,HYES.out hr1⟩
     obtain ⟨⟨cl,vs,vh,us,uh,hA⟩,hbz⟩:=HZ.out;obtain ⟨sa,sc,rfl⟩:=zU hA.o.s.row;obtain ⟨ha,hc,rfl⟩:=zU hA.o.h.row;obtain ⟨x0,x1,x2,x3⟩:=hA.bx;obtain ⟨hbw,⟨r0,r1,r2,r3⟩,rf,hle3⟩:=HX4.out wr hbz;have OS:Hid (qam true wr w1.heap.size (y.atY d) (.agg #[.slice a5 y.pn c5,.slice sa y.pn sc,.slice a4 (y.atY d).wn c4,.slice ha y.pn hc])):=⟨_,_,_,_,_,_,_,_,_,rfl,hA.o⟩
     have BW:Hid (Bw w wr/\w.heap.size<=w1.heap.size):=⟨hbw,by have:=HL1.out;omega⟩
     have lN:N<wr.heap.size:=hA.lt;have hNr:w1.heap.size<=N:=hA.bN;have l1:=HL1.out;have hl1:w.heap.size<wr.heap.size:=by omega
     clear hA HZ hbw hbz HX3 HX4 hr1 HC3 HC6 HNO HYES HPs;go_wp2
     exact bodyPost_ret (v := .tuple #[.agg #[.slice a5 y.pn c5, .slice sa y.pn sc, .slice a4 (y.atY d).wn c4, .slice ha y.pn hc], .bool true]) (by simp [results, results21, go_sem, r0, r1, r2, r3]) rfl ⟨_, by rw [HV.1], by
      rw [HV.2]
      exact ((((OS.setBelow l1 0 _).setBelow l1 1 _).setBelow l1 2 _).setBelow l1 3 _).base BW.2,(((BW.1.setCell hM _).setCell hM _).setCell hM _).setCell hM _⟩
theorem qpy (x:SysIn) (ca:Option Addr) (cc:Nat) (c:List Int) (w:World) (hG:SysG w x) (hL:x.Len) (hcap:∀ i,i<x.hn->x.hL i<=x.hC i) (hc:Sl w ca c) (hcl:c.length<=1048576):
  Calls prog 7 #[x.v,.slice ca c.length cc] w fun e w'=>∃ v,e=.returned (.tuple #[v,.bool (atB x.y c)])/\qam false w' w.heap.size (atS x.y c) v/\Bw w w':=by
 have HS:Hid (∀ wx,Bw w wx->Calls prog 9 #[x.v,.slice ca c.length cc] wx (rB wx (.bool (whB x.y c)))):=fun wx hb=>qf0 x ca cc c wx (hG.bw hb) hL hcap (hc.bw hb) hcl
 have HAt:Hid (whB x.y c=true->∀ wx,Bw w wx->Calls prog 22 #[x.v,.slice ca c.length cc] wx fun e w'=>∃ v,e=.returned (.tuple #[v,.bool (atB x.y c)])/\qam false w' wx.heap.size (atS x.y c) v/\Bw wx w'):=fun t wx hb=>by
  obtain ⟨hO,hC⟩:=qbj (ql3 t).1;have h:=qtm x ca cc c wx (hG.bw hb) hL hcap hO hC (hc.bw hb);have e1:atB x.y c=wfB (x.y.ah (cN c)):=by unfold atB;rw [t];rfl
  have e2:atS x.y c=x.y.atW (cN c):=nC t;rw [e1,e2];exact h
 have HNo:Hid (whB x.y c=false->atB x.y c=false/\atS x.y c=x.y.nil):=fun t=>⟨by unfold atB;rw [t];rfl,nB (by rw [t];simp)⟩
 have BW:Hid (Bw w ((w.alloc (x.oX)).alloc (zQ3))):=(zQ _ _).trans ((zQ _ _).mono (by simp));have NB:Hid (x.bX ((w.alloc (x.oX)).alloc (zQ3)) w.heap.size):=(BoxC.new w _ _ _ _ _).bw (zQ _ _);have RB:Hid (BoxC ((w.alloc (x.oX)).alloc (zQ3)) (w.heap.size+1) nS nS nS nS/\∀ j,((w.alloc (x.oX)).alloc (zQ3)).frozen? ⟨w.heap.size+1,j,none⟩=false):=⟨⟨zW _ _ _ 0 (by simp),zW _ _ _ 1 (by simp),zW _ _ _ 2 (by simp),zW _ _ _ 3 (by simp)⟩,fun j=>yD _ _ _ _ (by simp)⟩
 have hM:w.heap.size<=w.heap.size+1:=nK _;generalize atB x.y c=aB at *;generalize atS x.y c=aS at *;generalize whB x.y c=T at *;clear hG hL hcap hc
 go_enter func7,ntmps7
 go_wp2_with fail
 generalize (w.alloc (x.oX)).alloc (zQ3)=W2 at *;refine (HS.out W2 BW.out).mono ?_;rintro e w1 ⟨rfl,q1⟩;have B1:Hid (Bw w w1/\x.bX w1 w.heap.size/\BoxC w1 (w.heap.size+1) nS nS nS nS/\∀ j,w1.frozen? ⟨w.heap.size+1,j,none⟩=false):=⟨BW.trans (q1.mono BW.size),NB.bw q1,RB.1.bw q1,fun j=>((qae q1).2 _ j (zJ _ _ RB.1.1)).trans (RB.2 j)⟩
 clear q1 BW NB RB HS;have l1:w.heap.size+1<w1.heap.size:=zJ _ _ B1.2.2.1.1;obtain ⟨b0,b1,b2,b3⟩:=B1.2.1;cases T with
 | false=>
  have HV:=HNo.out rfl;obtain ⟨⟨r0,r1,r2,r3⟩,rf⟩:=B1.2.2;clear HNo HAt;go_wp2;exact bodyPost_ret (v:=.tuple #[sysV none 0 0 none 0 0 none 0 0 none 0 0,.bool false]) (by simp [results,results7,go_sem,r0,r1,r2,r3]) rfl ⟨_,by rw [HV.1],by rw [HV.2];exact qam.zero _ _ _,(((B1.1.setCell hM _).setCell hM _).setCell hM _).setCell hM _⟩
 | true=>
  have HA':Hid (∀ wx,Bw w wx->Calls prog 22 #[x.v,.slice ca c.length cc] wx fun e w'=>∃ v,e=.returned (.tuple #[v,.bool aB])/\qam false w' wx.heap.size aS v/\Bw wx w'):=HAt.out rfl;clear HNo HAt;go_wp2_with fail
  refine (HA'.out w1 B1.1).mono ?_;rintro e w2 ⟨v2,rfl,o2,q2⟩;obtain ⟨cl,vp,vs,vw,vh,up,us,uw,uh,rfl,o2⟩:=o2;obtain ⟨pa,pc,rfl⟩:=zU o2.p.row;obtain ⟨sa,sc,rfl⟩:=zU o2.s.row;obtain ⟨wa,wc,rfl⟩:=zU o2.t.row;obtain ⟨ha,hc,rfl⟩:=zU o2.h.row;have B2:Hid (Bw w w2/\qam false w2 w1.heap.size aS (.agg #[.slice pa aS.pn pc,.slice sa aS.sn sc,.slice wa aS.wn wc,.slice ha aS.hn hc])):=⟨B1.1.trans (q2.mono B1.1.size),_,_,_,_,_,_,_,_,_,rfl,o2⟩
  obtain ⟨r0,r1,r2,r3⟩:=B1.2.2.1.bw q2;have rf:∀ j,w2.frozen? ⟨w.heap.size+1,j,none⟩=false:=fun j=>((qae q2).2 _ j l1).trans (B1.2.2.2 j);clear o2 q2 b0 b1 b2 b3 HA';go_wp2;exact bodyPost_ret (v:=.tuple #[.agg #[.slice pa aS.pn pc,.slice sa aS.sn sc,.slice wa aS.wn wc,.slice ha aS.hn hc],.bool aB]) (by simp [results,results7,go_sem,r0,r1,r2,r3]) rfl ⟨_,rfl,((((B2.2.setBelow l1 0 _).setBelow l1 1 _).setBelow l1 2 _).setBelow l1 3 _).base B1.1.size,(((B2.1.setCell hM _).setCell hM _).setCell hM _).setCell hM _⟩
def spEq (p i q j:Int):Bool:=p == q && i == j
def hgN (y:Sy) (p i q j:Nat):Bool:=!spEq p i q j && decide (j<clk y p i q)
noncomputable def qxa (y:Sy) (p i q j:Int):Bool:=hasB y p i && hasB y q j
noncomputable def hgB (y:Sy) (p i q j:Int):Bool:=qxa y p i q j && hgN y p.toNat i.toNat q.toNat j.toNat
def ckN (y:Sy) (p i:Nat):List Int:=(List.range y.pn).map fun q=>(clk y p i q:Int)
theorem qvb (y:Sy) (p i:Nat):(ckN y p i).length=y.pn:=by simp [ckN]
theorem qv9 (y:Sy) (p i q:Nat) (hq:q<y.pn):zi (ckN y p i) q=(clk y p i q:Int):=by
 unfold zi ckN;rw [List.getD_eq_getElem?_getD,List.getElem?_map,List.getElem?_range hq];rfl
theorem BoxF.sl {w:World} {C:Nat} {y:Sy} {p i:Nat} (h:BoxF w C (clk y p i)) (h4:y.pn<=4):Sl w (some (aQ C 0)) (ckN y p i):=by
 refine .inr ⟨C,0,rfl,h.lt,fun q hq=>?_⟩;rw [qvb] at hq;rw [qv9 y p i q hq,nL];have hq4:q<4:=by omega
 match q,hq4 with
 | 0,_=>exact h.c0
 | 1,_=>exact h.c1
 | 2,_=>exact h.c2
 | 3,_=>exact h.c3
theorem qk4 (x:SysIn) (w:World) (hG:SysG w x) (hL:x.Len) (hV:w.cell? (aQ 0 0)=some vT):
  Calls prog 13 #[x.v] w fun e w'=>∃ u,e=.returned u/\OwnI w' w.heap.size u (flS x.y)/\Bw w w':=by
 have HG:Hid (SysG w x):=hG;have hl':(x.hn:Int)<=1048576:=by have:=hL.h.1;omega
 have HLh:Hid (∀ i,i<x.hn->x.hL i<=1048576):=hL.h.2;have HS:Hid (∀ wx,Bw w wx->Calls prog 10 #[x.v] wx (rB wx (.bool x.y.okB))):=fun wx hb=>qbq x wx (hG.bw hb) hL ((hb.cell (p:=⟨0,0,none⟩) (zJ w _ hV)).trans hV);have BW:Hid (Bw w ((w.alloc (x.oX)).alloc (.cells #[] 3))):=(zT _ _).trans ((zT _ _).mono (by simp));have NB:Hid (x.bX ((w.alloc (x.oX)).alloc (.cells #[] 3)) w.heap.size):=(BoxC.new w _ _ _ _ _).bw (zT _ _);have NO:Hid (OwnI ((w.alloc (x.oX)).alloc (.cells #[] 3)) (w.heap.size+1) (.slice (some ⟨w.heap.size+1,0,none⟩) 0 0) []):=qgf (w.alloc (x.oX)) (by simp)
 have LT:Hid (w.heap.size+1<=((w.alloc (x.oX)).alloc (.cells #[] 3)).heap.size):=by
  show _<=_;simp
 clear hG hL hV
 go_enter func13,ntmps13
 go_wp2_with fail
 generalize (w.alloc (x.oX)).alloc (.cells #[] 3)=W2 at *;refine (HS.out W2 BW.out).mono ?_;rintro e w1 ⟨rfl,q1⟩;have B1:Hid (OwnI w1 (w.heap.size+1) (.slice (some ⟨w.heap.size+1,0,none⟩) 0 0) []/\Bw w w1/\x.bX w1 w.heap.size/\w.heap.size+1<=w1.heap.size):=⟨NO.bw q1,BW.trans (q1.mono BW.size),NB.bw q1,zP LT.out q1.size⟩
 clear q1 BW NB NO LT HS
 rcases zK x.y.okB with t | t
 case inr=>
  have HV:Hid (flS x.y=[]):=by
   show flS x.y=[];rw [flS,nB (by rw [t];simp)]
  rw [t];clear t;go_wp2;go_ret;rw [HV.out];exact ⟨_,rfl,B1.1.mono (by omega),B1.2.1⟩
 have HV:Hid (flS x.y=flT x.y x.hn):=nC t;rw [t];clear t;have b3:=B1.2.2.1.2.2.2;go_wp2_with fail
 clear b3
 go_loopw [3,14] (fun o i wr=>∃ k:Nat,k<=x.hn/\i=.int .i64 k/\Hid (OwnI wr (w.heap.size+1) o (flT x.y k)/\Bw w wr/\x.bX wr w.heap.size/\w.heap.size+1<=wr.heap.size)) (fun _ i _=>x.hn - (intOf i).toNat)
 case atStart=>exact ⟨0,nD _,rfl,B1.out⟩
 case round=>
  clear B1;obtain ⟨k,hk,rfl,HB⟩:=hrel;by_cases hlt:k<x.hn
  ·have hlt':(k:Int)<(x.hn:Int):=by omega
   obtain ⟨bh,oh,eh,ch⟩:=(HG.bw HB.2.1).h.at hlt;rw [eh];have EH:Hid (x.ha=some (aQ bh oh)):=eh;clear eh;have hfl:=qvq x.y k;have hlk:(x.hL k:Int)<=1048576:=by have:=HLh.out k hlt;omega
   have HF:Hid (flT x.y (k+1)=flT x.y k ++ [(x.hL k:Int)]):=qs5 x.y k;have HFl:Hid ((flT x.y k).length<=1048576):=by show _<=_;omega
   clear hfl;go_wp2_with (at_builtin;refine qem wr rfl _ _ rfl (w.heap.size+1) u3 (flT x.y k) rfl HB.1 (x.hL k:Int) rfl HFl.out HB.2.2.2 ?_;intro v' w4 o4 b4;have H4:Hid (OwnI w4 (w.heap.size+1) v' (flT x.y (k+1))/\Bw w w4/\x.bX w4 w.heap.size/\w.heap.size+1<=w4.heap.size):=⟨o4.to HF.out,HB.2.1.trans (b4.mono (by omega)),HB.2.2.1.belowB b4 (by omega),zP HB.2.2.2 b4.size⟩;clear o4 b4)
   go_roundw
   case rel=>exact ⟨k+1,by omega,by go_num,H4⟩
   case measure=>simp [intOf];omega
  ·have hkl:k=x.hn:=by omega
   have H4:Hid (OwnI wr w.heap.size u3 (flS x.y)/\Bw w wr):=by
    have:=HB.out;rw [hkl] at this;rw [HV.out];exact ⟨this.1.mono (by omega),this.2.1⟩
   clear HB hkl;go_wp2;go_ret;exact ⟨_,rfl,H4.out⟩
structure Pw (w0:World) (X:Nat) (ha:Option Addr) (hc:Nat) (y:Hs) (d:Nat->Nat) (wr:World):Prop where
 be:Bw w0 wr
 hq:HisQ wr X ha hc y d
theorem Pw.bw {w0:World} {X:Nat} {ha:Option Addr} {hc:Nat} {y:Hs} {d:Nat->Nat} {wr w':World} (h:Pw w0 X ha hc y d wr) (hb:Bw wr w'):Pw w0 X ha hc y d w':=⟨h.be.trans (hb.mono h.be.size),h.hq.bw hb⟩
theorem Pw.turn {w0:World} {X:Nat} {ha:Option Addr} {hc:Nat} {y:Hs} {d d':Nat->Nat} {wr w':World} (h:Pw w0 X ha hc y d wr) (hX:w0.heap.size<=X) (t:qap (fun b=>b=X) wr w') (hq:HisQ w' X ha hc y d'):Pw w0 X ha hc y d' w':=⟨h.be.trans (t.bw h.be.size fun b e=>by omega),hq⟩
theorem qvr (x:SysIn) (W1:World) (hhn:x.hn=x.pn) (cs:List Value) (hcs:hisZ x.ha x.hn x.hc=cs):HisQ ((W1.alloc (zQ4)).setCells W1.heap.size 0 cs) W1.heap.size x.ha x.hc x.y.hs (fun _=>0)/\Bw W1 ((W1.alloc (zQ4)).setCells W1.heap.size 0 cs):=by
 subst hcs;have hT:(W1.alloc (zQ4)).there W1.heap.size 0 (hisZ x.ha x.hn x.hc).toArray.size:=qbm _ _ _ _ _ (by rfl) rfl;have hR:((W1.alloc (zQ4)).setCells W1.heap.size 0 (hisZ x.ha x.hn x.hc)).rangeAt W1.heap.size 0 (hisZ x.ha x.hn x.hc):=World.rangeAt_setCells_same _ _ _ _ (by simpa using hT);have tS:qap (fun b=>b=W1.heap.size) (W1.alloc (zQ4)) ((W1.alloc (zQ4)).setCells W1.heap.size 0 (hisZ x.ha x.hn x.hc)):=qap.sets (P:=fun b=>b=W1.heap.size) rfl _ _ (qap.refl _ _);refine ⟨HisQ.of_range hR hhn (fun j=>(World.frozen?_setCells _ _ _ _ _).trans (yD _ _ _ _ rfl)),(zT _ _).trans (tS.bw (by simp) fun c e=>by have e:c=W1.heap.size:=e;omega)⟩
def flW (h:Nat->Wo2):Nat->List Value
 | 0=>[]
 | n+1=>flW h n ++ [.int .i64 (h n).m,.int .i64 (h n).v]
theorem qip (h:Nat->Wo2):∀ n,(flW h n).length=n*2
 | 0=>rfl
 | n+1=>by
  rw [flW,List.length_append,qip h n];simp;omega
theorem quv (h:Nat->Wo2):∀ n i,i<n->(flW h n)[i*2]? = some (iV (h i).m)/\(flW h n)[i*2+1]? = some (iV (h i).v)
 | 0,i,hi=>by omega
 | n+1,i,hi=>by
  have hl:=qip h n;by_cases e:i=n
  ·subst e
   rw [flW,List.getElem?_append_right (by omega),List.getElem?_append_right (by omega),hl];simp
  ·obtain ⟨h0,h1⟩:=quv h n i (by omega)
   rw [flW,List.getElem?_append_left (by omega),List.getElem?_append_left (by omega)];exact ⟨h0,h1⟩
def OwR (w:World) (B:Nat) (v:Value) (n:Nat) (h:Nat->Wo2):Prop:=w.ownsRow B 43 2 v n (flW h n)/\v≠nS
theorem OwR.form {w:World} {B n:Nat} {v:Value} {h:Nat->Wo2} (o:OwR w B v n h):∃ g cap,v=.slice (some ⟨g,0,none⟩) n cap/\B<=g/\g<w.heap.size/\WoAt w g 0 n h/\∀ j,w.frozen? ⟨g,j,none⟩=false:=by
 obtain ⟨ho,hv⟩:=o
 rcases ho.2 with ⟨h0,_⟩ | ⟨g,cap,cur,rfl,hb,_⟩
 ·exact absurd h0 hv
 ·refine ⟨g,cap,rfl,hb,(ho.lt g rfl).2,fun i hi=>?_,fun j=>ho.frozenAt j⟩
  obtain ⟨f0,f1⟩:=quv h n i hi;rw [nL,ho.cellAt _ (by omega),ho.cellAt _ (by omega)];exact ⟨f0,f1⟩
theorem OwR.ofBlock {w w':World} {B n:Nat} {v:Value} {h:Nat->Wo2} (o:OwR w B v n h) (ha:∀ k,v.ownBlock=some k->w'.heap[k]? = w.heap[k]?):OwR w' B v n h:=by
 obtain ⟨ho,hv⟩:=o;refine ⟨?_,hv⟩
 rcases ho.2 with ⟨rfl,h0⟩ | ⟨g,cap,cur,rfl,hb,hg,hr⟩
 ·exact absurd rfl hv
 ·refine ⟨ho.1,.inr ⟨g,cap,cur,rfl,hb,?_,hr⟩⟩
  rw [ha g rfl];exact hg
theorem OwR.lt {w:World} {B n:Nat} {v:Value} {h:Nat->Wo2} (o:OwR w B v n h):∀ j,v.ownBlock=some j->B<=j/\j<w.heap.size:=fun j hj=>o.1.lt j hj
theorem OwR.mono {w:World} {B B' n:Nat} {v:Value} {h:Nat->Wo2} (o:OwR w B v n h) (hb:B'<=B):OwR w B' v n h:=⟨o.1.mono hb,o.2⟩
theorem OwR.bw {w w':World} {B n:Nat} {v:Value} {h:Nat->Wo2} (o:OwR w B v n h) (hb:Bw w w'):OwR w' B v n h:=o.ofBlock fun k hk=>hb.block k (o.lt k hk).2
theorem OwR.touch {w w':World} {B n:Nat} {v:Value} {h:Nat->Wo2} {P:Nat->Prop} (o:OwR w B v n h) (ht:qap P w w') (hp:∀ g,v.ownBlock=some g->¬ P g):OwR w' B v n h:=o.ofBlock fun k hk=>ht.block k (o.lt k hk).2 (hp k hk)
theorem qlm (c:Nat) (hc:c<=1048576) (w:World):
  (Instr.makeSlice 40 (iV 0) (iV (c:Int))).run prog w=.ok (sG w.heap.size 0 c) (w.alloc (.cells (madeCells (woV 0 0).cells (c*2)) 43)):=by
 have hinfo:=quy;cases hi:prog.info? 43 with
 | none=>rw [hi] at hinfo;cases hinfo
 | some i=>
  rw [hi] at hinfo;simp only [Option.map_some,nG,Prod.mk.injEq] at hinfo;obtain ⟨hz,hs,hb⟩:=hinfo;have h:=run_make (P:=prog) w 40 43 i _ Tryz.underlying40 hi hz .i64 .i64 (0:Int) (c:Int) (by omega) (by omega) (by rw [hb];omega) (by omega);rw [hs] at h;simpa using h
theorem OwR.made (w:World) (c:Nat) (hc:c<=1048576) (h:Nat->Wo2):OwR (w.alloc (.cells (madeCells (woV 0 0).cells (c*2)) 43)) w.heap.size (sG w.heap.size 0 c) 0 h:=⟨World.ownsRow_made (base:=w.heap.size) w _ c (nA _) (by unfold maxLen;omega) (size_madeCells _ _),by simp⟩
theorem qtb:∃ i,prog.info? 43=some i/\i.zero=some (woV 0 0)/\i.size=2/\i.bytes=16:=by
 have hinfo:=quy;cases hi:prog.info? 43 with
 | none=>rw [hi] at hinfo;cases hinfo
 | some i=>
  rw [hi] at hinfo;simp only [Option.map_some,nG,Prod.mk.injEq] at hinfo;exact ⟨i,rfl,hinfo⟩
theorem qko (w:World) (a b:Value) (t:TypeId):∀ j u,[a,b][j]? = some u->(w.alloc (.cells #[a,b] t)).cell? ((⟨w.heap.size,0,none⟩:Addr).add j)=some u:=by
 intro j u hj
 match j,hj with
 | 0,hj=>simp at hj;subst hj;simp [Addr.add]
 | 1,hj=>simp at hj;subst hj;simp [Addr.add]
 | j+2,hj=>simp at hj
theorem qov {ops:Array Oper} {rest:List Oper} {op:Oper} {act:Act} {Q:Exit->Act->World->Prop} (w:World) (hgd:op.guard=none) (s x:Operand)
  (ho:op.op=.call { callee:=.builtin .append,args:=#[s,x],argTypes:=#[40,40] })
  (B:Nat) (v:Value) (n:Nat) (h:Nat->Wo2) (hs:act.eval s=v) (hl:OwR w B v n h) (m z:Int) (hmz:h n=⟨m,z⟩) (hx:act.eval x=.slice (some (aQ w.heap.size 0)) 1 1) (hn:n<=1000000) (hB:B<=w.heap.size)
  (hp:∀ v' w',OwR w' B v' (n+1) h->w.grownBy w' v.ownBlock->(∀ j,v'.ownBlock=some j->v.ownBlock=some j\/w.heap.size<=j)->wpList prog ops Q rest (act.put op.dst v') w'):
  wpList prog ops Q (op :: rest) act (w.alloc (.cells #[iV m,iV z] 43)):=by
 obtain ⟨i0,hi,hz0,hz1,hz2⟩:=qtb;obtain ⟨how,hvn⟩:=hl;have hb:Bw w (w.alloc (.cells #[iV m,iV z] 43)):=zT _ _
 obtain ⟨v', w', h1, h2, h3, h4, h5⟩ := run_append_own_at (P := prog) (w.alloc (.cells #[iV m, iV z] 43)) B 40 op.type 43 i0 (woV 0 0) 2 16 Tryz.underlying40 hi hz0 hz1 hz2 rfl (by decide) v n _ (how.alloc _) ⟨w.heap.size, 0, none⟩ 1 1 [iV m, iV z] rfl (qko _ _ _ _) (fun u hu => by
  simp at hu
  rcases hu with rfl | rfl <;> rfl) (by unfold maxLen;omega) (by omega) (by simp;omega)
 refine wpList_plain hgd fun K hK=>?_;unfold Oper.wp execOp;simp only [ho,resolve,invoke,builtin,Sem.run_bind,Sem.run_pure,Result.andThen_ok,List.map_toArray,List.map_cons,List.map_nil,hs,hx,h1];refine hK _ _ (hp v' w' ⟨?_,fun e=>hvn (h4.1 e).1⟩ ⟨h3.os,h3.tape,h3.output,zP hb.size h3.size,fun j hj hne=>(h3.block j (zL hj hb.size) hne).trans (hb.block j hj)⟩ fun j hj=>?_)
 ·rw [flW,hmz]
  exact h2
 ·rcases h5 with a | a
  ·exact .inl (a.symm.trans hj)
  ·rw [hj] at a
   simp only [nG] at a;right;rw [a];simp
def NxtL (w:World) (y:Hs) (d:Nat->Nat) (e:Ending) (w':World):Prop:=
 Bw w w'/\((∃ k,y.Least d k/\e=.returned (iV (k:Nat)))\/(e=.returned (iV (-1))/\∀ p,p<y.n->¬ y.Can d p))
theorem qww (X:Nat) (ha:Option Addr) (hc:Nat) (hA:Nat->Option Addr) (hC:Nat->Nat) (y:Hs) (d:Nat->Nat) (w:World) (hE:HisE w ha hA hC y) (hP:HisQ w X ha hc y d) (h4:y.n<=4) (hp:y.Peers) (hl:∀ i,i<y.n->y.l i<=200) (hd:∀ i,d i<=y.l i):
  Calls prog 35 #[.pointer (some (aQ X 0))] w (NxtL w y d):=by
 have HE:Hid (HisE w ha hA hC y):=hE;have HP:Hid (HisQ w X ha hc y d):=hP;have HH:Hid (y.Peers/\(∀ i,i<y.n->y.l i<=200)/\∀ i,d i<=y.l i):=⟨hp,hl,hd⟩
 have hn:(y.n:Int)<=4:=by omega
 obtain ⟨c4,-,-,-⟩:=hP;clear hE hp hl hd
 go_enter func35,ntmps35
 go_wp2_with fail
 clear c4
 go_loopw [9] (fun i wr=>∃ k:Nat,k<=y.n/\i=.int .i64 k/\Bw w wr/\Hid (∀ j,j<k->¬ y.Can d j)) (fun i _=>y.n - (intOf i).toNat)
 case atStart=>exact ⟨0,nD _,rfl,nE _ _,fun j hj=>by omega⟩
 case round=>
  obtain ⟨k,hk,rfl,hbw,HZ⟩:=hrel;by_cases hlt:k<y.n
  ·have hlt':(k:Int)<(y.n:Int):=by omega
   go_wp2_with fail
   refine (qsw X ha hc hA hC y d k wr (HE.bw hbw) (HP.bw hbw) h4 hlt HH.1 HH.2.1 HH.2.2).mono ?_;rintro e w1 ⟨rfl,b1⟩;have B1:Hid (Bw w w1):=hbw.trans (b1.mono hbw.size);clear b1 hbw;by_cases hc':y.Can d k
   ·have HF:Hid (NxtL w y d (.returned (iV k)) w1):=⟨B1.out,.inl ⟨k,⟨hlt,hc',HZ.out⟩,rfl⟩⟩
    rw [qaz hc'];clear hc' B1;go_wp2;go_ret;exact HF.out
   ·have HZ':Hid (∀ j,j<k+1->¬ y.Can d j):=fun j hj=>by
     by_cases e:j=k
     ·subst e
      exact hc'
     ·exact HZ.out j (by omega)
    rw [qar hc'];clear hc' HZ;go_wp2;go_roundw
    case rel=>exact ⟨k+1,by omega,by go_num,B1.out,HZ'.out⟩
    case measure=>simp [intOf];omega
  ·have HF:Hid (NxtL w y d (.returned (iV (-1))) wr):=⟨hbw,.inr ⟨rfl,fun p hp=>HZ.out p (by omega)⟩⟩
   clear HZ hbw;go_wp2;go_ret;exact HF.out
def tnL (f:Nat->Nat) (n:Nat):List Int:=(List.range n).map fun i=>((f i:Nat):Int)
theorem qnr (f:Nat->Nat) (n:Nat):(tnL f n).length=n:=by simp [tnL]
theorem qw4 (f:Nat->Nat) {n i:Nat} (h:i<n):zi (tnL f n) i=(f i:Nat):=by
 unfold zi tnL;simp [h]
theorem qul (f:Nat->Nat) (n:Nat):tnL f (n+1)=tnL f n ++ [((f n:Nat):Int)]:=by simp [tnL,List.range_succ]
theorem qu6 (f:Nat->Nat):∀ k p,tnD f k p<=k
 | 0,_=>nA _
 | k+1,p=>by
  have:=qu6 f k p;rw [qf2];by_cases e:p=f k
  ·rw [e,qbu,<- e]
   omega
  ·rw [up_other e]
   omega
structure Hd (w:World) (N:Nat) (d:Nat->Nat):Prop where
 at4:∀ i,i<4->w.cell? ⟨N,i,none⟩=some (iV (d i:Nat))
 fr:∀ j,w.frozen? ⟨N,j,none⟩=false
theorem Hd.lt {w:World} {N:Nat} {d:Nat->Nat} (h:Hd w N d):N<w.heap.size:=zJ w _ (h.at4 0 (by omega))
theorem Hd.blk {w w':World} {N:Nat} {d:Nat->Nat} (h:Hd w N d) (hb:w'.heap[N]? = w.heap[N]?):Hd w' N d:=⟨fun i hi=>(zH hb).trans (h.at4 i hi),fun j=>(zI hb).trans (h.fr j)⟩
theorem Hd.put {w:World} {N:Nat} {d:Nat->Nat} (h:Hd w N d) {p:Nat} (hp:p<4):Hd (w.setCell (aQ N p) (iV ((d p:Int)+1))) N (up d p):=by
 refine ⟨fun i hi=>?_,fun j=>by rw [World.frozen?_setCell];exact h.fr j⟩;by_cases e:i=p
 ·subst e
  rw [World.cell?_setCell_same' _ _ _ (by rw [h.at4 i hi];rfl),qbu];rfl
 ·rw [World.cell?_setCell_other _ _ _ _ (by intro e9;injection e9 with _ e9;exact e e9.symm),up_other e]
  exact h.at4 i hi
theorem Hd.new (w:World):Hd (w.alloc (.cells #[iV 0,iV 0,iV 0,iV 0] 49)) w.heap.size (fun _=>0):=by
 refine ⟨fun i hi=>?_,fun j=>yD _ _ _ _ rfl⟩
 match i,hi with
 | 0,_=>exact zW _ _ _ 0 rfl
 | 1,_=>exact zW _ _ _ 1 rfl
 | 2,_=>exact zW _ _ _ 2 rfl
 | 3,_=>exact zW _ _ _ 3 rfl
structure Ro (w wr:World) (f:Nat->Nat) (v:Value) (k:Nat):Prop where
 be:Bw w wr
 hd:Hd wr w.heap.size (tnD f k)
 ow:OwR wr (w.heap.size+1) v k (tnH f)
theorem Ro.next {w wr w':World} {f:Nat->Nat} {v v':Value} {k:Nat} (h:Ro w wr f v k) (hf:f k<4) (o:OwR w' (w.heap.size+1) v' (k+1) (tnH f)) (g:wr.grownBy w' v.ownBlock):Ro w (w'.setCell ⟨w.heap.size,f k,none⟩ (iV ((tnD f k (f k):Nat)+1:Int))) f v' (k+1):=by
 have hN:=h.hd.lt;have hne:v.ownBlock≠some w.heap.size:=fun e=>by have:=(h.ow.lt _ e).1;omega
 have hd':Hd w' w.heap.size (tnD f k):=h.hd.blk (g.block _ hN fun e=>hne e.symm);refine ⟨(h.be.trans (Below.grown (nE _ _) g (by omega) fun j hj=>by have:=(h.ow.lt j hj).1;omega)).setCell (nA _) _,?_,o.ofBlock fun j hj=>?_⟩
 ·rw [qf2]
  exact hd'.put hf
 ·have h9:=o.lt j hj
  exact (qap.of_set (P:=fun b=>b=w.heap.size) w' (a:=⟨w.heap.size,f k,none⟩) rfl _).block j h9.2 (fun e=>by have e:j=w.heap.size:=e;omega)
theorem qlk (ta:Option Addr) (T tc:Nat) (f:Nat->Nat) (w:World) (hS:Sl w ta (tnL f T)) (hf:∀ k,k<T->f k<4) (hT:T<=1000000):
  Calls prog 34 #[.slice ta T tc] w fun e w'=>∃ v,e=.returned v/\OwR w' w.heap.size v T (tnH f)/\Bw w w':=by
 have HS:Hid (∀ wx,Bw w wx->Sl wx ta (tnL f T)):=fun wx hb=>hS.bw hb;have HF:Hid (∀ k,k<T->f k<4):=hf;have hT':(T:Int)<=1000000:=by omega
 have hmk:=qlm T (by omega)
 have R0:Hid (Ro w ((w.alloc (.cells #[iV 0,iV 0,iV 0,iV 0] 49)).alloc (.cells (madeCells (woV 0 0).cells (T*2)) 43)) f (.slice (some ⟨w.heap.size+1,0,none⟩) 0 T) 0):=by
  have h9:=OwR.made (w.alloc (.cells #[iV 0,iV 0,iV 0,iV 0] 49)) T (by omega) (tnH f)
  (try dsimp only [aW] at h9);rw [World.size_alloc] at h9
  exact ⟨(zT _ _).trans ((zT _ _).mono (by simp)),(Hd.new w).blk (Below.heap_alloc _ _ _ (by simp)),h9⟩
 clear hS hf
 go_enter func34,ntmps34
 go_wp2_with fail
 clear hmk
 go_loopw [4,12] (fun v i wr=>∃ (k:Nat) (g c:Nat),k<=T/\i=.int .i64 k/\v=.slice (some (aQ g 0)) k c/\Hid (Ro w wr f v k)) (fun _ i _=>T - (intOf i).toNat)
 case atStart=>exact ⟨0,_,_,nD _,rfl,by with_reducible rfl,R0.out⟩
 case round=>
  clear R0
  rename World=>wr
  obtain ⟨k,g,c,hk,rfl,rfl,HR⟩:=hrel;by_cases hlt:k<T
  case neg=>
   have hkT:k=T:=by omega
   subst hkT;have HE:Hid (OwR wr w.heap.size (sG g k c) k (tnH f)/\Bw w wr):=⟨HR.ow.mono (by omega),HR.be⟩
   clear HR;go_wp2;go_ret;exact ⟨_,rfl,HE.out⟩
  have hlt':(k:Int)<(T:Int):=by omega
  obtain ⟨bt,ot,rfl,-,ct⟩:=(HS.out wr HR.be).at (k:=k) (by rw [qnr];exact hlt);rw [qw4 f hlt] at ct;have hf4:f k<4:=HF.out k hlt;have hf4':(f k:Int)<4:=by omega
  have cd:=HR.hd.at4 (f k) hf4;have fd:=HR.hd.fr (f k);have hdk:((tnD f k (f k):Nat):Int)<=1000000:=by have:=qu6 f k (f k);omega
  have HB:Hid (w.heap.size+1<=wr.heap.size/\k<=1000000):=⟨HR.hd.lt,by omega⟩
  go_upto_region 7 with (at_builtin;refine qov wr rfl _ _ rfl (w.heap.size+1) (sG g k c) k (tnH f) rfl HR.ow (f k:Nat) (tnD f k (f k):Nat) rfl rfl HB.2 HB.1 ?_;intro v' w5 o5 g5 _;obtain ⟨gg,cg,rfl,-,-,-,-⟩:=o5.form;have R5:Hid (Ro w (w5.setCell ⟨w.heap.size,f k,none⟩ (iV ((tnD f k (f k):Nat)+1:Int))) f (sG gg (k+1) cg) (k+1)/\Hd w5 w.heap.size (tnD f k)):=⟨HR.next hf4 o5 g5,HR.hd.blk (g5.block _ HR.hd.lt (fun e=>by have:=(HR.ow.lt _ e.symm).1;omega))⟩;clear o5 g5)
  clear cd fd HR ct;have cd:=R5.2.at4 (f k) hf4;have fd:=R5.2.fr (f k);have R6:Hid (Ro w (w5.setCell ⟨w.heap.size,f k,none⟩ (iV ((tnD f k (f k):Nat)+1:Int))) f (sG gg (k+1) cg) (k+1)):=R5.1;clear R5;go_wp2;go_roundw
  case rel=>exact ⟨k+1,gg,cg,by omega,by go_num,by with_reducible rfl,R6.out⟩
  case measure=>simp [intOf];omega
