import Derived.Test.YtlpckaoldaijlaaGreatDoorUe0
import Derived.Test.YtlpckaoldaijlaaGreatDoorUe21
import Derived.Test.YtlpckaoldaijlaaGreatDoorUe22
import Derived.Test.YtlpckaoldaijlaaGreatDoorUe16
import Derived.Test.YtlpckaoldaijlaaGreatDoorUe31
import Derived.Test.YtlpckaoldaijlaaGreatDoorUe20
import Derived.Test.YtlpckaoldaijlaaGreatDoorUe9
namespace Go.Proofs.YtlpckaoldaijlaaGreatDoor
open Go.ChangeShapes Go.WideShapes Go.ChangeAt Go.RowKit Go.Deep
structure Sy where
 pn:Nat
 pL:Nat->Nat
 pH:Nat->Nat->I5
 sn:Nat
 sS:Nat->S4
 wn:Nat
 wL:Nat->Nat
 wH:Nat->Nat->I2
 hn:Nat
 hL:Nat->Nat
 hH:Nat->Nat->E3
def SysIn.y (x:SysIn):Sy:=⟨x.pn,x.pL,x.pH,x.sn,x.sS,x.wn,x.wL,x.wH,x.hn,x.hL,x.hH⟩
def Sy.hs (y:Sy):Hs:=⟨y.pn,y.hL,y.hH⟩
def itemB (x:I2):Bool:=numB x.v && (!x.m || x.v == 0)
structure WayP (h:Nat->I2) (len:Nat) (took sent:List Int):Prop where
 it:∀ i,i<len->itemB (h i)=true
 le:len<=12
 eq:took ++ numL h len=sent
structure Sy.Ok (y:Sy):Prop where
 cn:(1<=y.pn/\y.pn<=4)/\y.sn=y.pn/\y.hn=y.pn/\y.wn=y.pn*y.pn
 pr:∀ p,p<y.pn->progOkB (y.pH p) (y.pL p) y.pn=true
 rp:∀ p,p<y.pn->repO (y.pH p) (y.pL p) (y.hH p) (y.hL p)=some (y.sS p)
 pe:∀ p,p<y.pn->∀ i,i<y.hL p->(y.hH p i).q<(y.pn:Int)
 wa:∀ a,a<y.pn->∀ b,b<y.pn->WayP (y.wH (a*y.pn+b)) (y.wL (a*y.pn+b)) (valL (y.hH b) 3 a (y.hL b)) (valL (y.hH a) 2 b (y.hL a))
 ro:y.hs.Row
noncomputable def Sy.okB (y:Sy):Bool:=@decide y.Ok (Classical.propDecidable _)
theorem Sy.okB_true {y:Sy} (h:y.Ok):y.okB=true:=by simp [Sy.okB,h]
theorem Sy.okB_false {y:Sy} (h:¬ y.Ok):y.okB=false:=by simp [Sy.okB,h]
theorem Sy.ok_of {y:Sy} (h:y.okB=true):y.Ok:=by simpa [Sy.okB] using h
theorem evP_pos {g:Nat->I5} {len:Nat} {k:Nat} (h:progOkB g len 4=true) (hk:k<len):0<=evP (g k).o (g k).n:=by
 have h5:=right_ins h hk
 simp only [insOkB,Bool.and_eq_true] at h5
 have h6:=h5.2
 unfold evP
 by_cases e6:(g k).o=6
 ·rw [if_pos e6]
  simp [opOkB,e6,inB] at h6
  omega
 ·rw [if_neg e6]
  by_cases e7:(g k).o=7
  ·rw [if_pos e7]
   simp [opOkB,e7,inB] at h6
   omega
  ·rw [if_neg e7]
   exact Int.le_refl _
theorem doB_peer {g:Nat->I5} {len:Nat} {p:Int} {rs os:List Int} {code k q v:Int} (h:doB g len p rs os code k q v=true):0<=q:=by
 have hr:=doB_right h
 obtain ⟨h1,h2,-⟩:=right_parts hr
 obtain ⟨-,⟨j,rfl,hj⟩,-⟩:=st_parts h2
 have hp:=evP_pos h1 hj
 simp only [doB,canB,nxP,if_pos hr,Int.toNat_natCast] at h
 split at h
 ·simp only [Bool.and_eq_true] at h
  have h3:=h.2
  split at h3
  ·simp only [belB,decide_eq_true_eq] at h3
   omega
  ·simp only [beq_iff_eq] at h3
   omega
 ·simp only [Bool.and_eq_true,beq_iff_eq] at h
  have:=h.2.2.1
  omega
theorem rp_peer {g:Nat->I5} {len:Nat} {eh:Nat->E3}:∀ {k:Nat} {S:S4},rp g len eh k=some S->∀ i,i<k->0<=(eh i).q
 | 0,_,_,i,hi=>by omega
 | k+1,S,h,i,hi=>by
  simp only [rp] at h
  cases hr:rp g len eh k with
  | none=>rw [hr] at h;cases h
  | some S0=>
   rw [hr] at h
   simp only [Option.bind_some,rpStep] at h
   split at h
   ·rename_i hd
    by_cases e:i=k
    ·subst e
     exact doB_peer hd
    ·exact rp_peer hr i (by omega)
   ·cases h
theorem repO_some {g:Nat->I5} {n:Nat} {eh:Nat->E3} {m:Nat} {S:S4} (h:repO g n eh m=some S):progOkB g n 4=true/\m<=200/\rp g n eh m=some S:=by
 unfold repO at h
 split at h
 ·rename_i hc
  exact ⟨hc.1,hc.2,h⟩
 ·cases h
structure SysG (W:World) (x:SysIn):Prop where
 p:RowS W x.pa x.pn fun i=>.slice (x.pA i) (x.pL i) (x.pC i)
 pi:∀ i,i<x.pn->∃ b,x.pA i=some ⟨b,0,none⟩/\b<W.heap.size/\InsAt W b 0 (x.pL i) (x.pH i)
 s:AllState W x.sa x.sn x.sQ
 w:RowS W x.wa x.wn fun i=>.slice (x.wA i) (x.wL i) (x.wC i)
 wi:∀ i,i<x.wn->ItL W (x.wA i) (x.wL i) (x.wH i)
 h:RowS W x.ha x.hn fun i=>.slice (x.hA i) (x.hL i) (x.hC i)
 hi:∀ i,i<x.hn->EvL W (x.hA i) (x.hL i) (x.hH i)
theorem SysG.below {w w':World} {x:SysIn} (o:SysG w x) (hb:Below w.heap.size w w'):SysG w' x:=
 ⟨o.p.below hb, fun i hi => by
  obtain ⟨b,e,hlt,hI⟩:=o.pi i hi
  exact ⟨b,e,zP hlt hb.size,hI.below hb hlt⟩,o.s.below hb,o.w.below hb,fun i hi=>(o.wi i hi).below hb,o.h.below hb,fun i hi=>(o.hi i hi).below hb⟩
structure SysIn.Len (x:SysIn):Prop where
 p:x.pn<=1048576/\∀ i,i<x.pn->x.pL i<=1048576
 s:x.sn<=1048576/\∀ i,i<x.sn->(x.sQ i).rs.length<=1048576/\(x.sQ i).os.length<=1048576
 w:x.wn<=1048576/\∀ i,i<x.wn->x.wL i<=1048576
 h:x.hn<=1048576/\∀ i,i<x.hn->x.hL i<=1048576
abbrev SysIn.v (x:SysIn):Value:=sysV x.pa x.pn x.pc x.sa x.sn x.sc x.wa x.wn x.wc x.ha x.hn x.hc
theorem IsSys.g {w:World} {lo hi:Nat} {x:SysIn} {v:Value} (o:IsSys w lo hi x v):∃ x':SysIn,v=x'.v/\SysG w x'/\x'.y=x.y:=by
 obtain ⟨D1,D2,D3,D4,b1,vs,b3,b4,h1,h2,h3,o⟩:=o
 obtain ⟨q1,q2,q3,q4,-⟩:=o.hi
 have hst:∀ i,i<x.sn->∃ t:Option Addr × Nat × Option Addr × Nat,vs i=stV (x.sS i).p t.1 (x.sS i).rs.length t.2.1 t.2.2.1 (x.sS i).os.length t.2.2.2 (x.sS i).c/\w.cell? ⟨D2,i*4,none⟩=some (.int .i64 (x.sS i).p)/\w.cell? ⟨D2,i*4+1,none⟩=some (.slice t.1 (x.sS i).rs.length t.2.1)/\w.cell? ⟨D2,i*4+2,none⟩=some (.slice t.2.2.1 (x.sS i).os.length t.2.2.2)/\w.cell? ⟨D2,i*4+3,none⟩=some (.int .i64 (x.sS i).c):=by
  intro i hi
  obtain ⟨ra,rc,oa,oc,e,c0,c1,c2,c3⟩:=o.ss.cel i hi
  exact ⟨(ra,rc,oa,oc),e,c0,c1,c2,c3⟩
 have inh:Inhabited (Option Addr × Nat × Option Addr × Nat):=⟨(none,0,none,0)⟩
 obtain ⟨t,ht⟩:=Go.Deep.choose_lt hst
 refine ⟨⟨some ⟨D1,0,none⟩,x.pn,x.pn,fun i=>some ⟨b1 i,0,none⟩,x.pL,x.pL,x.pH,some ⟨D2,0,none⟩,x.sn,x.sn,fun i=>⟨(x.sS i).p,(t i).1,(t i).2.1,(x.sS i).rs,(t i).2.2.1,(t i).2.2.2,(x.sS i).os,(x.sS i).c⟩,some ⟨D3,0,none⟩,x.wn,x.wn,fun i=>some ⟨b3 i,0,none⟩,x.wL,x.wL,x.wH,some ⟨D4,0,none⟩,x.hn,x.hn,fun i=>some ⟨b4 i,0,none⟩,x.hL,x.hL,x.hH⟩,o.val,?_,rfl⟩
 have l1:=o.pp.lt
 have l2:=o.ss.lt
 have l3:=o.ww.lt
 have l4:=o.hh.lt
 refine ⟨.inr ⟨D1,0,rfl,by omega,fun i hi=>?_⟩,fun i hi=>⟨b1 i,rfl,zP (o.pp.bd i hi).2 o.pp.le,o.pp.row i hi⟩,⟨.inr ⟨D2,0,rfl,by omega,fun i hi=>?_⟩,fun i hi=>?_⟩,.inr ⟨D3,0,rfl,by omega,fun i hi=>?_⟩,fun i hi=>.inr ⟨b3 i,0,rfl,zP (o.ww.bd i hi).2 o.ww.le,o.ww.row i hi⟩,.inr ⟨D4,0,rfl,by omega,fun i hi=>?_⟩,fun i hi=>.inr ⟨b4 i,0,rfl,zP (o.hh.bd i hi).2 o.hh.le,o.hh.row i hi⟩⟩
 ·have:=o.pp.cel i hi
  simpa using this
 ·have:=(ht i hi).2
  simpa using this
 ·have h4:=o.ss.own i hi
  rw [(ht i hi).1] at h4
  exact ⟨h4.parts.1.slOf,h4.parts.2.1.slOf⟩
 ·have:=o.ww.cel i hi
  simpa using this
 ·have:=o.hh.cel i hi
  simpa using this
variable {z:Bool}
structure OwnS (z:Bool) (w:World) (B:Nat) (c:Nat->Nat) (y:Sy) (vp vs vw vh:Value) (up us uw uh:Nat->Value):Prop where
 p:LI z w (Cl B c 1) vp y.pn up y.pL y.pH
 s:LS w (Cl B c 2) vs y.sn us y.sS
 t:LT z w (Cl B c 3) vw y.wn uw y.wL y.wH
 h:LE z w (Cl B c 4) vh y.hn uh y.hL y.hH
theorem OwnS.below {w w':World} {B:Nat} {c:Nat->Nat} {y:Sy} {vp vs vw vh:Value} {up us uw uh:Nat->Value} (o:OwnS z w B c y vp vs vw vh up us uw uh) (hb:Below w.heap.size w w'):OwnS z w' B c y vp vs vw vh up us uw uh:=⟨o.p.below hb,o.s.below hb,o.t.below hb,o.h.below hb⟩
def OwnSys (z:Bool) (w:World) (B:Nat) (y:Sy) (v:Value):Prop:=∃ c vp vs vw vh up us uw uh,v=.agg #[vp,vs,vw,vh]/\OwnS z w B c y vp vs vw vh up us uw uh
theorem OwnSys.below {w w':World} {B:Nat} {y:Sy} {v:Value} (o:OwnSys z w B y v) (hb:Below w.heap.size w w'):OwnSys z w' B y v:=by
 obtain ⟨c,vp,vs,vw,vh,up,us,uw,uh,e,o⟩:=o
 exact ⟨c,vp,vs,vw,vh,up,us,uw,uh,e,o.below hb⟩
def rcol (c:Nat->Nat) (n q:Nat):Nat->Nat:=fun k=>if k<n then c k else q
theorem rcol_old {c:Nat->Nat} {n q k:Nat} (h:k<n):rcol c n q k=c k:=if_pos h
theorem rcol_new {c:Nat->Nat} {n q k:Nat} (h:n<=k):rcol c n q k=q:=if_neg (by omega)
theorem Cl.old {B:Nat} {c:Nat->Nat} {n q i k:Nat} (h:Cl B c i k) (hk:k<n):Cl B (rcol c n q) i k:=⟨h.1,(rcol_old hk).trans h.2⟩
structure CpB (B N:Nat) (c:Nat->Nat) (y:Sy) (ks kw:Nat) (wx:World) (vp vs vw vh:Value) (up us uw uh:Nat->Value):Prop where
 bx:BoxC wx N vp vs vw vh
 fr:∀ j,wx.frozen? ⟨N,j,none⟩=false
 cN:c N=0
 bN:B<=N
 o:OwnS true wx B c { y with sn:=ks,wn:=kw } vp vs vw vh up us uw uh
section
variable {B N:Nat} {c:Nat->Nat} {y:Sy} {ks kw:Nat} {wr:World} {vp vs vw vh:Value} {up us uw uh:Nat->Value}
theorem CpB.lt (h:CpB B N c y ks kw wr vp vs vw vh up us uw uh):N<wr.heap.size:=zK wr _ h.bx.1
theorem CpB.state (h:CpB B N c y ks kw wr vp vs vw vh up us uw uh) {w1 w3:World} {u' v':Value} (b1:Below wr.heap.size wr w1) (hu:StOwn w1 wr.heap.size u' (y.sS ks).p (y.sS ks).rs (y.sS ks).os (y.sS ks).c) (hv:w3.ownsRow 0 80 4 v' (ks+1) (flat (fun i=>cellsL (us i)) ks ++ cellsL u')) (g:w1.grownBy w3 vs.ownBlock) (hv':∀ j,v'.ownBlock=some j->vs.ownBlock=some j\/w1.heap.size<=j):
  CpB B N (rcol c wr.heap.size 2) y (ks+1) kw (w3.setCell ⟨N,1,none⟩ v') vp v' vw vh up (fun j=>if j=ks then u' else us j) uw uh:=by
 have hN:=h.lt
 have hkeep:∀ k,k<wr.heap.size->c k≠2->w3.heap[k]? = wr.heap[k]?:=fun k hk hc=>(g.block k (zP hk b1.size) fun e=>hc (h.o.s.rb k e.symm).2).trans (b1.block k hk)
 have hset:∀ k,k≠N->(w3.setCell ⟨N,1,none⟩ v').heap[k]? = w3.heap[k]?:=fun k hk=>zQ _ _ _ _ hk
 have hcN:rcol c wr.heap.size 2 N=0:=(rcol_old hN).trans h.cN
 have hBN:w3.heap[N]? = wr.heap[N]?:=hkeep N hN (by rw [h.cN];decide)
 have hkk:∀ i,i≠2->i≠0->∀ k,Cl B (rcol c wr.heap.size 2) i k->k<wr.heap.size->(w3.setCell ⟨N,1,none⟩ v').heap[k]? = wr.heap[k]?:=fun i h2 h0 k hk hl=>by
  have e:c k=i:=(rcol_old hl).symm.trans hk.2
  exact (hset k fun en=>h0 (by rw [<- e,en,h.cN])).trans (hkeep k hl (by rw [e];exact h2))
 have hP:∀ i k,Cl B c i k->k<wr.heap.size->Cl B (rcol c wr.heap.size 2) i k:=fun i k hk hl=>hk.old hl
 have hP':∀ k,wr.heap.size<=k->k<w3.heap.size->Cl B (rcol c wr.heap.size 2) 2 k:=fun k hk _=>⟨zS h.bN (zS (Nat.le_of_lt hN) hk),rcol_new hk⟩
 obtain ⟨x0,x1,x2,x3⟩:=h.bx
 have hc:∀ j,w3.cell? ⟨N,j,none⟩=wr.cell? ⟨N,j,none⟩:=fun j=>zI hBN
 have hnew:∀ k,Cl B (rcol c wr.heap.size 2) 2 k->k<w3.heap.size->(w3.setCell ⟨N,1,none⟩ v').heap[k]? = w3.heap[k]?:=fun k hk _=>hset k fun e=>by
  have e2:=hk.2
  rw [e,hcN] at e2
  cases e2
 refine ⟨⟨?_,?_,?_,?_⟩,fun j=>?_,hcN,h.bN,⟨?_,?_,?_,?_⟩⟩
 ·rw [World.cell?_setCell_other _ _ _ _ (by simp),hc];exact x0
 ·exact World.cell?_setCell_same _ _ _ ((hc 1).trans x1)
 ·rw [World.cell?_setCell_other _ _ _ _ (by simp),hc];exact x2
 ·rw [World.cell?_setCell_other _ _ _ _ (by simp),hc];exact x3
 ·rw [World.frozen?_setCell,zJ hBN];exact h.fr j
 ·exact (h.o.p.mono (hP 1)).keep (hkk 1 (by decide) (by decide))
 ·exact (h.o.s.push b1 hu hv g hv' (hP 2) hP').keep hnew
 ·exact (h.o.t.mono (hP 3)).keep (hkk 3 (by decide) (by decide))
 ·exact (h.o.h.mono (hP 4)).keep (hkk 4 (by decide) (by decide))
theorem CpB.way (h:CpB B N c y ks kw wr vp vs vw vh up us uw uh) {w1 w3:World} {u' v':Value} (b1:Below wr.heap.size wr w1) (hu:w1.ownsRow wr.heap.size 131 2 u' (y.wL kw) (fT (y.wH kw) (y.wL kw))) (hne:u'≠.slice none 0 0) (hv:w3.ownsRow 0 88 1 v' (kw+1) ((List.range kw).map uw ++ [u'])) (g:w1.grownBy w3 vw.ownBlock) (hv':∀ j,v'.ownBlock=some j->vw.ownBlock=some j\/w1.heap.size<=j):
  CpB B N (rcol c wr.heap.size 3) y ks (kw+1) (w3.setCell ⟨N,2,none⟩ v') vp vs v' vh up us (fun j=>if j=kw then u' else uw j) uh:=by
 have hN:=h.lt
 have hkeep:∀ k,k<wr.heap.size->c k≠3->w3.heap[k]? = wr.heap[k]?:=fun k hk hc=>(g.block k (zP hk b1.size) fun e=>hc (h.o.t.rb k e.symm).2).trans (b1.block k hk)
 have hset:∀ k,k≠N->(w3.setCell ⟨N,2,none⟩ v').heap[k]? = w3.heap[k]?:=fun k hk=>zQ _ _ _ _ hk
 have hcN:rcol c wr.heap.size 3 N=0:=(rcol_old hN).trans h.cN
 have hBN:w3.heap[N]? = wr.heap[N]?:=hkeep N hN (by rw [h.cN];decide)
 have hkk:∀ i,i≠3->i≠0->∀ k,Cl B (rcol c wr.heap.size 3) i k->k<wr.heap.size->(w3.setCell ⟨N,2,none⟩ v').heap[k]? = wr.heap[k]?:=fun i h2 h0 k hk hl=>by
  have e:c k=i:=(rcol_old hl).symm.trans hk.2
  exact (hset k fun en=>h0 (by rw [<- e,en,h.cN])).trans (hkeep k hl (by rw [e];exact h2))
 have hP:∀ i k,Cl B c i k->k<wr.heap.size->Cl B (rcol c wr.heap.size 3) i k:=fun i k hk hl=>hk.old hl
 have hP':∀ k,wr.heap.size<=k->k<w3.heap.size->Cl B (rcol c wr.heap.size 3) 3 k:=fun k hk _=>⟨zS h.bN (zS (Nat.le_of_lt hN) hk),rcol_new hk⟩
 obtain ⟨x0,x1,x2,x3⟩:=h.bx
 have hc:∀ j,w3.cell? ⟨N,j,none⟩=wr.cell? ⟨N,j,none⟩:=fun j=>zI hBN
 have hnew:∀ k,Cl B (rcol c wr.heap.size 3) 3 k->k<w3.heap.size->(w3.setCell ⟨N,2,none⟩ v').heap[k]? = w3.heap[k]?:=fun k hk _=>hset k fun e=>by
  have e2:=hk.2
  rw [e,hcN] at e2
  cases e2
 refine ⟨⟨?_,?_,?_,?_⟩,fun j=>?_,hcN,h.bN,⟨?_,?_,?_,?_⟩⟩
 ·rw [World.cell?_setCell_other _ _ _ _ (by simp),hc];exact x0
 ·rw [World.cell?_setCell_other _ _ _ _ (by simp),hc];exact x1
 ·exact World.cell?_setCell_same _ _ _ ((hc 2).trans x2)
 ·rw [World.cell?_setCell_other _ _ _ _ (by simp),hc];exact x3
 ·rw [World.frozen?_setCell,zJ hBN];exact h.fr j
 ·exact (h.o.p.mono (hP 1)).keep (hkk 1 (by decide) (by decide))
 ·exact (h.o.s.mono (hP 2)).keep (hkk 2 (by decide) (by decide))
 ·exact (h.o.t.push b1 hu (fun _=>hne) hv g hv' (hP 3) hP').keep hnew
 ·exact (h.o.h.mono (hP 4)).keep (hkk 4 (by decide) (by decide))
end
