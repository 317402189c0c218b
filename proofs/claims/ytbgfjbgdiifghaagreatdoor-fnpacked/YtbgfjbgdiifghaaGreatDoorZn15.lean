import Derived.Test.YtbgfjbgdiifghaaGreatDoorZn13
import Derived.Test.YtbgfjbgdiifghaaGreatDoorZn14
import Derived.Deep.RegionLaw
namespace Go.Proofs.YtbgfjbgdiifghaaGreatDoor
open Go.Proofs.Tryz
set_option maxRecDepth 100000
set_option maxHeartbeats 4000000
open Go.ChangeShapes Go.WideShapes Go.ChangeAt Go.RowKit Go.Deep
structure Sy where
 pn:Nat
 pL:Nat->Nat
 pH:Nat->Nat->I5
 sn:Nat
 sS:Nat->S4
 wn:Nat
 wL:Nat->Nat
 wH:Nat->Nat->I2
 hn:Nat
 hL:Nat->Nat
 hH:Nat->Nat->E3
def SysIn.y (x:SysIn):Sy:=⟨x.pn,x.pL,x.pH,x.sn,x.sS,x.wn,x.wL,x.wH,x.hn,x.hL,x.hH⟩
def Sy.hs (y:Sy):Hs:=⟨y.pn,y.hL,y.hH⟩
def qb7 (x:I2):Bool:=numB x.v && (!x.m || x.v == 0)
structure WayP (h:Nat->I2) (len:Nat) (took sent:List Int):Prop where
 it:∀ i,i<len->qb7 (h i)=true
 le:len<=12
 eq:took ++ numL h len=sent
structure Sy.Ok (y:Sy):Prop where
 cn:(1<=y.pn/\y.pn<=4)/\y.sn=y.pn/\y.hn=y.pn/\y.wn=y.pn*y.pn
 pr:∀ p,p<y.pn->qaa (y.pH p) (y.pL p) y.pn=true
 rp:∀ p,p<y.pn->repO (y.pH p) (y.pL p) (y.hH p) (y.hL p)=some (y.sS p)
 pe:∀ p,p<y.pn->∀ i,i<y.hL p->(y.hH p i).q<(y.pn:Int)
 wa:∀ a,a<y.pn->∀ b,b<y.pn->WayP (y.wH (a*y.pn+b)) (y.wL (a*y.pn+b)) (valL (y.hH b) 3 a (y.hL b)) (valL (y.hH a) 2 b (y.hL a))
 ro:y.hs.Row
noncomputable def Sy.okB (y:Sy):Bool:=@decide y.Ok (Classical.propDecidable _)
theorem Sy.okB_true {y:Sy} (h:y.Ok):y.okB=true:=by simp [Sy.okB,h]
theorem Sy.okB_false {y:Sy} (h:¬ y.Ok):y.okB=false:=by simp [Sy.okB,h]
theorem Sy.ok_of {y:Sy} (h:y.okB=true):y.Ok:=by simpa [Sy.okB] using h
theorem qxc {g:Nat->I5} {len:Nat} {k:Nat} (h:qaa g len 4=true) (hk:k<len):0<=evP (g k).o (g k).n:=by
 have h5:=qbo h hk;simp only [qae,nH] at h5;have h6:=h5.2;unfold evP;by_cases e6:(g k).o=6
 ·rw [nC e6]
  simp [qbf,e6,inB] at h6;omega
 ·rw [nB e6]
  by_cases e7:(g k).o=7
  ·rw [nC e7]
   simp [qbf,e7,inB] at h6;omega
  ·rw [nB e7]
   exact Int.le_refl _
theorem quo {g:Nat->I5} {len:Nat} {p:Int} {rs os:List Int} {code k q v:Int} (h:doB g len p rs os code k q v=true):0<=q:=by
 have hr:=qci h;obtain ⟨h1,h2,-⟩:=qa7 hr;obtain ⟨-,⟨j,rfl,hj⟩,-⟩:=qbq h2;have hp:=qxc h1 hj;simp only [doB,canB,nxP,nC hr,nF] at h
 split at h
 ·simp only [nH] at h
  have h3:=h.2
  split at h3
  ·simp only [belB,nI] at h3
   omega
  ·simp only [beq_iff_eq] at h3
   omega
 ·simp only [nH,beq_iff_eq] at h
  have:=h.2.2.1;omega
theorem qko {g:Nat->I5} {len:Nat} {eh:Nat->E3}:∀ {k:Nat} {S:S4},rp g len eh k=some S->∀ i,i<k->0<=(eh i).q
 | 0,_,_,i,hi=>by omega
 | k+1,S,h,i,hi=>by
  simp only [rp] at h;cases hr:rp g len eh k with
  | none=>rw [hr] at h;cases h
  | some S0=>
   rw [hr] at h;simp only [Option.bind_some,qcz] at h
   split at h
   ·rename_i hd
    by_cases e:i=k
    ·subst e
     exact quo hd
    ·exact qko hr i (by omega)
   ·cases h
theorem qbh {g:Nat->I5} {n:Nat} {eh:Nat->E3} {m:Nat} {S:S4} (h:repO g n eh m=some S):qaa g n 4=true/\m<=200/\rp g n eh m=some S:=by
 unfold repO at h
 split at h
 ·rename_i hc
  exact ⟨hc.1,hc.2,h⟩
 ·cases h
structure SysG (W:World) (x:SysIn):Prop where
 p:RowS W x.pa x.pn fun i=>.slice (x.pA i) (x.pL i) (x.pC i)
 pi:∀ i,i<x.pn->∃ b,x.pA i=some ⟨b,0,none⟩/\b<W.heap.size/\qaq W b 0 (x.pL i) (x.pH i)
 s:qdn W x.sa x.sn x.sQ
 w:RowS W x.wa x.wn fun i=>.slice (x.wA i) (x.wL i) (x.wC i)
 wi:∀ i,i<x.wn->ItL W (x.wA i) (x.wL i) (x.wH i)
 h:RowS W x.ha x.hn fun i=>.slice (x.hA i) (x.hL i) (x.hC i)
 hi:∀ i,i<x.hn->EvL W (x.hA i) (x.hL i) (x.hH i)
theorem SysG.bw {w w':World} {x:SysIn} (o:SysG w x) (hb:Bw w w'):SysG w' x:=
 ⟨o.p.bw hb, fun i hi => by
  obtain ⟨b,e,hlt,hI⟩:=o.pi i hi
  exact ⟨b,e,zL hlt hb.size,hI.bw hb hlt⟩,o.s.bw hb,o.w.bw hb,fun i hi=>(o.wi i hi).bw hb,o.h.bw hb,fun i hi=>(o.hi i hi).bw hb⟩
structure SysIn.Len (x:SysIn):Prop where
 p:x.pn<=1048576/\∀ i,i<x.pn->x.pL i<=1048576
 s:x.sn<=1048576/\∀ i,i<x.sn->(x.sQ i).rs.length<=1048576/\(x.sQ i).os.length<=1048576
 w:x.wn<=1048576/\∀ i,i<x.wn->x.wL i<=1048576
 h:x.hn<=1048576/\∀ i,i<x.hn->x.hL i<=1048576
abbrev SysIn.v (x:SysIn):Value:=sysV x.pa x.pn x.pc x.sa x.sn x.sc x.wa x.wn x.wc x.ha x.hn x.hc
variable {z:Bool}
structure OwnS (z:Bool) (w:World) (B:Nat) (c:Nat->Nat) (y:Sy) (vp vs vw vh:Value) (up us uw uh:Nat->Value):Prop where
 p:LI z w (Cl B c 1) vp y.pn up y.pL y.pH
 s:LS w (Cl B c 2) vs y.sn us y.sS
 t:LT z w (Cl B c 3) vw y.wn uw y.wL y.wH
 h:LE z w (Cl B c 4) vh y.hn uh y.hL y.hH
theorem OwnS.bw {w w':World} {B:Nat} {c:Nat->Nat} {y:Sy} {vp vs vw vh:Value} {up us uw uh:Nat->Value} (o:OwnS z w B c y vp vs vw vh up us uw uh) (hb:Bw w w'):OwnS z w' B c y vp vs vw vh up us uw uh:=⟨o.p.bw hb,o.s.bw hb,o.t.bw hb,o.h.bw hb⟩
def qan (z:Bool) (w:World) (B:Nat) (y:Sy) (v:Value):Prop:=∃ c vp vs vw vh up us uw uh,v=.agg #[vp,vs,vw,vh]/\OwnS z w B c y vp vs vw vh up us uw uh
theorem qan.bw {w w':World} {B:Nat} {y:Sy} {v:Value} (o:qan z w B y v) (hb:Bw w w'):qan z w' B y v:=by
 obtain ⟨c,vp,vs,vw,vh,up,us,uw,uh,e,o⟩:=o;exact ⟨c,vp,vs,vw,vh,up,us,uw,uh,e,o.bw hb⟩
def rcol (c:Nat->Nat) (n q:Nat):Nat->Nat:=fun k=>if k<n then c k else q
theorem qam {c:Nat->Nat} {n q k:Nat} (h:k<n):rcol c n q k=c k:=nC h
theorem qad {c:Nat->Nat} {n q k:Nat} (h:n<=k):rcol c n q k=q:=nB (by omega)
theorem Cl.old {B:Nat} {c:Nat->Nat} {n q i k:Nat} (h:Cl B c i k) (hk:k<n):Cl B (rcol c n q) i k:=⟨h.1,(qam hk).trans h.2⟩
structure CpB (B N:Nat) (c:Nat->Nat) (y:Sy) (ks kw:Nat) (wx:World) (vp vs vw vh:Value) (up us uw uh:Nat->Value):Prop where
 bx:BoxC wx N vp vs vw vh
 fr:∀ j,wx.frozen? ⟨N,j,none⟩=false
 cN:c N=0
 bN:B<=N
 o:OwnS true wx B c { y with sn:=ks,wn:=kw } vp vs vw vh up us uw uh
section
variable {B N:Nat} {c:Nat->Nat} {y:Sy} {ks kw:Nat} {wr:World} {vp vs vw vh:Value} {up us uw uh:Nat->Value}
theorem CpB.lt (h:CpB B N c y ks kw wr vp vs vw vh up us uw uh):N<wr.heap.size:=zJ wr _ h.bx.1
theorem CpB.state (h:CpB B N c y ks kw wr vp vs vw vh up us uw uh) {w1 w3:World} {u' v':Value} (b1:Bw wr w1) (hu:qac w1 wr.heap.size u' (y.sS ks).p (y.sS ks).rs (y.sS ks).os (y.sS ks).c) (hv:w3.ownsRow 0 66 4 v' (ks+1) (flat (fun i=>cellsL (us i)) ks ++ cellsL u')) (g:w1.grownBy w3 vs.ownBlock) (hv':∀ j,v'.ownBlock=some j->vs.ownBlock=some j\/w1.heap.size<=j):
  CpB B N (rcol c wr.heap.size 2) y (ks+1) kw (w3.setCell (aQ N 1) v') vp v' vw vh up (fun j=>if j=ks then u' else us j) uw uh:=by
 have hN:=h.lt;have hkeep:∀ k,k<wr.heap.size->c k≠2->w3.heap[k]? = wr.heap[k]?:=fun k hk hc=>(g.block k (zL hk b1.size) fun e=>hc (h.o.s.rb k e.symm).2).trans (b1.block k hk);have hset:∀ k,k≠N->(w3.setCell ⟨N,1,none⟩ v').heap[k]? = w3.heap[k]?:=fun k hk=>zO _ _ _ _ hk;have hcN:rcol c wr.heap.size 2 N=0:=(qam hN).trans h.cN;have hBN:w3.heap[N]? = wr.heap[N]?:=hkeep N hN (by rw [h.cN];decide)
 have hkk:∀ i,i≠2->i≠0->∀ k,Cl B (rcol c wr.heap.size 2) i k->k<wr.heap.size->(w3.setCell ⟨N,1,none⟩ v').heap[k]? = wr.heap[k]?:=fun i h2 h0 k hk hl=>by
  have e:c k=i:=(qam hl).symm.trans hk.2;exact (hset k fun en=>h0 (by rw [<- e,en,h.cN])).trans (hkeep k hl (by rw [e];exact h2))
 have hP:∀ i k,Cl B c i k->k<wr.heap.size->Cl B (rcol c wr.heap.size 2) i k:=fun i k hk hl=>hk.old hl;have hP':∀ k,wr.heap.size<=k->k<w3.heap.size->Cl B (rcol c wr.heap.size 2) 2 k:=fun k hk _=>⟨zP h.bN (zP (nJ hN) hk),qad hk⟩
 obtain ⟨x0,x1,x2,x3⟩:=h.bx;have hc:∀ j,w3.cell? ⟨N,j,none⟩=wr.cell? ⟨N,j,none⟩:=fun j=>zH hBN
 have hnew:∀ k,Cl B (rcol c wr.heap.size 2) 2 k->k<w3.heap.size->(w3.setCell ⟨N,1,none⟩ v').heap[k]? = w3.heap[k]?:=fun k hk _=>hset k fun e=>by
  have e2:=hk.2;rw [e,hcN] at e2;cases e2
 refine ⟨⟨?_,?_,?_,?_⟩,fun j=>?_,hcN,h.bN,⟨?_,?_,?_,?_⟩⟩
 ·rw [World.cell?_setCell_other _ _ _ _ (by simp),hc];exact x0
 ·exact World.cell?_setCell_same _ _ _ ((hc 1).trans x1)
 ·rw [World.cell?_setCell_other _ _ _ _ (by simp),hc];exact x2
 ·rw [World.cell?_setCell_other _ _ _ _ (by simp),hc];exact x3
 ·rw [World.frozen?_setCell,zI hBN];exact h.fr j
 ·exact (h.o.p.mono (hP 1)).keep (hkk 1 (by decide) (by decide))
 ·exact (h.o.s.push b1 hu hv g hv' (hP 2) hP').keep hnew
 ·exact (h.o.t.mono (hP 3)).keep (hkk 3 (by decide) (by decide))
 ·exact (h.o.h.mono (hP 4)).keep (hkk 4 (by decide) (by decide))
theorem CpB.way (h:CpB B N c y ks kw wr vp vs vw vh up us uw uh) {w1 w3:World} {u' v':Value} (b1:Bw wr w1) (hu:w1.ownsRow wr.heap.size 78 2 u' (y.wL kw) (fT (y.wH kw) (y.wL kw))) (hne:u'≠nS) (hv:w3.ownsRow 0 75 1 v' (kw+1) ((List.range kw).map uw ++ [u'])) (g:w1.grownBy w3 vw.ownBlock) (hv':∀ j,v'.ownBlock=some j->vw.ownBlock=some j\/w1.heap.size<=j):
  CpB B N (rcol c wr.heap.size 3) y ks (kw+1) (w3.setCell (aQ N 2) v') vp vs v' vh up us (fun j=>if j=kw then u' else uw j) uh:=by
 have hN:=h.lt;have hkeep:∀ k,k<wr.heap.size->c k≠3->w3.heap[k]? = wr.heap[k]?:=fun k hk hc=>(g.block k (zL hk b1.size) fun e=>hc (h.o.t.rb k e.symm).2).trans (b1.block k hk);have hset:∀ k,k≠N->(w3.setCell ⟨N,2,none⟩ v').heap[k]? = w3.heap[k]?:=fun k hk=>zO _ _ _ _ hk;have hcN:rcol c wr.heap.size 3 N=0:=(qam hN).trans h.cN;have hBN:w3.heap[N]? = wr.heap[N]?:=hkeep N hN (by rw [h.cN];decide)
 have hkk:∀ i,i≠3->i≠0->∀ k,Cl B (rcol c wr.heap.size 3) i k->k<wr.heap.size->(w3.setCell ⟨N,2,none⟩ v').heap[k]? = wr.heap[k]?:=fun i h2 h0 k hk hl=>by
  have e:c k=i:=(qam hl).symm.trans hk.2;exact (hset k fun en=>h0 (by rw [<- e,en,h.cN])).trans (hkeep k hl (by rw [e];exact h2))
 have hP:∀ i k,Cl B c i k->k<wr.heap.size->Cl B (rcol c wr.heap.size 3) i k:=fun i k hk hl=>hk.old hl;have hP':∀ k,wr.heap.size<=k->k<w3.heap.size->Cl B (rcol c wr.heap.size 3) 3 k:=fun k hk _=>⟨zP h.bN (zP (nJ hN) hk),qad hk⟩
 obtain ⟨x0,x1,x2,x3⟩:=h.bx;have hc:∀ j,w3.cell? ⟨N,j,none⟩=wr.cell? ⟨N,j,none⟩:=fun j=>zH hBN
 have hnew:∀ k,Cl B (rcol c wr.heap.size 3) 3 k->k<w3.heap.size->(w3.setCell ⟨N,2,none⟩ v').heap[k]? = w3.heap[k]?:=fun k hk _=>hset k fun e=>by
  have e2:=hk.2;rw [e,hcN] at e2;cases e2
 refine ⟨⟨?_,?_,?_,?_⟩,fun j=>?_,hcN,h.bN,⟨?_,?_,?_,?_⟩⟩
 ·rw [World.cell?_setCell_other _ _ _ _ (by simp),hc];exact x0
 ·rw [World.cell?_setCell_other _ _ _ _ (by simp),hc];exact x1
 ·exact World.cell?_setCell_same _ _ _ ((hc 2).trans x2)
 ·rw [World.cell?_setCell_other _ _ _ _ (by simp),hc];exact x3
 ·rw [World.frozen?_setCell,zI hBN];exact h.fr j
 ·exact (h.o.p.mono (hP 1)).keep (hkk 1 (by decide) (by decide))
 ·exact (h.o.s.mono (hP 2)).keep (hkk 2 (by decide) (by decide))
 ·exact (h.o.t.push b1 hu (fun _=>hne) hv g hv' (hP 3) hP').keep hnew
 ·exact (h.o.h.mono (hP 4)).keep (hkk 4 (by decide) (by decide))
end
theorem CpB.start {B l5 l6 N:Nat} {w5 w6 wf:World} {x:SysIn} {vp vh:Value} {up uh:Nat->Value} (o5:LI true w5 (fun k=>l5<=k/\k<w5.heap.size) vp x.pn up x.pL x.pH) (o6:LE true w6 (fun k=>l6<=k/\k<w6.heap.size) vh x.hn uh x.hL x.hH) (hb:Bw w5 w6) (h5:B<=l5) (h6:w5.heap.size<=l6) (h56:B<=w5.heap.size) (h55:l5<=w5.heap.size)
  (hN:N<l5\/(w5.heap.size<=N/\N<l6)\/w6.heap.size<=N) (hBN:B<=N) (hf:∀ k,k<w6.heap.size->k≠N->wf.heap[k]? = w6.heap[k]?) (hbx:BoxC wf N vp nS nS vh) (hfr:∀ j,wf.frozen? ⟨N,j,none⟩=false):
  ∃ c vp vh up uh,CpB B N c x.y 0 0 wf vp nS nS vh up (fun _=>.slice none 0 0) (fun _=>.slice none 0 0) uh:=by
 have hs:=hb.size
 have hc0:∀ k,Cl B (fun k=>if k=N then 0 else if k<w5.heap.size then 1 else 4) 1 k\/Cl B (fun k=>if k=N then 0 else if k<w5.heap.size then 1 else 4) 4 k->k≠N:=fun k hk e=>by
  rcases hk with hk | hk
  ·have e2:(if k=N then 0 else if k<w5.heap.size then 1 else 4)=1:=hk.2
   rw [nC e] at e2;cases e2
  ·have e2:(if k=N then 0 else if k<w5.heap.size then 1 else 4)=4:=hk.2
   rw [nC e] at e2;cases e2
 have g5 : LI true w5 (Cl B (fun k => if k = N then 0 else if k < w5.heap.size then 1 else 4) 1) vp x.pn up x.pL x.pH := o5.mono fun k hk _ => ⟨by omega, by
  show (if k=N then 0 else if k<w5.heap.size then 1 else 4)=1
  rw [nB (by omega),nC hk.2]⟩
 have g6 : LE true w6 (Cl B (fun k => if k = N then 0 else if k < w5.heap.size then 1 else 4) 4) vh x.hn uh x.hL x.hH := o6.mono fun k hk _ => ⟨by omega, by
  show (if k=N then 0 else if k<w5.heap.size then 1 else 4)=4
  rw [nB (by omega),nB (by omega)]⟩
 exact ⟨fun k=>if k=N then 0 else if k<w5.heap.size then 1 else 4,vp,vh,up,uh,hbx,hfr,nC rfl,hBN,⟨g5.keep fun k hk hl=>(hf k (by omega) (hc0 k (.inl hk))).trans (hb.block k hl),LS.nil _ _ _ _,LL.nil _ _ _ _ _ _ _ _,g6.keep fun k hk hl=>hf k hl (hc0 k (.inr hk))⟩⟩
theorem qew (x:SysIn) (w:World) (hG:SysG w x) (hL:x.Len):
  Calls prog 124 #[x.v] w fun e w'=>∃ v,e=.returned v/\qan true w' w.heap.size x.y v/\Bw w w':=by
 have HG:Hid (SysG w x):=hG;have HL:Hid x.Len:=hL;have hsn':(x.sn:Int)<=1048576:=by have:=hL.s.1;omega
 have hwn':(x.wn:Int)<=1048576:=by have:=hL.w.1;omega
 have BW:Hid (Bw w ((w.alloc (x.oX)).alloc (zQ3))):=(zQ _ _).trans ((zQ _ _).mono (by simp));have NB:Hid (x.bX ((w.alloc (x.oX)).alloc (zQ3)) w.heap.size):=(BoxC.new w _ _ _ _ _).bw (zQ _ _);have RB:Hid (BoxC ((w.alloc (x.oX)).alloc (zQ3)) (w.heap.size+1) nS nS nS nS/\∀ j,((w.alloc (x.oX)).alloc (zQ3)).frozen? ⟨w.heap.size+1,j,none⟩=false):=⟨⟨zW _ _ _ 0 (by simp),zW _ _ _ 1 (by simp),zW _ _ _ 2 (by simp),zW _ _ _ 3 (by simp)⟩,fun j=>yB _ _ _ _ (by simp)⟩
 have hz:((w.alloc (x.oX)).alloc (zQ3)).heap.size=w.heap.size+2:=by simp
 clear hG hL
 go_enter func124,ntmps124
 go_wp2_with fail
 generalize (w.alloc (x.oX)).alloc (zQ3)=W2 at *;obtain ⟨b0,b1,b2,b3⟩:=NB.out;have d1:W2.heap.size≠w.heap.size:=by omega
 have hl0:w.heap.size<W2.heap.size:=by omega
 have hl1:w.heap.size+1<W2.heap.size:=by omega
 have hl2:Hid (w.heap.size<=W2.heap.size):=by show w.heap.size<=W2.heap.size;omega
 clear hz
 have HP : Hid (∀ wx, Below W2.heap.size W2 wx → (RowS wx x.pa x.pn fun i => .slice (x.pA i) (x.pL i) (x.pC i)) ∧ ∀ i, i < x.pn → Src wx (x.pA i) (fI (x.pH i) (x.pL i))) := fun wx hb => ⟨(HG.bw (BW.trans (hb.mono BW.size))).p, fun i hi => by
  obtain ⟨b,e,hlt,hI⟩:=(HG.bw (BW.trans (hb.mono BW.size))).pi i hi;rw [e]
  exact srcI hlt hI⟩
 have HH:Hid (∀ wx,Bw W2 wx->(RowS wx x.ha x.hn fun i=>.slice (x.hA i) (x.hL i) (x.hC i))/\∀ i,i<x.hn->Src wx (x.hA i) (fE (x.hH i) (x.hL i))):=fun wx hb=>⟨(HG.bw (BW.trans (hb.mono BW.size))).h,fun i hi=>srcE ((HG.bw (BW.trans (hb.mono BW.size))).hi i hi)⟩
 go_cut [3] from 6 to 12 (fun s wx=>∃ N:Nat,s=.pointer (some (aQ N 0))/\Hid ((∃ c vp vh up uh,CpB W2.heap.size N c x.y 0 0 wx vp nS nS vh up (fun _=>nS) (fun _=>nS) uh)/\Bw W2 wx))
 case first=>
  refine qag (fun w'=>w'.cell? (aQ w.heap.size 0)=some (.slice x.pa x.pn x.pc)/\w'.cell? (aQ w.heap.size 3)=some (.slice x.ha x.hn x.hc)) (fun i=>i == 8) (by kernel_rfl) ?_;have hHeld:=And.intro b0 b3;refine qbb [0,1,3,4] ?_;iterate 4 (refine qbr rfl hHeld ?_)
  refine qa2 ?_;refine qk5 2 7 rfl rfl (by kernel_rfl) (fun K hK=>?_) (fun K hK=>?_)
  ·refine qat rfl 69 _ _ rfl #[.slice x.pa x.pn x.pc] (by simp [Act.eval]) (yA func69) (qfx x.pa x.pn x.pc x.pA x.pL x.pC x.pH (W2.drew) HL.p.1 HL.p.2 (HP.out _ (nE _ _).drew).1 (HP.out _ (nE _ _).drew).2) ?_
   rintro e w5 ⟨v5,u5,rfl,o5,b5⟩;obtain ⟨a5,c5,rfl⟩:=zU o5.row;refine ⟨_,rfl,?_⟩;have q5:Bw W2 w5:=qah (nE _ _).drew b5 (by simp);have y0:=(q5.cell (p:=(aQ w.heap.size 0)) hl0).trans b0;have y3:=(q5.cell (p:=(aQ w.heap.size 3)) hl0).trans b3;have z5:=q5.size;refine hK.out _ _ (fun _=>⟨y0,y3⟩) ?_;have hHeld:=And.intro y0 y3;clear hK K
   (try simp only [Act.put,zD,zE,zF])
   refine qk5 5 7 rfl rfl (by kernel_rfl) (fun K hK=>?_) (fun K hK=>?_)
   ·refine qat rfl 140 _ _ rfl #[.slice x.ha x.hn x.hc] (by simp [Act.eval]) (yA func140) (qd4 x.ha x.hn x.hc x.hA x.hL x.hC x.hH (w5) HL.h.1 HL.h.2 (HH.out _ (q5.trans ((nE w5.heap.size w5).mono q5.size))).1 (HH.out _ (q5.trans ((nE w5.heap.size w5).mono q5.size))).2) ?_
    rintro e w6 ⟨v6,u6,rfl,o6,b6⟩;obtain ⟨a6,c6,rfl⟩:=zU o6.row;refine ⟨_,rfl,?_⟩;have p6:Bw w5 w6:=qah (nE w5.heap.size w5) b6 (by simp);have q6:Bw W2 w6:=q5.trans (p6.mono q5.size);have x0:=(q6.cell (p:=(aQ w.heap.size 0)) hl0).trans b0;have x3:=(q6.cell (p:=(aQ w.heap.size 3)) hl0).trans b3;have z6:=p6.size;refine hK.out _ _ (fun _=>⟨x0,x3⟩) ?_;have hHeld:=And.intro x0 x3;clear hK K;refine qar 6 rfl hHeld ?_;refine yW 7 rfl fun K hK=>?_;go_simp;have t0:(w6.alloc (zQ3)).cell? (aQ w.heap.size 0)=some (.slice x.pa x.pn x.pc):=((zQ w6 _).cell (p:=(aQ w.heap.size 0)) (zL hl0 q6.size)).trans x0;have t3:(w6.alloc (zQ3)).cell? (aQ w.heap.size 3)=some (.slice x.ha x.hn x.hc):=((zQ w6 _).cell (p:=(aQ w.heap.size 3)) (zL hl0 q6.size)).trans x3;refine hK.out _ _ (fun _=>⟨t0,t3⟩) ?_;clear hK K
    (try simp only [Act.put,zD,zE,zF])
    refine yW 8 rfl fun K hK=>?_;go_simp;refine hK.out _ _ (fun h=>?_) ?_
    ·exact absurd h (by decide)
    clear hK K
    (try simp only [Act.put])
    refine yX ?_ _;go_wp2_with fail
    go_meet
    case rel=>
     exact ⟨w6.heap.size,by with_reducible rfl,CpB.start (l5:=W2.heap.size) (by simpa using o5) o6 p6 (by omega) (by omega) (by omega) (by omega) (by omega) (by omega) (fun k hk _=>(zQ w6 _).block k hk) (BoxC.new _ _ _ _ _ _) (fun j=>yB _ _ _ _ rfl),q6.trans ((zQ _ _).mono q6.size)⟩
   ·go_simp
    have t0:(w5.alloc (zQ3)).cell? (aQ w.heap.size 0)=some (.slice x.pa x.pn x.pc):=((zQ w5 _).cell (p:=(aQ w.heap.size 0)) (zL hl0 q5.size)).trans y0;have t3:(w5.alloc (zQ3)).cell? (aQ w.heap.size 3)=some (.slice x.ha x.hn x.hc):=((zQ w5 _).cell (p:=(aQ w.heap.size 3)) (zL hl0 q5.size)).trans y3;refine hK.out _ _ (fun _=>⟨t0,t3⟩) ?_;clear hK K
    (try simp only [Act.put,zD,zE,zF])
    refine yW 5 rfl fun K hK=>?_;refine qat rfl 140 _ _ rfl #[.slice x.ha x.hn x.hc] (by simp [Act.eval]) (yA func140) (qd4 x.ha x.hn x.hc x.hA x.hL x.hC x.hH (w5.alloc (zQ3)) HL.h.1 HL.h.2 (HH.out _ (q5.trans ((zQ w5 (zQ3)).mono q5.size))).1 (HH.out _ (q5.trans ((zQ w5 (zQ3)).mono q5.size))).2) ?_;rintro e w6 ⟨v6,u6,rfl,o6,b6⟩;obtain ⟨a6,c6,rfl⟩:=zU o6.row;refine ⟨_,rfl,?_⟩;have p6:Bw w5 w6:=qah (zQ w5 (zQ3)) b6 (by simp);have q6:Bw W2 w6:=q5.trans (p6.mono q5.size);have x0:=(q6.cell (p:=(aQ w.heap.size 0)) hl0).trans b0;have x3:=(q6.cell (p:=(aQ w.heap.size 3)) hl0).trans b3;have z6:=p6.size;refine hK.out _ _ (fun _=>⟨x0,x3⟩) ?_;have hHeld:=And.intro x0 x3;clear hK K
    (try simp only [Act.put,zD,zE,zF])
    have bx:=(BoxC.new w5 nS nS nS nS 29).bw b6;obtain ⟨g0,g1,g2,g3⟩:=bx;have gf:∀ j,w6.frozen? ⟨w5.heap.size,j,none⟩=false:=fun j=>((qal b6).2 _ _ (by simp)).trans (yB _ _ _ _ rfl);refine qar 6 rfl hHeld ?_;refine yW 8 rfl fun K hK=>?_;go_simp;refine hK.out _ _ (fun h=>?_) ?_
    ·exact absurd h (by decide)
    clear hK K
    (try simp only [Act.put])
    refine yX ?_ _;go_wp2_with fail
    go_meet
    case rel=>
     exact ⟨w5.heap.size,by with_reducible rfl,CpB.start (l5:=W2.heap.size) (l6:=w5.heap.size+1) (by simpa using o5) (by simpa using o6) p6 (by omega) (by omega) (by omega) (by omega) (by omega) (by omega) (fun k hk hne=>by repeat (rw [zO _ _ _ _ hne])) (BoxC.set4 ⟨g0,g1,g2,g3⟩ _ _ _ _) (fun j=>by simp only [World.frozen?_setCell];exact gf j),(((q6.setCell q5.size _).setCell q5.size _).setCell q5.size _).setCell q5.size _⟩
  ·go_simp
   have t0:(W2.drew.alloc (zQ3)).cell? (aQ w.heap.size 0)=some (.slice x.pa x.pn x.pc):=((zQ W2.drew _).cell (p:=(aQ w.heap.size 0)) hl0).trans b0;have t3:(W2.drew.alloc (zQ3)).cell? (aQ w.heap.size 3)=some (.slice x.ha x.hn x.hc):=((zQ W2.drew _).cell (p:=(aQ w.heap.size 3)) hl0).trans b3;refine hK.out _ _ (fun _=>⟨t0,t3⟩) ?_;clear hK K
   (try simp only [Act.put,zD,zE,zF])
   refine yW 2 rfl fun K hK=>?_;refine qat rfl 69 _ _ rfl #[.slice x.pa x.pn x.pc] (by simp [Act.eval]) (yA func69) (qfx x.pa x.pn x.pc x.pA x.pL x.pC x.pH (W2.drew.alloc (zQ3)) HL.p.1 HL.p.2 (HP.out _ ((nE W2.heap.size W2).drew.trans (zQ W2.drew (zQ3)))).1 (HP.out _ ((nE W2.heap.size W2).drew.trans (zQ W2.drew (zQ3)))).2) ?_;rintro e w5 ⟨v5,u5,rfl,o5,b5⟩;obtain ⟨a5,c5,rfl⟩:=zU o5.row;refine ⟨_,rfl,?_⟩;have q5:Bw W2 w5:=qah ((nE W2.heap.size W2).drew.trans (zQ W2.drew (zQ3))) b5 (by simp);have y0:=(q5.cell (p:=(aQ w.heap.size 0)) hl0).trans b0;have y3:=(q5.cell (p:=(aQ w.heap.size 3)) hl0).trans b3;have z5:=q5.size;refine hK.out _ _ (fun _=>⟨y0,y3⟩) ?_;have hHeld:=And.intro y0 y3;clear hK K
   (try simp only [Act.put,zD,zE,zF])
   have zc:W2.heap.size+1<=w5.heap.size:=by have:=b5.size;simpa using this
   refine yW 5 rfl fun K hK=>?_;refine qat rfl 140 _ _ rfl #[.slice x.ha x.hn x.hc] (by simp [Act.eval]) (yA func140) (qd4 x.ha x.hn x.hc x.hA x.hL x.hC x.hH (w5) HL.h.1 HL.h.2 (HH.out _ (q5.trans ((nE w5.heap.size w5).mono q5.size))).1 (HH.out _ (q5.trans ((nE w5.heap.size w5).mono q5.size))).2) ?_;rintro e w6 ⟨v6,u6,rfl,o6,b6⟩;obtain ⟨a6,c6,rfl⟩:=zU o6.row;refine ⟨_,rfl,?_⟩;have p6:Bw w5 w6:=qah (nE w5.heap.size w5) b6 (by simp);have q6:Bw W2 w6:=q5.trans (p6.mono q5.size);have x0:=(q6.cell (p:=(aQ w.heap.size 0)) hl0).trans b0;have x3:=(q6.cell (p:=(aQ w.heap.size 3)) hl0).trans b3;have z6:=p6.size;refine hK.out _ _ (fun _=>⟨x0,x3⟩) ?_;have hHeld:=And.intro x0 x3;clear hK K
   (try simp only [Act.put,zD,zE,zF])
   have bx:BoxC w6 W2.heap.size nS nS nS nS:=((BoxC.new W2.drew nS nS nS nS 29).bw b5).bw b6;obtain ⟨g0,g1,g2,g3⟩:=bx;have gf:∀ j,w6.frozen? ⟨W2.heap.size,j,none⟩=false:=fun j=>((qal b6).2 _ _ (by omega)).trans (((qal b5).2 _ _ (by simp)).trans (yB _ _ _ _ rfl));refine qar 6 rfl hHeld ?_;refine yW 8 rfl fun K hK=>?_;go_simp;refine hK.out _ _ (fun h=>?_) ?_
   ·exact absurd h (by decide)
   clear hK K
   (try simp only [Act.put])
   refine yX ?_ _;go_wp2_with fail
   go_meet
   case rel=>
    exact ⟨W2.heap.size,by with_reducible rfl,CpB.start (l5:=W2.heap.size+1) (by simpa using o5) o6 p6 (by omega) (by omega) (by omega) (by omega) (by omega) (by omega) (fun k hk hne=>by repeat (rw [zO _ _ _ _ hne])) (BoxC.set4 ⟨g0,g1,g2,g3⟩ _ _ _ _) (fun j=>by simp only [World.frozen?_setCell];exact gf j),(((q6.setCell (nA _) _).setCell (nA _) _).setCell (nA _) _).setCell (nA _) _⟩
 case rest=>
  obtain ⟨N,rfl,HC⟩:=hcut;clear b0 b1 b2 b3 HP HH;go_wp2_with fail
  go_loopw [4] (fun i wr=>∃ k:Nat,k<=x.sn/\i=.int .i64 k/\Hid ((∃ c vp vs vh up us uh,CpB W2.heap.size N c x.y k 0 wr vp vs nS vh up us (fun _=>nS) uh)/\Bw W2 wr)) (fun i _=>x.sn - (intOf i).toNat)
  case atStart=>
   obtain ⟨⟨c,vp,vh,up,uh,cp⟩,bz⟩:=HC.out;exact ⟨0,nD _,rfl,⟨c,vp,_,vh,up,_,uh,cp⟩,bz⟩
  case round=>
   obtain ⟨k,hk,rfl,HZ⟩:=hrel;clear HC;by_cases hlt:k<x.sn
   ·have hlt':(k:Int)<(x.sn:Int):=by omega
    obtain ⟨⟨c,vp,vs,vh,up,us,uh,cp⟩,bz⟩:=HZ.out;obtain ⟨sa',sc',rfl⟩:=zU cp.o.s.row;obtain ⟨x0,x1,x2,x3⟩:=cp.bx;have xf:=cp.fr;have hN:=cp.lt;obtain ⟨b0,b1,b2,b3⟩:=NB.bw bz;obtain ⟨bs,os,es,s0,s1,s2,s3⟩:=(HG.bw (BW.trans (bz.mono BW.size))).s.at hlt
    have hbs:bs<w.heap.size:=by
     obtain ⟨bs',os',es',s0',-⟩:=HG.s.at hlt;rw [es] at es';cases es';exact zJ w _ s0'
    have hls:=(HG.bw (BW.trans (bz.mono BW.size))).s.lst k hlt;have HLk:=HL.s.2 k hlt;rw [es] at b1;have CP:Hid (CpB W2.heap.size N c x.y k 0 wr vp (.slice sa' k sc') nS vh up us (fun _=>nS) uh):=cp;have LSt:Hid (Sl wr (x.sQ k).ra (x.sQ k).rs/\Sl wr (x.sQ k).oa (x.sQ k).os):=hls;have BZ:Hid (Bw W2 wr):=bz;have hbw:bs<wr.heap.size:=by have:=bz.size;omega
    have hb0w:w.heap.size<wr.heap.size:=by have:=bz.size;omega
    have hsaN : ∀ j, (Value.slice sa' k sc').ownBlock = some j → W2.heap.size ≤ j ∧ j ≠ N := fun j hj => ⟨(cp.o.s.rb j hj).1, fun e => by
     have h2:=(cp.o.s.rb j hj).2;rw [e,cp.cN] at h2
     cases h2⟩
    have HSA:Hid (∀ j,(Value.slice sa' k sc').ownBlock=some j->W2.heap.size<=j/\j≠N):=hsaN;have HE:Hid (x.sa=some (aQ bs os)):=es;clear cp bz hls HZ hsaN es;go_wp2_with fail
    refine qag (fun w'=>w'.cell? (aQ N 1)=some (.slice sa' k sc')/\w'.cell? (aQ w.heap.size 1)=some (.slice (some (aQ bs os)) x.sn x.sc)/\w'.cell? ⟨bs,os+k*4,none⟩=some (iV (x.sQ k).p)/\w'.cell? ⟨bs,os+k*4+1,none⟩=some (.slice (x.sQ k).ra (x.sQ k).rs.length (x.sQ k).rc)/\w'.cell? ⟨bs,os+k*4+2,none⟩=some (.slice (x.sQ k).oa (x.sQ k).os.length (x.sQ k).oc)/\w'.cell? ⟨bs,os+k*4+3,none⟩=some (iV (x.sQ k).c)) (fun i=>i == 11) (by kernel_rfl) ?_;have hHeld:=And.intro x1 (And.intro b1 (And.intro s0 (And.intro s1 (And.intro s2 s3))));refine qbb [0,1,2,3,4,5,6] ?_;iterate 7 (refine qbr rfl hHeld ?_)
    refine qa2 ?_;refine yW 7 rfl fun K hK=>?_;refine qat rfl 130 _ _ rfl #[stV (x.sQ k).p (x.sQ k).ra (x.sQ k).rs.length (x.sQ k).rc (x.sQ k).oa (x.sQ k).os.length (x.sQ k).oc (x.sQ k).c] (by simp [Act.eval]) (yA func130) (qbw _ _ _ _ _ _ (x.sQ k).rs (x.sQ k).os wr.drew HLk.1 HLk.2 LSt.1 LSt.2) ?_;rintro e w1 ⟨v1,rfl,o1,d1'⟩;refine ⟨_,rfl,?_⟩;obtain ⟨ra1,rc1,oa1,oc1,rfl,-,-⟩:=o1.read;have q1:Bw wr w1:=(nE wr.heap.size wr).drew.trans d1';have O1:Hid (qac w1 wr.heap.size (stV (x.sQ k).p ra1 (x.sQ k).rs.length rc1 oa1 (x.sQ k).os.length oc1 (x.sQ k).c) (x.sQ k).p (x.sQ k).rs (x.sQ k).os (x.sQ k).c):=o1;have hc1:∀ b o,b<wr.heap.size->w1.cell? ⟨b,o,none⟩=wr.cell? ⟨b,o,none⟩:=fun b o h=>(qal q1).1 b o h;have hHeld1:=And.intro ((hc1 _ _ hN).trans x1) (And.intro ((hc1 _ _ hb0w).trans b1) (And.intro ((hc1 _ _ hbw).trans s0) (And.intro ((hc1 _ _ hbw).trans s1) (And.intro ((hc1 _ _ hbw).trans s2) ((hc1 _ _ hbw).trans s3)))));have Q1:Hid (Bw wr w1):=q1;refine hK.out _ _ (fun _=>hHeld1) ?_;clear hHeld o1 d1' q1 hc1;clear hK K
    (try simp only [Act.put,zD,zE,zF])
    refine yW 8 rfl fun K hK=>?_;go_simp;have ba:=zQ w1 (oQ0 (x.sQ k).p ra1 (x.sQ k).rs.length rc1 oa1 (x.sQ k).os.length oc1 (x.sQ k).c);have hca:∀ b o,b<wr.heap.size->(w1.alloc (oQ0 (x.sQ k).p ra1 (x.sQ k).rs.length rc1 oa1 (x.sQ k).os.length oc1 (x.sQ k).c)).cell? ⟨b,o,none⟩=w1.cell? ⟨b,o,none⟩:=fun b o h=>(qal ba).1 b o (zL h Q1.size);obtain ⟨e0,e1,e2,e3,e4,e5⟩:=hHeld1;refine hK.out _ _ (fun _=>⟨(hca _ _ hN).trans e0,(hca _ _ hb0w).trans e1,(hca _ _ hbw).trans e2,(hca _ _ hbw).trans e3,(hca _ _ hbw).trans e4,(hca _ _ hbw).trans e5⟩) ?_;clear hca ba;clear hK K
    (try simp only [Act.put,zD,zE,zF])
    refine yW 9 rfl fun K hK=>?_;refine qa1 kndS w1 rfl rfl _ _ rfl 0 (.slice sa' k sc') k _ rfl (CP.o.s.bw Q1.out).row #[.int .i64 (x.sQ k).p,.slice ra1 (x.sQ k).rs.length rc1,.slice oa1 (x.sQ k).os.length oc1,.int .i64 (x.sQ k).c] rfl rfl (by intro u hu;simp at hu;rcases hu with rfl | rfl | rfl | rfl <;> rfl) (by omega) (nD _) ?_;intro v3 w3 o3 g3 q3 n3;obtain ⟨a3,c3,rfl⟩:=zU o3
    have hk3:∀ b,b<wr.heap.size->(b<W2.heap.size\/b=N)->w3.heap[b]? = w1.heap[b]?:=fun b h1 h2=>g3.block b (zL h1 Q1.size) fun e=>by
     have:=HSA.out b e.symm;omega
    have hc3:∀ b o,b<wr.heap.size->(b<W2.heap.size\/b=N)->w3.cell? ⟨b,o,none⟩=w1.cell? ⟨b,o,none⟩:=fun b o h1 h2=>zH (hk3 b h1 h2);have hHeld:=And.intro ((hc3 _ _ hN (.inr rfl)).trans e0) (And.intro ((hc3 _ _ hb0w (.inl hl0)).trans e1) (And.intro ((hc3 _ _ hbw (.inl (by omega))).trans e2) (And.intro ((hc3 _ _ hbw (.inl (by omega))).trans e3) (And.intro ((hc3 _ _ hbw (.inl (by omega))).trans e4) ((hc3 _ _ hbw (.inl (by omega))).trans e5)))));have hfN:∀ j,w3.frozen? ⟨N,j,none⟩=false:=fun j=>(zI (hk3 N hN (.inr rfl))).trans (((qal Q1.out).2 N j hN).trans (xf j));have CN:Hid (CpB W2.heap.size N (rcol c wr.heap.size 2) x.y (k+1) 0 (w3.setCell (aQ N 1) (.slice a3 (k+1) c3)) vp (.slice a3 (k+1) c3) nS vh up (fun j=>if j=k then stV (x.sQ k).p ra1 (x.sQ k).rs.length rc1 oa1 (x.sQ k).os.length oc1 (x.sQ k).c else us j) (fun _=>nS) uh):=CP.state Q1.out O1.out o3 g3 q3;have BN:Hid (Bw W2 (w3.setCell (aQ N 1) (.slice a3 (k+1) c3))):=(Below.grown (BZ.trans (Q1.mono BZ.size)) g3 (zP BZ.size Q1.size) (fun j hj=>(HSA.out j hj).1)).setCell CP.bN _;refine hK.out _ _ (fun _=>hHeld) ?_;clear o3 g3 q3 n3 hk3 hc3;clear hK K;refine qar 10 rfl hHeld ?_;refine yW 11 rfl fun K hK=>?_;have hcN:=hHeld.1;have hfN1:=hfN 1;go_simp;refine hK.out _ _ (fun h=>?_) ?_
    ·exact absurd h (by decide)
    clear hK K
    (try simp only [Act.put])
    refine yX ?_ _;go_wp2;go_roundw
    case rel=>exact ⟨k+1,by omega,by go_num,⟨_,_,_,_,_,_,_,CN.out⟩,BN.out⟩
    case measure=>simp [intOf];omega
   ·have hkn:k=x.sn:=by omega
    subst hkn;have hsb:∀ wx,Bw W2 wx->wx.cell? ⟨w.heap.size,1,none⟩=some (.slice x.sa x.sn x.sc):=fun wx hb=>(NB.bw hb).2.1;have b1:=hsb wr HZ.2;clear hsb;go_wp2_with fail
    clear b1
    go_loopw [5] (fun i wr=>∃ k:Nat,k<=x.wn/\i=.int .i64 k/\Hid ((∃ c vp vs vw vh up us uw uh,CpB W2.heap.size N c x.y x.sn k wr vp vs vw vh up us uw uh)/\Bw W2 wr)) (fun i _=>x.wn - (intOf i).toNat)
    case atStart=>
     obtain ⟨⟨c,vp,vs,vh,up,us,uh,cp⟩,bz⟩:=HZ.out;exact ⟨0,nD _,rfl,⟨c,vp,vs,_,vh,up,us,_,uh,cp⟩,bz⟩
    case round=>
     clear HZ hlt hk;obtain ⟨k,hk,rfl,HZ⟩:=hrel;by_cases hlt:k<x.wn
     ·have hlt':(k:Int)<(x.wn:Int):=by omega
      obtain ⟨⟨c,vp,vs,vw,vh,up,us,uw,uh,cp⟩,bz⟩:=HZ.out;obtain ⟨wa',wc',rfl⟩:=zU cp.o.t.row;obtain ⟨x0,x1,x2,x3⟩:=cp.bx;have xf:=cp.fr;have hN:=cp.lt;obtain ⟨b0,b1,b2,b3⟩:=NB.bw bz;obtain ⟨bq,oq,es,s0⟩:=(HG.bw (BW.trans (bz.mono BW.size))).w.at hlt
      have hbs:bq<w.heap.size:=by
       obtain ⟨bs',os',es',s0'⟩:=HG.w.at hlt;rw [es] at es';cases es';exact zJ w _ s0'
      have hsr:=srcT ((HG.bw (BW.trans (bz.mono BW.size))).wi k hlt);have HLk:=HL.w.2 k hlt;rw [es] at b2;have CP:Hid (CpB W2.heap.size N c x.y x.sn k wr vp vs (.slice wa' k wc') vh up us uw uh):=cp;have LSt:Hid (Src wr (x.wA k) (fT (x.wH k) (x.wL k))):=hsr;have BZ:Hid (Bw W2 wr):=bz;have hbw:bq<wr.heap.size:=by have:=bz.size;omega
      have hb0w:w.heap.size<wr.heap.size:=by have:=bz.size;omega
      have HSA : Hid (∀ j, (Value.slice wa' k wc').ownBlock = some j → W2.heap.size ≤ j ∧ j ≠ N) := fun j hj => ⟨(cp.o.t.rb j hj).1, fun e => by
       have h2:=(cp.o.t.rb j hj).2;rw [e,cp.cN] at h2
       cases h2⟩
      clear cp bz hsr HZ es;go_wp2_with fail
      refine qag (fun w'=>w'.cell? (aQ N 2)=some (.slice wa' k wc')/\w'.cell? (aQ w.heap.size 2)=some (.slice (some (aQ bq oq)) x.wn x.wc)/\w'.cell? ⟨bq,oq+k,none⟩=some (.slice (x.wA k) (x.wL k) (x.wC k))) (fun i=>i == 12) (by kernel_rfl) ?_;have hHeld:=And.intro x2 (And.intro b2 s0);refine qbb [0,1,3,4,5,6,7] ?_;iterate 7 (refine qbr rfl hHeld ?_)
      refine qa2 ?_;refine yW 2 rfl fun K hK=>?_;go_simp;have ba:Below wr.drew.heap.size wr.drew (wr.drew.alloc (.cells #[] 78)):=zQ wr.drew _;have hHeld1:(fun w'=>w'.cell? (aQ N 2)=some (.slice wa' k wc')/\w'.cell? (aQ w.heap.size 2)=some (.slice (some (aQ bq oq)) x.wn x.wc)/\w'.cell? ⟨bq,oq+k,none⟩=some (.slice (x.wA k) (x.wL k) (x.wC k))) (wr.drew.alloc (.cells #[] 78)):=⟨((qal ba).1 _ _ hN).trans x2,((qal ba).1 _ _ hb0w).trans b2,((qal ba).1 _ _ hbw).trans s0⟩
      refine hK.out _ _ (fun _=>hHeld1) ?_;clear hHeld ba;clear hK K
      (try simp only [Act.put,zD,zE,zF])
      refine yW 8 rfl fun K hK=>?_;refine qbx kndT wr.drew rfl rfl _ _ rfl (x.wA k) (x.wL k) (x.wC k) (fT (x.wH k) (x.wL k)) rfl rfl (qly _ _) LSt.out (qo4 _ _) (zP HLk (by omega)) ?_;intro v1 w1 o1 d1' n1;obtain ⟨a1,c1,rfl⟩:=zU o1;have q1:Bw wr w1:=(nE wr.heap.size wr).drew.trans d1';have O1:Hid (w1.ownsRow wr.heap.size 78 2 (.slice a1 (x.wL k) c1) (x.wL k) (fT (x.wH k) (x.wL k))/\Value.slice a1 (x.wL k) c1≠nS):=⟨o1,n1⟩
      have hc1:∀ b o,b<wr.heap.size->w1.cell? ⟨b,o,none⟩=wr.cell? ⟨b,o,none⟩:=fun b o h=>(qal q1).1 b o h;have hHeld2:=And.intro ((hc1 _ _ hN).trans x2) (And.intro ((hc1 _ _ hb0w).trans b2) ((hc1 _ _ hbw).trans s0));have Q1:Hid (Bw wr w1):=q1;refine hK.out _ _ (fun _=>hHeld2) ?_;clear hHeld1 o1 d1' q1 hc1 n1;clear hK K
      (try simp only [Act.put,zD,zE,zF])
      refine yW 9 rfl fun K hK=>?_;go_simp;have ba:=zQ w1 (.cells #[.slice a1 (x.wL k) c1] 75);have hca:∀ b o,b<wr.heap.size->(w1.alloc (.cells #[.slice a1 (x.wL k) c1] 75)).cell? ⟨b,o,none⟩=w1.cell? ⟨b,o,none⟩:=fun b o h=>(qal ba).1 b o (zL h Q1.size);obtain ⟨e0,e1,e2⟩:=hHeld2;refine hK.out _ _ (fun _=>⟨(hca _ _ hN).trans e0,(hca _ _ hb0w).trans e1,(hca _ _ hbw).trans e2⟩) ?_;clear hca ba;clear hK K
      (try simp only [Act.put,zD,zE,zF])
      refine yW 10 rfl fun K hK=>?_;refine qa1 quz w1 rfl rfl _ _ rfl 0 (.slice wa' k wc') k _ rfl (CP.o.t.bw Q1.out).row #[.slice a1 (x.wL k) c1] rfl rfl (by intro u hu;simp at hu;subst hu;rfl) (by omega) (nD _) ?_;intro v3 w3 o3 g3 q3 n3;obtain ⟨a3,c3,rfl⟩:=zU o3
      have hk3:∀ b,b<wr.heap.size->(b<W2.heap.size\/b=N)->w3.heap[b]? = w1.heap[b]?:=fun b h1 h2=>g3.block b (zL h1 Q1.size) fun e=>by
       have:=HSA.out b e.symm;omega
      have hc3:∀ b o,b<wr.heap.size->(b<W2.heap.size\/b=N)->w3.cell? ⟨b,o,none⟩=w1.cell? ⟨b,o,none⟩:=fun b o h1 h2=>zH (hk3 b h1 h2);have hHeld:=And.intro ((hc3 _ _ hN (.inr rfl)).trans e0) (And.intro ((hc3 _ _ hb0w (.inl hl0)).trans e1) ((hc3 _ _ hbw (.inl (by omega))).trans e2));have hfN:∀ j,w3.frozen? ⟨N,j,none⟩=false:=fun j=>(zI (hk3 N hN (.inr rfl))).trans (((qal Q1.out).2 N j hN).trans (xf j));have CN:Hid (CpB W2.heap.size N (rcol c wr.heap.size 3) x.y x.sn (k+1) (w3.setCell (aQ N 2) (.slice a3 (k+1) c3)) vp vs (.slice a3 (k+1) c3) vh up us (fun j=>if j=k then .slice a1 (x.wL k) c1 else uw j) uh):=CP.way Q1.out O1.1 O1.2 o3 g3 q3;have BN:Hid (Bw W2 (w3.setCell (aQ N 2) (.slice a3 (k+1) c3))):=(Below.grown (BZ.trans (Q1.mono BZ.size)) g3 (zP BZ.size Q1.size) (fun j hj=>(HSA.out j hj).1)).setCell CP.bN _;refine hK.out _ _ (fun _=>hHeld) ?_;clear o3 g3 q3 n3 hk3 hc3;clear hK K;refine qar 11 rfl hHeld ?_;refine yW 12 rfl fun K hK=>?_;have hcN:=hHeld.1;have hfN1:=hfN 2;go_simp;refine hK.out _ _ (fun h=>?_) ?_
      ·exact absurd h (by decide)
      clear hK K
      (try simp only [Act.put])
      refine yX ?_ _;go_wp2;go_roundw
      case rel=>exact ⟨k+1,by omega,by go_num,⟨_,_,_,_,_,_,_,_,_,CN.out⟩,BN.out⟩
      case measure=>simp [intOf];omega
     ·have hkn:k=x.wn:=by omega
      subst hkn;obtain ⟨⟨c,vp,vs,vw,vh,up,us,uw,uh,cp⟩,bz⟩:=HZ.out;obtain ⟨pa',pc',rfl⟩:=zU cp.o.p.row;obtain ⟨sa',sc',rfl⟩:=zU cp.o.s.row;obtain ⟨wa',wc',rfl⟩:=zU cp.o.t.row;obtain ⟨ha',hc',rfl⟩:=zU cp.o.h.row;obtain ⟨x0,x1,x2,x3⟩:=cp.bx;replace x0:wr.cell? (aQ N 0)=some (.slice pa' x.pn pc'):=x0;replace x3:wr.cell? (aQ N 3)=some (.slice ha' x.hn hc'):=x3;obtain ⟨r0,r1,r2,r3⟩:=RB.1.bw bz;obtain ⟨-,-,b2,-⟩:=NB.bw bz;have rf:∀ j,wr.frozen? ⟨w.heap.size+1,j,none⟩=false:=fun j=>((qal bz).2 _ _ hl1).trans (RB.2 j);have HO:Hid (OwnS true wr W2.heap.size c x.y (.slice pa' x.pn pc') (.slice sa' x.sn sc') (.slice wa' x.wn wc') (.slice ha' x.hn hc') up us uw uh):=cp.o;have BE:Hid (Bw w wr):=BW.trans (bz.mono BW.size)
      have HO2:Hid (∀ W9:World,(∀ k,w.heap.size+1<k->W9.heap[k]? = wr.heap[k]?)->qan true W9 w.heap.size x.y (sysV pa' x.pn pc' sa' x.sn sc' wa' x.wn wc' ha' x.hn hc')):=fun W9 hk9=>by
       have hm:∀ i k,Cl W2.heap.size c i k->k<wr.heap.size->Cl w.heap.size c i k:=fun i k h _=>⟨by have:=h.1;omega,h.2⟩
       have hq:∀ i k,Cl W2.heap.size c i k->k<wr.heap.size->W9.heap[k]? = wr.heap[k]?:=fun i k h _=>hk9 k (by have:=h.1;omega);have hm9:∀ i k,Cl W2.heap.size c i k->k<W9.heap.size->Cl w.heap.size c i k:=fun i k h _=>⟨by have:=h.1;omega,h.2⟩
       exact ⟨c,_,_,_,_,up,us,uw,uh,rfl,⟨(HO.p.keep (hq 1)).mono (hm9 1),(HO.s.keep (hq 2)).mono (hm9 2),(HO.t.keep (hq 3)).mono (hm9 3),(HO.h.keep (hq 4)).mono (hm9 4)⟩⟩
      clear HZ cp bz HO RB NB HG;go_wp2;refine bodyPost_ret (v:=sysV pa' x.pn pc' sa' x.sn sc' wa' x.wn wc' ha' x.hn hc') (by simp [results,results124,go_sem,r0,r1,r2,r3]) rfl ⟨_,rfl,HO2.out _ ?_,?_⟩
      ·intro k hk
       repeat (rw [zO _ _ _ _ (by simp;omega)])
      ·have:=BE.out
       go_grown
structure EvK (w:World) (N:Nat) (k q v:Int):Prop where
 c0:w.cell? (aQ N 0)=some (iV k)
 c1:w.cell? (aQ N 1)=some (iV q)
 c2:w.cell? (aQ N 2)=some (iV v)
 fr:∀ j,w.frozen? ⟨N,j,none⟩=false
theorem EvK.bw {w w':World} {N:Nat} {k q v:Int} (h:EvK w N k q v) (hb:Bw w w'):EvK w' N k q v:=by
 have hN:=hb.block N (zJ w _ h.c0);exact ⟨(zH hN).trans h.c0,(zH hN).trans h.c1,(zH hN).trans h.c2,fun j=>(zI hN).trans (h.fr j)⟩
theorem EvK.new (w:World) (k q v:Int) (t:TypeId):EvK (w.alloc (.cells #[iV k,iV q,iV v] t)) w.heap.size k q v:=
 ⟨zW _ _ _ 0 (by simp),zW _ _ _ 1 (by simp),zW _ _ _ 2 (by simp),fun j=>yB _ _ _ _ (by simp)⟩
theorem EvK.put {w:World} {N:Nat} {k q v:Int} (h:EvK w N k q v) (k' q' v':Int):EvK (((w.setCell (aQ N 0) (iV k')).setCell (aQ N 1) (iV q')).setCell (aQ N 2) (iV v')) N k' q' v':=by
 obtain ⟨h0,h1,h2,hf⟩:=h;exact ⟨by go_cell,by go_cell,by go_cell,fun j=>by simpa using hf j⟩
def Sy.nk (y:Sy) (p:Nat):Int:=nxK (y.pH p) (y.pL p) (y.sS p).p (y.sS p).rs (y.sS p).os (y.sS p).c
def Sy.nq (y:Sy) (p:Nat):Int:=nxP (y.pH p) (y.pL p) (y.sS p).p (y.sS p).rs (y.sS p).os (y.sS p).c
def Sy.nv (y:Sy) (p:Nat):Int:=nxW (y.pH p) (y.pL p) (y.sS p).p (y.sS p).rs (y.sS p).os (y.sS p).c
def tkS (y:Sy) (p:Nat) (f:Int):Int:=if belB f y.pn=true then (if y.wL (f.toNat*y.pn+p)=0 then 3 else if (y.wH (f.toNat*y.pn+p) 0).m=true then 5 else 0) else 2
def fuS (y:Sy) (p:Nat) (k q:Int):Bool:=decide (200<=y.hL p) || (k == 2 && decide (12<=y.wL (p*y.pn+q.toNat)))
def cmS (y:Sy) (p:Nat) (f:Int):Int:=if (y.sS p).c≠0 then 6 else if fuS y p (y.nk p) (y.nq p)=true then 4 else if y.nk p=3 then tkS y p (if y.nq p=9 then f else y.nq p) else 0
theorem qws {g:Nat->I5} {n:Nat} {eh:Nat->E3} (hp:qaa g n 4=true):∀ k S,rp g n eh k=some S->OkS n S
 | 0,S,h=>by
  simp only [rp,nG] at h;subst h;exact qka hp
 | k+1,S,h=>by
  simp only [rp] at h;cases hr:rp g n eh k with
  | none=>rw [hr] at h;cases h
  | some S0=>
   rw [hr] at h;simp only [Option.bind_some,qcz] at h
   split at h
   ·rename_i hd
    simp only [nG] at h;subst h;exact qo2 hd
   ·cases h
theorem Sy.Ok.four {y:Sy} (h:y.Ok) {p:Nat} (hp:p<y.pn):qaa (y.pH p) (y.pL p) 4=true:=(qbh (h.rp p hp)).1
theorem Sy.Ok.le200 {y:Sy} (h:y.Ok) {p:Nat} (hp:p<y.pn):y.hL p<=200:=(qbh (h.rp p hp)).2.1
theorem Sy.Ok.st {y:Sy} (h:y.Ok) {p:Nat} (hp:p<y.pn):OkS (y.pL p) (y.sS p):=qws (h.four hp) _ _ (qbh (h.rp p hp)).2.2
theorem Sy.Ok.right {y:Sy} (h:y.Ok) {p:Nat} (hp:p<y.pn) (hc:(y.sS p).c=0):qbj (y.pH p) (y.pL p) (y.sS p).p (y.sS p).rs (y.sS p).os 0=true:=by
 have:=qps (h.four hp) (h.st hp) hc
 rwa [hc] at this
theorem Sy.Ok.peer {y:Sy} (h:y.Ok) {p:Nat} (hp:p<y.pn) (hk:y.nk p=2):0<=y.nq p/\y.nq p<y.pn:=by
 unfold Sy.nk nxK at hk;unfold Sy.nq nxP;by_cases hr:qbj (y.pH p) (y.pL p) (y.sS p).p (y.sS p).rs (y.sS p).os (y.sS p).c=true
 ·rw [nC hr] at hk ⊢
  obtain ⟨-,h4,-⟩:=qa7 hr;obtain ⟨-,⟨k,ek,hkl⟩,-⟩:=qbq h4;have e:(y.sS p).p.toNat=k:=by omega
  rw [e] at hk ⊢;have h5:=qbo (h.pr p hp) hkl;simp only [qae,nH] at h5;have h6:=h5.2
  have e6:(y.pH p k).o=6:=by
   unfold evK at hk;by_cases e6:(y.pH p k).o=6
   ·exact e6
   ·rw [nB e6] at hk
    split at hk
    ·cases hk
    ·split at hk <;> cases hk
  rw [evP,nC e6];simp [qbf,e6,inB] at h6;omega
 ·rw [nB hr] at hk
  cases hk
theorem Sy.Ok.way {y:Sy} (h:y.Ok) {a b:Nat} (ha:a<y.pn) (hb:b<y.pn):y.wL (a*y.pn+b)<=12:=(h.wa a ha b hb).le
theorem qua {a b n:Nat} (ha:a<n) (hb:b<n):a*n+b<n*n:=by
 have:=Nat.mul_le_mul_right n (show a+1<=n by omega);rw [Nat.add_mul,Nat.one_mul] at this;omega
variable {z:Bool}
def Sy.setW (y:Sy) (i m:Nat) (H:Nat->I2):Sy:={ y with wL:=fun j=>if j=i then m else y.wL j,wH:=fun j=>if j=i then H else y.wH j }
def Sy.setH (y:Sy) (i m:Nat) (H:Nat->E3):Sy:={ y with hL:=fun j=>if j=i then m else y.hL j,hH:=fun j=>if j=i then H else y.hH j }
def Sy.setS (y:Sy) (i:Nat) (T:S4):Sy:={ y with sS:=fun j=>if j=i then T else y.sS j }
theorem OwnS.putW {w w1:World} {B:Nat} {c:Nat->Nat} {y:Sy} {vp vs vh:Value} {g cap:Nat} {up us uw uh:Nat->Value} (o:OwnS z w B c y vp vs (sG g y.wn cap) vh up us uw uh) {i:Nat} (hi:i<y.wn) {u':Value} {m:Nat} {H':Nat->I2} (hB:B<=w.heap.size) (hs:w.heap.size<=w1.heap.size) (g1:∀ k,k<w.heap.size->(uw i).ownBlock≠some k->w1.heap[k]? = w.heap[k]?)
  (hu:w1.ownsRow 0 78 2 u' m (fT H' m)) (hne:u'≠nS) (hb:∀ k,u'.ownBlock=some k->(uw i).ownBlock=some k\/w.heap.size<=k):
  OwnS z (w1.setCell (aQ g i) u') B (rcol c w.heap.size 3) (y.setW i m H') vp vs (sG g y.wn cap) vh up us (fun j=>if j=i then u' else uw j) uh:=by
 have hP:∀ q k,Cl B c q k->k<w.heap.size->Cl B (rcol c w.heap.size 3) q k:=fun q k h hl=>h.old hl;have hg:Cl B c 3 g:=o.t.rb g rfl;have hgl:g<w.heap.size:=(o.t.row.lt g rfl).2
 have hk:∀ q,q≠3->∀ k,Cl B (rcol c w.heap.size 3) q k->k<w.heap.size->(w1.setCell ⟨g,i,none⟩ u').heap[k]? = w.heap[k]?:=fun q hq k h hl=>by
  have e:c k=q:=(qam hl).symm.trans h.2;refine (zO _ _ _ _ fun ek=>hq ?_).trans (g1 k hl fun ek=>hq ?_)
  ·rw [<- e,ek];exact hg.2
  ·rw [<- e];exact (o.t.ob i hi k ek).2
 refine ⟨(o.p.mono (hP 1)).keep (hk 1 (by decide)),(o.s.mono (hP 2)).keep (hk 2 (by decide)),?_,(o.h.mono (hP 4)).keep (hk 4 (by decide))⟩;have h:=LL.put o.t hi hs g1 hu (fun _=>hne) hb (P':=Cl B (rcol c w.heap.size 3) 3) (hP 3) fun k h _=>⟨zP hB h,qad h⟩
 have e:(fun j=>if j=i then fT H' m else fT (y.wH j) (y.wL j))=fun j=>fT ((y.setW i m H').wH j) ((y.setW i m H').wL j):=funext fun j=>by
  by_cases q:j=i
  ·simp [Sy.setW,q]
  ·simp [Sy.setW,q]
 rw [e] at h;exact h
theorem OwnS.putH {w w1:World} {B:Nat} {c:Nat->Nat} {y:Sy} {vp vs vw:Value} {g cap:Nat} {up us uw uh:Nat->Value} (o:OwnS z w B c y vp vs vw (sG g y.hn cap) up us uw uh) {i:Nat} (hi:i<y.hn) {u':Value} {m:Nat} {H':Nat->E3} (hB:B<=w.heap.size) (hs:w.heap.size<=w1.heap.size) (g1:∀ k,k<w.heap.size->(uh i).ownBlock≠some k->w1.heap[k]? = w.heap[k]?)
  (hu:w1.ownsRow 0 49 3 u' m (fE H' m)) (hne:u'≠nS) (hb:∀ k,u'.ownBlock=some k->(uh i).ownBlock=some k\/w.heap.size<=k):
  OwnS z (w1.setCell (aQ g i) u') B (rcol c w.heap.size 4) (y.setH i m H') vp vs vw (sG g y.hn cap) up us uw (fun j=>if j=i then u' else uh j):=by
 have hP:∀ q k,Cl B c q k->k<w.heap.size->Cl B (rcol c w.heap.size 4) q k:=fun q k h hl=>h.old hl;have hg:Cl B c 4 g:=o.h.rb g rfl;have hgl:g<w.heap.size:=(o.h.row.lt g rfl).2
 have hk:∀ q,q≠4->∀ k,Cl B (rcol c w.heap.size 4) q k->k<w.heap.size->(w1.setCell ⟨g,i,none⟩ u').heap[k]? = w.heap[k]?:=fun q hq k h hl=>by
  have e:c k=q:=(qam hl).symm.trans h.2;refine (zO _ _ _ _ fun ek=>hq ?_).trans (g1 k hl fun ek=>hq ?_)
  ·rw [<- e,ek];exact hg.2
  ·rw [<- e];exact (o.h.ob i hi k ek).2
 refine ⟨(o.p.mono (hP 1)).keep (hk 1 (by decide)),(o.s.mono (hP 2)).keep (hk 2 (by decide)),(o.t.mono (hP 3)).keep (hk 3 (by decide)),?_⟩;have h:=LL.put o.h hi hs g1 hu (fun _=>hne) hb (P':=Cl B (rcol c w.heap.size 4) 4) (hP 4) fun k h _=>⟨zP hB h,qad h⟩
 have e:(fun j=>if j=i then fE H' m else fE (y.hH j) (y.hL j))=fun j=>fE ((y.setH i m H').hH j) ((y.setH i m H').hL j):=funext fun j=>by
  by_cases q:j=i
  ·simp [Sy.setH,q]
  ·simp [Sy.setH,q]
 rw [e] at h;exact h
theorem OwnS.putS {w w1:World} {B:Nat} {c:Nat->Nat} {y:Sy} {vp vw vh:Value} {g cap:Nat} {up us uw uh:Nat->Value} (o:OwnS z w B c y vp (sG g y.sn cap) vw vh up us uw uh) {i:Nat} (hi:i<y.sn) {ra oa:Option Addr} {rn rc on oc:Nat} {p code:Int} {T:S4} (hB:B<=w.heap.size) (b1:Bw w w1) (hu:qac w1 w.heap.size (stV p ra rn rc oa on oc code) T.p T.rs T.os T.c):
  OwnS z ((((w1.setCell ⟨g,i*4,none⟩ (iV p)).setCell ⟨g,i*4+1,none⟩ (.slice ra rn rc)).setCell ⟨g,i*4+2,none⟩ (.slice oa on oc)).setCell ⟨g,i*4+3,none⟩ (iV code)) B (rcol c w.heap.size 2) (y.setS i T) vp (sG g y.sn cap) vw vh up (fun j=>if j=i then stV p ra rn rc oa on oc code else us j) uw uh:=by
 have hP:∀ q k,Cl B c q k->k<w.heap.size->Cl B (rcol c w.heap.size 2) q k:=fun q k h hl=>h.old hl;have hg:Cl B c 2 g:=o.s.rb g rfl
 have hk:∀ q,q≠2->∀ k,Cl B (rcol c w.heap.size 2) q k->k<w.heap.size->((((w1.setCell ⟨g,i*4,none⟩ (iV p)).setCell ⟨g,i*4+1,none⟩ (.slice ra rn rc)).setCell ⟨g,i*4+2,none⟩ (.slice oa on oc)).setCell ⟨g,i*4+3,none⟩ (iV code)).heap[k]? = w.heap[k]?:=fun q hq k h hl=>by
  have e:c k=q:=(qam hl).symm.trans h.2;have hne:k≠g:=fun ek=>hq (by rw [<- e,ek];exact hg.2);exact ((zO _ _ _ _ hne).trans ((zO _ _ _ _ hne).trans ((zO _ _ _ _ hne).trans (zO _ _ _ _ hne)))).trans (b1.block k hl)
 exact ⟨(o.p.mono (hP 1)).keep (hk 1 (by decide)),LS.put o.s hi b1 hu (hP 2) fun k h _=>⟨zP hB h,qad h⟩,(o.t.mono (hP 3)).keep (hk 3 (by decide)),(o.h.mono (hP 4)).keep (hk 4 (by decide))⟩
def Sy.way (y:Sy) (p:Nat) (k q v:Int):Sy:=
 { y with
  wL:=if k=2 then fun j=>if j=p*y.pn+q.toNat then y.wL (p*y.pn+q.toNat)+1 else y.wL j
   else if k=3 then fun j=>if j=q.toNat*y.pn+p then y.wL (q.toNat*y.pn+p) - 1 else y.wL j else y.wL
  wH:=if k=2 then fun j=>if j=p*y.pn+q.toNat then (fun i=>if i=y.wL (p*y.pn+q.toNat) then ⟨false,v⟩ else y.wH (p*y.pn+q.toNat) i) else y.wH j
   else if k=3 then fun j=>if j=q.toNat*y.pn+p then (fun i=>y.wH (q.toNat*y.pn+p) (i+1)) else y.wH j else y.wH }
theorem Sy.way_send (y:Sy) (p q:Nat) (v:Int):y.way p 2 q v=y.setW (p*y.pn+q) (y.wL (p*y.pn+q)+1) (fun i=>if i=y.wL (p*y.pn+q) then ⟨false,v⟩ else y.wH (p*y.pn+q) i):=by
 simp [Sy.way,Sy.setW]
theorem Sy.way_take (y:Sy) (p q:Nat) (v:Int):y.way p 3 q v=y.setW (q*y.pn+p) (y.wL (q*y.pn+p) - 1) (fun i=>y.wH (q*y.pn+p) (i+1)):=by
 simp [Sy.way,Sy.setW]
theorem Sy.way_no (y:Sy) (p:Nat) {k:Int} (h2:k≠2) (h3:k≠3) (q v:Int):y.way p k q v=y:=by
 simp [Sy.way,h2,h3]
theorem qr1 (H:Nat->I2) (x:I2) (n:Nat):fT (fun i=>if i=n then x else H i) (n+1)=fT H n ++ cT x:=by
 show flat (fun i=>cT (if i=n then x else H i)) n ++ cT (if n=n then x else H n)=flat (fun i=>cT (H i)) n ++ cT x;rw [nC rfl]
 congr 1
 exact qcu fun i hi=>by rw [nB (by omega)]
theorem qrz (H:Nat->E3) (x:E3) (n:Nat):fE (fun i=>if i=n then x else H i) (n+1)=fE H n ++ cE x:=by
 show flat (fun i=>cE (if i=n then x else H i)) n ++ cE (if n=n then x else H n)=flat (fun i=>cE (H i)) n ++ cE x;rw [nC rfl]
 congr 1
 exact qcu fun i hi=>by rw [nB (by omega)]
def Sy.evt (y:Sy) (p:Nat) (k q v:Int):Sy:=
 (y.setS p (doS (y.pH p) (y.pL p) (y.sS p).p (y.sS p).rs (y.sS p).os (y.sS p).c k q v)).setH p (y.hL p+1) (fun i=>if i=y.hL p then ⟨k,q,v⟩ else y.hH p i)
def Sy.eq (y:Sy) (p:Nat) (f:Int):Int:=if y.nk p=3 then (if y.nq p=9 then f else y.nq p) else y.nq p
def Sy.ev (y:Sy) (p:Nat) (f:Int):Int:=if y.nk p=3 then (y.wH ((y.eq p f).toNat*y.pn+p) 0).v else y.nv p
def Sy.step (y:Sy) (p:Nat) (f:Int):Sy:=if cmS y p f=0 then (y.way p (y.nk p) (y.eq p f) (y.ev p f)).evt p (y.nk p) (y.eq p f) (y.ev p f) else y
theorem Sy.step_no {y:Sy} {p:Nat} {f:Int} (h:cmS y p f≠0):y.step p f=y:=nB h
variable {z:Bool}
def adOf:Value->Option Addr
 | .slice a _ _=>a
 | _=>none
def cpOf:Value->Nat
 | .slice _ _ c=>c
 | _=>0
def fdOf (v:Value) (i:Nat):Value:=(cellsL v).getD i nS
def Sy.sysIn (y:Sy) (vp vs vw vh:Value) (up us uw uh:Nat->Value):SysIn:=
 ⟨adOf vp, y.pn, cpOf vp, fun i => adOf (up i), y.pL, fun i => cpOf (up i), y.pH,
  adOf vs,y.sn,cpOf vs,fun i=>⟨(y.sS i).p,adOf (fdOf (us i) 1),cpOf (fdOf (us i) 1),(y.sS i).rs,adOf (fdOf (us i) 2),cpOf (fdOf (us i) 2),(y.sS i).os,(y.sS i).c⟩,
  adOf vw,y.wn,cpOf vw,fun i=>adOf (uw i),y.wL,fun i=>cpOf (uw i),y.wH,
  adOf vh,y.hn,cpOf vh,fun i=>adOf (uh i),y.hL,fun i=>cpOf (uh i),y.hH⟩
theorem qde {e:TypeId} {sz:Nat} {E:TypeId} {w:World} {P:Nat->Prop} {v:Value} {n:Nat} {u:Nat->Value} {L:Nat->Nat} {c:Nat->List Value} (o:LL z e sz E w P v n u L c):RowS w (adOf v) n fun i=>.slice (adOf (u i)) (L i) (cpOf (u i)):=by
 rcases Nat.eq_zero_or_pos n with h | h
 ·exact .inl h
 ·obtain ⟨g,cap,rfl,-,hg,-,-⟩:=o.cell h
  refine .inr ⟨g,0,rfl,hg,fun i hi=>?_⟩;obtain ⟨g',cap',ew,-,-,hc,-⟩:=o.cell hi;simp only [Value.slice.injEq,nG,Addr.mk.injEq,and_true,true_and] at ew;obtain ⟨rfl,rfl⟩:=ew;obtain ⟨a,c',eu⟩:=zU (o.own i hi);show w.cell? ⟨g,0+i,none⟩=some (.slice (adOf (u i)) (L i) (cpOf (u i)));rw [nL,hc,eu];rfl
theorem sl_v {w:World} {B:Nat} {e:TypeId} {sz n:Nat} {v:Value} {xs:List Value} (o:w.ownsRow B e sz v n xs):v=.slice (adOf v) n (cpOf v):=by
 obtain ⟨a,c,rfl⟩:=zU o;rfl
theorem OwnS.v {w:World} {B:Nat} {c:Nat->Nat} {y:Sy} {vp vs vw vh:Value} {up us uw uh:Nat->Value} (o:OwnS z w B c y vp vs vw vh up us uw uh):(y.sysIn vp vs vw vh up us uw uh).v=.agg #[vp,vs,vw,vh]:=by
 have e1:=sl_v o.p.row;have e2:=sl_v o.s.row;have e3:=sl_v o.t.row;have e4:=sl_v o.h.row
 conv=>rhs;rw [e1,e2,e3,e4]
 rfl
theorem qwg {w:World} {B sz n:Nat} {e:TypeId} {u:Value} {xs:List Value} (o:w.ownsRow B e sz u n xs):n=0\/u≠.slice none 0 0:=by
 rcases o.2 with ⟨_,h⟩ | ⟨b,cap,cur,rfl,_⟩
 ·exact .inl h
 ·exact .inr (fun e=>by cases e)
theorem qxk {w:World} {B n:Nat} {u:Value} {g:Nat->I2} (o:w.ownsRow B 78 2 u n (fT g n)):ItL w (adOf u) n g:=by
 rcases qwg o with h | h
 ·exact .inl h
 ·obtain ⟨b,cap,eu,hb,hI,-⟩:=atT o h
  exact .inr ⟨b,0,by rw [eu];rfl,hb,hI⟩
theorem qrw {w:World} {B n:Nat} {u:Value} {g:Nat->E3} (o:w.ownsRow B 49 3 u n (fE g n)):EvL w (adOf u) n g:=by
 rcases qwg o with h | h
 ·exact .inl h
 ·obtain ⟨b,cap,eu,hb,hI,-⟩:=atE o h
  exact .inr ⟨b,0,by rw [eu];rfl,hb,hI⟩
theorem OwnS.g {w:World} {B:Nat} {c:Nat->Nat} {y:Sy} {vp vs vw vh:Value} {up us uw uh:Nat->Value} (o:OwnS z w B c y vp vs vw vh up us uw uh):SysG w (y.sysIn vp vs vw vh up us uw uh):=by
 refine ⟨qde o.p,fun i hi=>?_,?_,qde o.t,fun i hi=>?_,qde o.h,fun i hi=>?_⟩
 ·obtain ⟨b,cap,eu,hb,hI,-⟩:=atI (o.p.own i hi) (o.p.nn nzI i hi)
  exact ⟨b,by show adOf (up i)=_;rw [eu];rfl,hb,hI⟩
 ·refine ⟨?_,fun i hi=>?_⟩
  ·rcases Nat.eq_zero_or_pos y.sn with h | h
   ·exact .inl h
   ·obtain ⟨g,cap,rfl,-,hg,-,-⟩:=o.s.cell h
    refine .inr ⟨g,0,rfl,hg,fun i hi=>?_⟩;obtain ⟨g',cap',ew,-,-,hc,-⟩:=o.s.cell hi;simp only [Value.slice.injEq,nG,Addr.mk.injEq,and_true,true_and] at ew;obtain ⟨rfl,rfl⟩:=ew;obtain ⟨ra,rc,oa,oc,eu,h0,h1,h2,h3⟩:=hc;show w.cell? ⟨g,0+i*4,none⟩=some (iV (y.sS i).p)/\w.cell? ⟨g,0+i*4+1,none⟩=some (.slice (adOf (fdOf (us i) 1)) (y.sS i).rs.length (cpOf (fdOf (us i) 1)))/\w.cell? ⟨g,0+i*4+2,none⟩=some (.slice (adOf (fdOf (us i) 2)) (y.sS i).os.length (cpOf (fdOf (us i) 2)))/\w.cell? ⟨g,0+i*4+3,none⟩=some (iV (y.sS i).c);rw [nL,eu];exact ⟨h0,h1,h2,h3⟩
  ·obtain ⟨g,cap,-,-,-,⟨ra,rc,oa,oc,eu,-⟩,-⟩:=o.s.cell hi
   have h4:=o.s.own i hi;rw [eu] at h4;show Sl w (adOf (fdOf (us i) 1)) (y.sS i).rs/\Sl w (adOf (fdOf (us i) 2)) (y.sS i).os;rw [eu];exact ⟨h4.parts.1.slOf,h4.parts.2.1.slOf⟩
 ·exact qxk (o.t.own i hi)
 ·exact qrw (o.h.own i hi)
open Go.Sort
theorem qqi (m:Bool) (v:Int) (w:World):
  Calls prog 107 #[itV m v] w (rB w (.bool (qb7 ⟨m,v⟩))):=by
 rcases zK m with rfl | rfl
 ·have HE:Hid (qb7 ⟨true,v⟩=(v == 0)):=by
   show qb7 ⟨true,v⟩=(v == 0);simp only [qb7,Bool.not_true,Bool.false_or];by_cases e:v=0
   ·subst e
    rfl
   ·have:(v == 0)=false:=by simpa using e
    rw [this,Bool.and_false]
  go_enter func107,ntmps107
  go_wp2;go_ret;rw [HE.out];exact ⟨rfl,by go_grown⟩
 ·have HE:Hid (qb7 ⟨false,v⟩=inB v (-1000000000) 1000000000):=by
   show qb7 ⟨false,v⟩=inB v (-1000000000) 1000000000;simp [qb7,numB]
  go_enter func107,ntmps107
  go_wp2_with fail
  refine (isNum_any _ _).mono ?_;rintro e w1 ⟨rfl,rfl⟩;go_wp2;go_ret;rw [HE.out];exact ⟨rfl,by go_grown⟩
def qco (h:Nat->I2) (n:Nat):Bool:=(List.range n).all fun i=>qb7 (h i)
theorem qeu {h:Nat->I2} {n:Nat}:qco h n=true ↔ ∀ i,i<n->qb7 (h i)=true:=by
 simp [qco]
theorem qsg {h:Nat->I2} {n k:Nat} (hk:k<n) (hf:qb7 (h k)=false):qco h n=false:=by
 rcases zK (qco h n) with t | t
 ·have:=qeu.1 t k hk
  rw [hf] at this;cases this
 ·exact t
theorem qt8 (a:Option Addr) (len cap:Nat) (h:Nat->I2) (w:World) (hlen:len<=1048576) (hc:ItL w a len h):
  Calls prog 77 #[.slice a len cap] w (rB w (.bool (decide (len<=12) && qco h len))):=by
 have hl':(len:Int)<=1048576:=by omega
 have HC:Hid (ItL w a len h):=hc;clear hc;by_cases h12:len<=12
 case neg=>
  have h12':(12:Int)<(len:Int):=by omega
  have HE:Hid ((decide (len<=12) && qco h len)=false):=by
   show (decide (len<=12) && qco h len)=false;simp [h12]
  go_enter func77,ntmps77
  go_wp2;go_ret;rw [HE.out];exact ⟨rfl,nE _ _⟩
 have h12':¬ (12:Int)<(len:Int):=by omega
 have HE:Hid ((decide (len<=12) && qco h len)=qco h len):=by
  show (decide (len<=12) && qco h len)=qco h len;simp [h12]
 clear h12
 go_enter func77,ntmps77
 go_wp2_with fail
 go_loopw [10] (fun i wr=>∃ k:Nat,k<=len/\i=.int .i64 k/\Bw w wr/\Hid (∀ j,j<k->qb7 (h j)=true)) (fun i _=>len - (intOf i).toNat)
 case atStart=>exact ⟨0,nD _,rfl,nE _ _,fun j hj=>by omega⟩
 case round=>
  obtain ⟨k,hk,rfl,hbw,HZ⟩:=hrel;by_cases hlt:k<len
  ·have hlt':(k:Int)<(len:Int):=by omega
   obtain ⟨b,off,rfl,-,c0,c1⟩:=(HC.bw hbw).at hlt;go_wp2_with fail
   refine (qqi _ _ _).mono ?_;rintro e w1 ⟨rfl,b1⟩;have B1:Hid (Bw w w1):=hbw.trans (((zT wr _).trans (b1.mono (by simp))).mono hbw.size);clear b1
   rcases zK (qb7 (h k)) with t | t
   ·have HZ':Hid (∀ j,j<k+1->qb7 (h j)=true):=fun j hj=>by
     by_cases e:j=k
     ·subst e
      exact t
     ·exact HZ.out j (by omega)
    rw [show qb7 { m:=(h k).m,v:=(h k).v }=true from t];clear HZ t;go_wp2;go_roundw
    case rel=>exact ⟨k+1,by omega,by go_num,B1.out,HZ'.out⟩
    case measure=>simp [intOf];omega
   ·have HN:Hid (qco h len=false):=qsg hlt t
    rw [show qb7 { m:=(h k).m,v:=(h k).v }=false from t];clear HZ t;go_wp2;go_ret;rw [HE.out,HN.out];exact ⟨rfl,B1.out⟩
  ·have HN:Hid (qco h len=true):=qeu.2 fun j hj=>HZ.out j (by omega)
   clear HZ;go_wp2;go_ret;rw [HE.out,HN.out];exact ⟨rfl,hbw⟩
structure LWay (h:Nat->I2) (len:Nat) (sent:List Int) (t:Nat):Prop where
 it:∀ i,i<len->qb7 (h i)=true
 le:len<=12
 ln:sent.length=t+(numL h len).length
 eq:∀ j,j<(numL h len).length->zi (numL h len) j=zi sent (t+j)
theorem qfc {xs ys:List Int} {j:Nat} (h:j<xs.length):zi (xs ++ ys) j=zi xs j:=by
 simp [zi,List.getD_eq_getElem?_getD,List.getElem?_append_left h]
theorem qen {xs ys:List Int} {j:Nat}:zi (xs ++ ys) (xs.length+j)=zi ys j:=by
 simp [zi,List.getD_eq_getElem?_getD,List.getElem?_append_right]
theorem LWay.iff {h:Nat->I2} {len:Nat} {took sent:List Int}:(LWay h len sent took.length/\∀ i,i<took.length->zi took i=zi sent i) ↔ WayP h len took sent:=by
 refine ⟨fun ⟨a,b⟩=>⟨a.it,a.le,?_⟩,fun a=>⟨⟨a.it,a.le,by rw [<- a.eq,List.length_append],fun j _=>by rw [<- a.eq,qen]⟩,fun i hi=>by rw [<- a.eq,qfc hi]⟩⟩;refine qex (by rw [List.length_append,a.ln]) fun j hj=>?_;by_cases hl:j<took.length
 ·rw [qfc hl,b j hl]
 ·rw [List.length_append] at hj
  have e:j=took.length+(j - took.length):=by omega
  rw [e,qen];exact a.eq _ (by omega)
theorem qsl (a:Option Addr) (len cap:Nat) (h:Nat->I2) (sa:Option Addr) (sc:Nat) (sent:List Int) (t:Nat) (w:World) (hlen:len<=1048576) (hc:ItL w a len h) (hs:sent.length<=1048576) (hS:Sl w sa sent) (ht:t<=1048576):
  Calls prog 53 #[.slice a len cap,.slice sa sent.length sc,iV t] w (rB w (.bool (pB (LWay h len sent t)))):=by
 have hl':(len:Int)<=1048576:=by omega
 have hs':(sent.length:Int)<=1048576:=by omega
 have ht':(t:Int)<=1048576:=by omega
 have HC:Hid (ItL w a len h):=hc;have HS:Hid (Sl w sa sent):=hS;clear hc hS
 go_enter func53,ntmps53
 go_wp2_with fail
 go_loopw [7] (fun i wr=>∃ k:Nat,k<=len/\i=.int .i64 k/\Bw w wr/\Hid (∀ j,j<k->qb7 (h j)=true)) (fun i _=>len - (intOf i).toNat)
 case atStart=>exact ⟨0,nD _,rfl,nE _ _,fun j hj=>by omega⟩
 case round=>
  obtain ⟨k,hk,rfl,hbw,HZ⟩:=hrel;by_cases hlt:k<len
  ·have hlt':(k:Int)<(len:Int):=by omega
   obtain ⟨b,off,rfl,-,c0,c1⟩:=(HC.bw hbw).at hlt;have hN:∀ {x:Bool},inB (h k).v (-1000000000) 1000000000=x->numB (h k).v=x:=fun e=>e
   rcases zK (inB (h k).v (-1000000000) 1000000000) with t1 | t1
   ·have go_on:qb7 (h k)=true->Hid (∀ j,j<k+1->qb7 (h j)=true):=fun t j hj=>by
     by_cases e:j=k
     ·subst e
      exact t
     ·exact HZ.out j (by omega)
    have stop:qb7 (h k)=false->Hid (pB (LWay h len sent t)=false):=fun t=>qcg fun x=>by
     have:=x.it k hlt;rw [t] at this;cases this
    rcases zK (h k).m with t2 | t2
    ·rcases zK ((h k).v != 0) with t3 | t3
     ·have HN := stop (by
       have:((h k).v == 0)=false:=by simpa using t3
       simp [qb7,t2,this])
      rw [t2] at c0;clear go_on stop HZ hN;go_wp2_with fail
      refine (l1Num_any _ _).mono ?_;rintro e w1 ⟨rfl,rfl⟩;rw [t1];go_wp2;go_ret;rw [HN.out];exact ⟨rfl,hbw⟩
     ·have HZ' := go_on (by
       have:((h k).v == 0)=true:=by simpa using t3
       simp [qb7,hN t1,this])
      rw [t2] at c0;clear go_on stop HZ hN;go_wp2_with fail
      refine (l1Num_any _ _).mono ?_;rintro e w1 ⟨rfl,rfl⟩;rw [t1];go_wp2;go_roundw
      case rel=>exact ⟨k+1,by omega,by go_num,hbw,HZ'.out⟩
      case measure=>simp [intOf];omega
    ·have HZ':=go_on (by simp [qb7,hN t1,t2])
     rw [t2] at c0;clear go_on stop HZ hN;go_wp2_with fail
     refine (l1Num_any _ _).mono ?_;rintro e w1 ⟨rfl,rfl⟩;rw [t1];go_wp2;go_roundw
     case rel=>exact ⟨k+1,by omega,by go_num,hbw,HZ'.out⟩
     case measure=>simp [intOf];omega
   ·have HN:Hid (pB (LWay h len sent t)=false):=qcg fun x=>by
     have:=x.it k hlt;simp [qb7,hN t1] at this
    clear HZ hN;go_wp2_with fail
    refine (l1Num_any _ _).mono ?_;rintro e w1 ⟨rfl,rfl⟩;rw [t1];go_wp2;go_ret;rw [HN.out];exact ⟨rfl,hbw⟩
  ·have HZ':Hid (∀ j,j<len->qb7 (h j)=true):=fun j hj=>HZ.out j (by omega)
   have hkl:k=len:=by omega
   subst hkl;clear HZ hlt hk;go_wp2_with fail
   refine (qku a k cap h wr hlen (HC.bw hbw)).mono ?_;rintro e w1 ⟨v,rfl,o1,b1⟩;obtain ⟨na,nc,rfl,s1⟩:=o1.form;have B1:Hid (Bw w w1):=hbw.trans (b1.mono hbw.size);have S1:Hid (Sl w1 na (numL h k)):=s1;have hnl:=qfg h k;have hnl':((numL h k).length:Int)<=1048576:=by omega
   clear o1 b1 s1 hbw;generalize hNU:numL h k=nu at *;have HNU:Hid (numL h k=nu):=hNU;clear hNU hnl;by_cases h12:k<=12
   case neg=>
    have h12':(12:Int)<(k:Int):=by omega
    have HN:Hid (pB (LWay h k sent t)=false):=qcg fun x=>h12 x.le;go_wp2;go_ret;rw [HN.out];exact ⟨rfl,B1.out⟩
   have h12':¬ (12:Int)<(k:Int):=by omega
   rcases zK (((sent.length:Int) - (t:Int)) != (nu.length:Int)) with t5 | t5
   ·have HN:Hid (pB (LWay h k sent t)=false):=qcg fun x=>by
     have:=x.ln;rw [HNU.out] at this;rw [this] at t5;simp at t5;omega
    go_wp2;go_ret;rw [HN.out];exact ⟨rfl,B1.out⟩
   have HLN:Hid (sent.length=t+nu.length):=by
    show sent.length=t+nu.length;simp at t5;omega
   go_wp2_with fail
   go_loopw [9] (fun i wr=>∃ j:Nat,j<=nu.length/\i=.int .i64 j/\Bw w1 wr/\Hid (∀ i,i<j->zi nu i=zi sent (t+i))) (fun i _=>nu.length - (intOf i).toNat)
   case atStart=>exact ⟨0,nD _,rfl,nE _ _,fun j hj=>by omega⟩
   case round=>
    obtain ⟨j,hj,rfl,hbw,HZ⟩:=hrel;have hw:Bw w wr:=B1.trans (hbw.mono B1.size);by_cases hlt:j<nu.length
    ·have hlt2:t+j<sent.length:=by have:=HLN.out;omega
     obtain ⟨b,off,rfl,hbl,ck⟩:=(S1.bw hbw).at hlt;obtain ⟨b',off',rfl,hbl',ck'⟩:=(HS.bw hw).at hlt2;have hlt':(j:Int)<(nu.length:Int):=by omega
     have hlt2':(t:Int)+(j:Int)<(sent.length:Int):=by omega
     have hq:((t:Int)+(j:Int)).toNat=t+j:=by omega
     clear hlt2
     rcases zK (zi nu j != zi sent (t+j)) with t6 | t6
     ·have HN:Hid (pB (LWay h k sent t)=false):=qcg fun x=>by
       have:=x.eq j (by rw [HNU.out];exact hlt);rw [HNU.out] at this;rw [this] at t6;simp at t6
      go_wp2_with fail
      go_quiet (fail)
      go_wp2;go_ret;rw [HN.out];exact ⟨rfl,yC hw _⟩
     ·have HZ2:Hid (∀ i,i<j+1->zi nu i=zi sent (t+i)):=fun i hi=>by
       by_cases e:i=j
       ·subst e
        simpa using t6
       ·exact HZ.out i (by omega)
      clear HZ;go_wp2_with fail
      go_quiet (fail)
      go_wp2;go_roundw
      case rel=>exact ⟨j+1,by omega,by go_num,yC hbw _,HZ2.out⟩
      case measure=>simp [intOf];omega
    ·have HN : Hid (pB (LWay h k sent t) = true) := qgm ⟨HZ'.out, h12, by rw [HNU.out]; exact HLN.out, fun i hi => by
      rw [HNU.out] at hi ⊢
      exact HZ.out i (by omega)⟩
     clear HZ;go_wp2;go_ret;rw [HN.out];exact ⟨rfl,hw⟩
noncomputable def qB (p:Prop):Bool:=@decide p (Classical.propDecidable _)
theorem qa5 {p:Prop} (h:p):qB p=true:=by simp [qB,h]
theorem qax {p:Prop} (h:¬ p):qB p=false:=by simp [qB,h]
theorem qim {p:Prop}:qB p=true ↔ p:=by simp [qB]
structure HisE (w:World) (ha:Option Addr) (hA:Nat->Option Addr) (hC:Nat->Nat) (y:Hs):Prop where
 row:RowS w ha y.n fun i=>.slice (hA i) (y.l i) (hC i)
 ev:∀ i,i<y.n->EvL w (hA i) (y.l i) (y.e i)
theorem HisE.bw {w w':World} {ha:Option Addr} {hA:Nat->Option Addr} {hC:Nat->Nat} {y:Hs} (h:HisE w ha hA hC y) (hb:Bw w w'):HisE w' ha hA hC y:=⟨h.row.bw hb,fun i hi=>(h.ev i hi).bw hb⟩
structure HisP (w:World) (X:Nat) (ha:Option Addr) (hc:Nat) (y:Hs) (d:Nat->Nat):Prop where
 c4:w.cell? (aQ X 4)=some (.slice ha y.n hc)
 pt:∀ i,i<4->w.cell? ⟨X,5+i,none⟩=some (iV (d i))
 op:∀ a b,a<4->b<4->w.cell? ⟨X,9+a*4+b,none⟩=some (iV (y.opn d a b))
 fr:∀ j,w.frozen? ⟨X,j,none⟩=false
theorem HisP.lt {w:World} {X:Nat} {ha:Option Addr} {hc:Nat} {y:Hs} {d:Nat->Nat} (h:HisP w X ha hc y d):X<w.heap.size:=zJ w _ h.c4
theorem HisP.blk {w w':World} {X:Nat} {ha:Option Addr} {hc:Nat} {y:Hs} {d:Nat->Nat} (h:HisP w X ha hc y d) (hb:w'.heap[X]? = w.heap[X]?):HisP w' X ha hc y d:=
 ⟨(zH hb).trans h.c4,fun i hi=>(zH hb).trans (h.pt i hi),fun a b h1 h2=>(zH hb).trans (h.op a b h1 h2),fun j=>(zI hb).trans (h.fr j)⟩
theorem HisP.bw {w w':World} {X:Nat} {ha:Option Addr} {hc:Nat} {y:Hs} {d:Nat->Nat} (h:HisP w X ha hc y d) (hb:Bw w w'):HisP w' X ha hc y d:=h.blk (hb.block X h.lt)
theorem qaj {w:World} {a:Addr} {v:Value} (h:w.cell? a=some v) (o:Obj):(w.alloc o).cell? a=some v:=(World.cell?_alloc_lt w o a (zJ w _ h)).trans h
theorem qp8 (X:Nat) (ha:Option Addr) (hc:Nat) (hA:Nat->Option Addr) (hC:Nat->Nat) (y:Hs) (d:Nat->Nat) (k:Nat) (w:World) (hE:HisE w ha hA hC y) (hP:HisP w X ha hc y d) (h4:y.n<=4) (hk:k<y.n) (hp:y.Peers) (hl:∀ i,i<y.n->y.l i<=200) (hd:∀ i,d i<=y.l i):
  Calls prog 109 #[.pointer (some (aQ X 4)),iV k] w (rB w (.bool (qB (y.Can d k)))):=by
 have HE:Hid (HisE w ha hA hC y):=hE;have HP:Hid (HisP w X ha hc y d):=hP;have HCan:Hid (y.Can d k ↔ d k<y.l k/\((y.e k (d k)).k=3->0<y.opn d (y.e k (d k)).q.toNat k)):=Hs.can_iff hp hk;have hk4:(k:Int)<4:=by omega
 have hk':(k:Int)<(y.n:Int):=by omega
 have hl200:(y.l k:Int)<=200:=by have:=hl k hk;omega
 have hdk:(d k:Int)<=(y.l k:Int):=by have:=hd k;omega
 obtain ⟨bh,oh,eh,ch⟩:=hE.row.at hk;obtain ⟨c4,pt,op,-⟩:=hP;have pk:=pt k (by omega);rw [eh] at c4;clear hE;by_cases he:d k=y.l k
 ·have HN:Hid (qB (y.Can d k)=false):=qax fun h=>by have:=h.1;omega
  rw [he] at pk;clear op pt
  go_enter func109,ntmps109
  go_wp2_with fail
  go_quiet (fail)
  go_wp2;go_ret;rw [HN.out];exact ⟨rfl,yC (nE _ _) _⟩
 ·have hlt:d k<y.l k:=by have:=hd k;omega
  have hlt':(d k:Int)<(y.l k:Int):=by omega
  have hne:((d k:Int) == (y.l k:Int))=false:=by
   have:¬ (d k:Int)=(y.l k:Int):=by omega
   simpa using this
  obtain ⟨b,off,ea,zb,e0,e1,e2⟩:=(HE.ev k hk).at hlt;rw [ea] at ch;have n1:w.heap.size≠X:=by have:=HP.lt;omega
  have n2:w.heap.size≠b:=by omega
  have n3:w.heap.size≠bh:=by have:=zJ w _ ch;simp at this;omega
  clear zb;have hq:=hp k hk (d k) hlt;obtain ⟨q,hqe⟩:∃ q:Nat,(y.e k (d k)).q=(q:Int):=⟨(y.e k (d k)).q.toNat,by omega⟩
  have hq4:(q:Int)<4:=by omega
  have oq:=op q k (by omega) (by omega);rw [hqe] at e1
  rcases zK ((y.e k (d k)).k != 3) with t | t
  ·have HN:Hid (qB (y.Can d k)=true):=qa5 (HCan.2 ⟨hlt,fun h=>by rw [h] at t;cases t⟩)
   clear op pt hq hqe oq HCan;generalize (y.e k (d k)).k=kd at *;generalize (y.e k (d k)).v=vd at *
   go_enter func109,ntmps109
   go_wp2_with fail
   go_quiet (fail)
   go_wp2_with fail
   have BD:Hid (Bw w (w.drewN nq)):=yC (nE _ _) _;replace n1:(w.drewN nq).heap.size≠X:=n1;replace n2:(w.drewN nq).heap.size≠b:=n2;replace n3:(w.drewN nq).heap.size≠bh:=n3;replace c4:(w.drewN nq).cell? (aQ X 4)=_:=c4;replace pk:(w.drewN nq).cell? ⟨X,5+k,none⟩=_:=pk;replace ch:(w.drewN nq).cell? ⟨bh,oh+k,none⟩=_:=ch;replace e0:(w.drewN nq).cell? ⟨b,off+d k*3,none⟩=_:=e0;replace e1:(w.drewN nq).cell? ⟨b,off+d k*3+1,none⟩=_:=e1;replace e2:(w.drewN nq).cell? ⟨b,off+d k*3+2,none⟩=_:=e2;generalize w.drewN nq=wd at *;have c4':=qaj c4;have pk':=qaj pk;have ch':=qaj ch;have e0':=qaj e0;have e1':=qaj e1;have e2':=qaj e2
   go_region
   all_goals
    go_wp2_with fail
    go_quiet (fail)
    go_wp2;go_ret;rw [HN.out];exact ⟨rfl,yC (BD.trans ((zT _ _).mono BD.size)).drew _⟩
  ·have hk3:(y.e k (d k)).k=3:=by simpa using t
   have HN:Hid (qB (y.Can d k)=decide (0<y.opn d q k)):=by
    show qB (y.Can d k)=decide (0<y.opn d q k);have e:(y.e k (d k)).q.toNat=q:=by omega
    by_cases h0:0<y.opn d q k
    ·rw [decide_eq_true h0]
     exact qa5 (HCan.2 ⟨hlt,fun _=>by rw [e];exact h0⟩)
    ·rw [decide_eq_false h0]
     refine qax fun h=>h0 ?_;have:=(HCan.1 h).2 hk3
     rwa [e] at this
   rw [hk3] at e0;clear op pt hq hqe HCan t hk3;generalize (y.e k (d k)).v=vd at *;generalize y.opn d q k=on at *
   go_enter func109,ntmps109
   go_wp2_with fail
   go_quiet (fail)
   go_wp2_with fail
   have BD:Hid (Bw w (w.drewN nq)):=yC (nE _ _) _;replace n1:(w.drewN nq).heap.size≠X:=n1;replace n2:(w.drewN nq).heap.size≠b:=n2;replace n3:(w.drewN nq).heap.size≠bh:=n3;replace c4:(w.drewN nq).cell? (aQ X 4)=_:=c4;replace pk:(w.drewN nq).cell? ⟨X,5+k,none⟩=_:=pk;replace ch:(w.drewN nq).cell? ⟨bh,oh+k,none⟩=_:=ch;replace e0:(w.drewN nq).cell? ⟨b,off+d k*3,none⟩=_:=e0;replace e1:(w.drewN nq).cell? ⟨b,off+d k*3+1,none⟩=_:=e1;replace e2:(w.drewN nq).cell? ⟨b,off+d k*3+2,none⟩=_:=e2;replace oq:(w.drewN nq).cell? ⟨X,9+q*4+k,none⟩=_:=oq;generalize w.drewN nq=wd at *;have c4':=qaj c4;have pk':=qaj pk;have ch':=qaj ch;have e0':=qaj e0;have e1':=qaj e1;have e2':=qaj e2;have oq':=qaj oq
   go_region
   all_goals
    go_wp2_with fail
    go_quiet (fail)
    go_wp2;go_ret;rw [HN.out];exact ⟨rfl,yC (BD.trans ((zT _ _).mono BD.size)).drew _⟩
theorem HisP.put {w w':World} {X:Nat} {ha:Option Addr} {hc:Nat} {y:Hs} {d:Nat->Nat} {k:Nat} (h:HisP w X ha hc y d) (c4:w'.cell? ⟨X,4,none⟩=w.cell? ⟨X,4,none⟩) (pt:∀ i,i<4->w'.cell? ⟨X,5+i,none⟩=if i=k then some (iV (d k+1:Nat)) else w.cell? ⟨X,5+i,none⟩)
  (op:∀ a b,a<4->b<4->w'.cell? ⟨X,9+a*4+b,none⟩=some (iV (y.opn (up d k) a b))) (fr:∀ j,w'.frozen? ⟨X,j,none⟩=false):HisP w' X ha hc y (up d k):=by
 refine ⟨c4.trans h.c4,fun i hi=>?_,op,fr⟩;rw [pt i hi];by_cases e:i=k
 ·subst e
  rw [nC rfl,qc1]
 ·rw [nB e,up_other e]
  exact h.pt i hi
theorem Hs.opn_le {y:Hs} {d:Nat->Nat} (hd:∀ i,d i<=y.l i) (hl:∀ i,i<y.n->y.l i<=200) {a b:Nat} (ha:a<y.n) (hb:b<y.n):-200<=y.opn d a b/\y.opn d a b<=200:=by
 have h1:=qrs (y.e a) 2 b (d a);have h2:=qrs (y.e b) 3 a (d b);have h3:=hd a;have h4:=hd b;have h5:=hl a ha;have h6:=hl b hb;unfold Hs.opn;omega
theorem qh8 {w:World} {X i j m:Nat} {u v:Value} {o:Obj} (h1:m≠i) (h2:m≠j) (hX:X<w.heap.size):(((w.setCell (aQ X i) u).setCell (aQ X j) v).alloc o).cell? (aQ X m)=w.cell? (aQ X m):=by
 rw [World.cell?_alloc_lt _ _ _ (by simpa [World.setCell] using hX),World.cell?_setCell_other _ _ _ _ (by intro e;injection e with _ e;exact h2 e.symm),World.cell?_setCell_other _ _ _ _ (by intro e;injection e with _ e;exact h1 e.symm)]
theorem qqa {w:World} {X i j:Nat} {u v:Value} {o:Obj} (h1:i≠j) (hc:(w.cell? (aQ X i)).isSome=true) (hX:X<w.heap.size):(((w.setCell (aQ X i) u).setCell (aQ X j) v).alloc o).cell? (aQ X i)=some u:=by
 rw [World.cell?_alloc_lt _ _ _ (by simpa [World.setCell] using hX),World.cell?_setCell_other _ _ _ _ (by intro e;injection e with _ e;exact h1 e.symm),World.cell?_setCell_same' _ _ _ hc]
theorem qqb {w:World} {X i j:Nat} {u v:Value} {o:Obj} (h1:i≠j) (hc:(w.cell? (aQ X j)).isSome=true) (hX:X<w.heap.size):(((w.setCell (aQ X i) u).setCell (aQ X j) v).alloc o).cell? (aQ X j)=some v:=by
 rw [World.cell?_alloc_lt _ _ _ (by simpa [World.setCell] using hX),World.cell?_setCell_same'];rw [World.cell?_setCell_other _ _ _ _ (by intro e;injection e with _ e;exact h1 e)];exact hc
theorem qd2 {w:World} {o:Obj} {X j:Nat} (hX:X<w.heap.size):(w.alloc o).frozen? (aQ X j)=w.frozen? (aQ X j):=(zT w o).frozen (p:=(aQ X j)) hX
theorem HisP.put2 {w:World} {X:Nat} {ha:Option Addr} {hc:Nat} {y:Hs} {d:Nat->Nat} {k i0 j0:Nat} {on:Int} {o:Obj} (h:HisP w X ha hc y d) (hk:k<4) (hi:i0<4) (hj:j0<4) (HO:∀ a b,y.opn (up d k) a b=if a=i0/\b=j0 then on else y.opn d a b):
  HisP (((w.setCell ⟨X,9+i0*4+j0,none⟩ (iV on)).setCell ⟨X,5+k,none⟩ (iV ((d k:Int)+1))).alloc o) X ha hc y (up d k)/\qaw (fun b=>b=X) w (((w.setCell ⟨X,9+i0*4+j0,none⟩ (iV on)).setCell ⟨X,5+k,none⟩ (iV ((d k:Int)+1))).alloc o):=by
 have hX:=h.lt;refine ⟨h.put (k:=k) (qh8 (by omega) (by omega) hX) (fun i hi'=>?_) (fun a b ha' hb'=>?_) (fun j=>?_),?_⟩
 ·by_cases e:i=k
  ·subst e
   rw [nC rfl,qqb (by omega) (by rw [h.pt i hi'];rfl) hX];rfl
  ·rw [nB e]
   exact qh8 (by omega) (by omega) hX
 ·rw [HO]
  by_cases e:a=i0/\b=j0
  ·obtain ⟨rfl,rfl⟩:=e
   rw [nC ⟨rfl,rfl⟩];exact qqa (by omega) (by rw [h.op a b ha' hb'];rfl) hX
  ·rw [nB e,<- h.op a b ha' hb']
   exact qh8 (by omega) (by omega) hX
 ·rw [qd2 (by simpa [World.setCell] using hX),World.frozen?_setCell,World.frozen?_setCell]
  exact h.fr j
 ·exact ((qaw.of_set (P:=fun b=>b=X) w (a:=(aQ X _)) rfl _).trans (qaw.of_set (P:=fun b=>b=X) _ (a:=(aQ X _)) rfl _)).trans (qaw.of_below (zT _ _))
theorem HisP.put1 {w:World} {X:Nat} {ha:Option Addr} {hc:Nat} {y:Hs} {d:Nat->Nat} {k:Nat} {o:Obj} (h:HisP w X ha hc y d) (hk:k<4) (HO:∀ a b,y.opn (up d k) a b=y.opn d a b):
  HisP ((w.setCell ⟨X,5+k,none⟩ (iV ((d k:Int)+1))).alloc o) X ha hc y (up d k)/\qaw (fun b=>b=X) w ((w.setCell ⟨X,5+k,none⟩ (iV ((d k:Int)+1))).alloc o):=by
 have hX:=h.lt
 have ho:∀ m,m≠5+k->((w.setCell ⟨X,5+k,none⟩ (iV ((d k:Int)+1))).alloc o).cell? ⟨X,m,none⟩=w.cell? ⟨X,m,none⟩:=fun m hm=>by
  rw [World.cell?_alloc_lt _ _ _ (by simpa [World.setCell] using hX),World.cell?_setCell_other _ _ _ _ (by intro e;injection e with _ e;exact hm e.symm)]
 refine ⟨h.put (k:=k) (ho 4 (by omega)) (fun i hi'=>?_) (fun a b ha' hb'=>?_) (fun j=>?_),?_⟩
 ·by_cases e:i=k
  ·subst e
   rw [nC rfl,World.cell?_alloc_lt _ _ _ (by simpa [World.setCell] using hX),World.cell?_setCell_same' _ _ _ (by rw [h.pt i hi'];rfl)];rfl
  ·rw [nB e]
   exact ho _ (by omega)
 ·rw [HO,<- h.op a b ha' hb']
  exact ho _ (by omega)
 ·rw [qd2 (by simpa [World.setCell] using hX),World.frozen?_setCell]
  exact h.fr j
 ·exact (qaw.of_set (P:=fun b=>b=X) w (a:=(aQ X _)) rfl _).trans (qaw.of_below (zT _ _))
theorem HisP.dr {w:World} {X:Nat} {ha:Option Addr} {hc:Nat} {y:Hs} {d:Nat->Nat} (h:HisP w X ha hc y d):HisP w.drew X ha hc y d:=⟨h.c4,h.pt,h.op,h.fr⟩
theorem qaw.dr {P:Nat->Prop} {w w':World} (h:qaw P w w'):qaw P w w'.drew:=⟨h.os,h.tape,h.output,h.size,h.block⟩
theorem qq0 (X:Nat) (ha:Option Addr) (hc:Nat) (hA:Nat->Option Addr) (hC:Nat->Nat) (y:Hs) (d:Nat->Nat) (k:Nat) (w:World) (hE:HisE w ha hA hC y) (hP:HisP w X ha hc y d) (h4:y.n<=4) (hk:k<y.n) (hp:y.Peers) (hl:∀ i,i<y.n->y.l i<=200) (hd:∀ i,d i<=y.l i) (hlt:d k<y.l k):
  Calls prog 84 #[.pointer (some (aQ X 4)),iV k] w fun e w'=>e=.returned (.tuple #[])/\HisP w' X ha hc y (up d k)/\qaw (fun b=>b=X) w w':=by
 have HP:Hid (HisP w X ha hc y d):=hP;have hk4:(k:Int)<4:=by omega
 have hk':(k:Int)<(y.n:Int):=by omega
 have hl200:(y.l k:Int)<=200:=by have:=hl k hk;omega
 have hlt':(d k:Int)<(y.l k:Int):=by omega
 obtain ⟨bh,oh,eh,ch⟩:=hE.row.at hk;obtain ⟨c4,pt,op,fr⟩:=hP;have pk:=pt k (by omega);rw [eh] at c4;obtain ⟨b,off,ea,zb,e0,e1,e2⟩:=(hE.ev k hk).at hlt;rw [ea] at ch;have n1:w.heap.size≠X:=by have:=HP.lt;omega
 have n2:w.heap.size≠b:=by omega
 have n3:w.heap.size≠bh:=by have:=zJ w _ ch;simp at this;omega
 have zX:X<w.heap.size:=HP.lt;have hq:=hp k hk (d k) hlt;obtain ⟨q,hqe⟩:∃ q:Nat,(y.e k (d k)).q=(q:Int):=⟨(y.e k (d k)).q.toNat,by omega⟩
 have hq4:(q:Int)<4:=by omega
 have hqn:q<y.n:=by omega
 rw [hqe] at e1;have c4':=qaj c4;have pk':=qaj pk;have ch':=qaj ch;have e0':=qaj e0;have e1':=qaj e1;have e2':=qaj e2;have fr':∀ j,w.frozen? ⟨X,j,none⟩=false:=fr
 rcases zK ((y.e k (d k)).k == 2) with t | t
 ·have hk2:(y.e k (d k)).k=2:=by simpa using t
  have oq:=op k q (by omega) (by omega);obtain ⟨o1,o2⟩:=Hs.opn_le hd hl hk hqn;have oq':=qaj oq;rw [hk2] at e0 e0'
  have HO:Hid (∀ a b,y.opn (up d k) a b=if a=k/\b=q then y.opn d k q+1 else y.opn d a b):=fun a b=>by
   rw [Hs.opn_up,hk2,hqe];by_cases e:a=k/\b=q
   ·obtain ⟨rfl,rfl⟩:=e
    simp
   ·rw [nB e,nB (fun h=>e ⟨h.1,by omega⟩),nB (fun h=>absurd h.2.1 (by decide))]
    omega
  clear op pt t hk2 hq hqe hp hE eh ea;generalize (y.e k (d k)).v=vd at *;generalize y.opn d k q=on at *
  go_enter func84,ntmps84
  go_wp2_with fail
  go_region
  all_goals
   go_wp2_with fail
   go_region
   all_goals
    go_wp2_with fail
    go_region
    all_goals
     go_wp2_with fail
     go_end0
     have hz:=HP.put2 (o:=oQ2 2 q vd) (show k<4 by omega) (show k<4 by omega) (show q<4 by omega) HO.out;exact ⟨rfl,hz.1.dr.dr.dr,hz.2.dr.dr.dr⟩
 rcases zK ((y.e k (d k)).k == 3) with t3 | t3
 ·have hk3:(y.e k (d k)).k=3:=by simpa using t3
  have oq:=op q k (by omega) (by omega);obtain ⟨o1,o2⟩:=Hs.opn_le hd hl hqn hk;have oq':=qaj oq;rw [hk3] at e0 e0'
  have HO:Hid (∀ a b,y.opn (up d k) a b=if a=q/\b=k then y.opn d q k - 1 else y.opn d a b):=fun a b=>by
   rw [Hs.opn_up,hk3,hqe];by_cases e:a=q/\b=k
   ·obtain ⟨rfl,rfl⟩:=e
    simp
   ·rw [nB e,nB (fun h=>absurd h.2.1 (by decide)),nB (fun h=>e ⟨by omega,h.1⟩)]
    omega
  clear op pt t t3 hk3 hq hqe hp hE eh ea;generalize (y.e k (d k)).v=vd at *;generalize y.opn d q k=on at *
  go_enter func84,ntmps84
  go_wp2_with fail
  go_region
  all_goals
   go_wp2_with fail
   go_region
   all_goals
    go_wp2_with fail
    go_region
    all_goals
     go_wp2_with fail
     go_end0
     have hz:=HP.put2 (o:=oQ2 3 q vd) (show k<4 by omega) (show q<4 by omega) (show k<4 by omega) HO.out;exact ⟨rfl,hz.1.dr.dr.dr,hz.2.dr.dr.dr⟩
 ·have HO:Hid (∀ a b,y.opn (up d k) a b=y.opn d a b):=fun a b=>by
   have t2:(y.e k (d k)).k≠2:=by simpa using t
   have t3':(y.e k (d k)).k≠3:=by simpa using t3
   rw [Hs.opn_up,nB (fun h=>t2 h.2.1),nB (fun h=>t3' h.2.1)];omega
  clear op pt hq hqe hp hE eh ea;generalize (y.e k (d k)).v=vd at *;generalize (y.e k (d k)).k=kd at *
  go_enter func84,ntmps84
  go_wp2_with fail
  go_region
  all_goals
   go_wp2_with fail
   go_region
   all_goals
    go_wp2_with fail
    go_end0
    have hz:=HP.put1 (o:=oQ2 kd q vd) (show k<4 by omega) HO.out;exact ⟨rfl,hz.1.dr.dr,hz.2.dr.dr⟩
def NxtR (w:World) (y:Hs) (d:Nat->Nat) (e:Ending) (w':World):Prop:=
 Bw w w'/\((∃ k,k<y.n/\y.Can d k/\e=.returned (iV (k:Nat)))\/(e=.returned (iV (-1))/\∀ p,p<y.n->¬ y.Can d p))
theorem qpi (X:Nat) (ha:Option Addr) (hc:Nat) (hA:Nat->Option Addr) (hC:Nat->Nat) (y:Hs) (d:Nat->Nat) (w:World) (hE:HisE w ha hA hC y) (hP:HisP w X ha hc y d) (h4:y.n<=4) (hp:y.Peers) (hl:∀ i,i<y.n->y.l i<=200) (hd:∀ i,d i<=y.l i):
  Calls prog 83 #[.pointer (some (aQ X 4))] w (NxtR w y d):=by
 have HE:Hid (HisE w ha hA hC y):=hE;have HP:Hid (HisP w X ha hc y d):=hP;have HH:Hid (y.Peers/\(∀ i,i<y.n->y.l i<=200)/\∀ i,d i<=y.l i):=⟨hp,hl,hd⟩
 have hn:(y.n:Int)<=4:=by omega
 obtain ⟨c4,-,-,-⟩:=hP;clear hE hp hl hd
 go_enter func83,ntmps83
 go_wp2_with fail
 clear c4
 go_loopw [9] (fun i wr=>∃ k:Nat,k<=y.n/\i=.int .i64 k/\Bw w wr/\Hid (∀ j,j<k->¬ y.Can d j)) (fun i _=>y.n - (intOf i).toNat)
 case atStart=>exact ⟨0,nD _,rfl,nE _ _,fun j hj=>by omega⟩
 case round=>
  obtain ⟨k,hk,rfl,hbw,HZ⟩:=hrel;by_cases hlt:k<y.n
  ·have hlt':(k:Int)<(y.n:Int):=by omega
   go_wp2_with fail
   refine (qp8 X ha hc hA hC y d k wr (HE.bw hbw) (HP.bw hbw) h4 hlt HH.1 HH.2.1 HH.2.2).mono ?_;rintro e w1 ⟨rfl,b1⟩;have B1:Hid (Bw w w1):=hbw.trans (b1.mono hbw.size);clear b1 hbw;by_cases hc':y.Can d k
   ·have HF:Hid (NxtR w y d (.returned (iV k)) w1):=⟨B1.out,.inl ⟨k,hlt,hc',rfl⟩⟩
    rw [qa5 hc'];clear hc' B1;go_wp2;go_ret;exact HF.out
   ·have HZ':Hid (∀ j,j<k+1->¬ y.Can d j):=fun j hj=>by
     by_cases e:j=k
     ·subst e
      exact hc'
     ·exact HZ.out j (by omega)
    rw [qax hc'];clear hc' HZ;go_wp2;go_roundw
    case rel=>exact ⟨k+1,by omega,by go_num,B1.out,HZ'.out⟩
    case measure=>simp [intOf];omega
  ·have HF:Hid (NxtR w y d (.returned (iV (-1))) wr):=⟨hbw,.inr ⟨rfl,fun p hp=>HZ.out p (by omega)⟩⟩
   clear HZ hbw;go_wp2;go_ret;exact HF.out
theorem qp1 (X:Nat) (ha:Option Addr) (hc:Nat) (hA:Nat->Option Addr) (hC:Nat->Nat) (y:Hs) (d:Nat->Nat) (w:World) (hE:HisE w ha hA hC y) (hP:HisP w X ha hc y d) (h4:y.n<=4) (hl:∀ i,i<y.n->y.l i<=200) (hd:∀ i,d i<=y.l i):
  Calls prog 85 #[.pointer (some (aQ X 4))] w (rB w (.bool (qB (y.All d)))):=by
 have HE:Hid (HisE w ha hA hC y):=hE;have HP:Hid (HisP w X ha hc y d):=hP;have HH:Hid ((∀ i,i<y.n->y.l i<=200)/\∀ i,d i<=y.l i):=⟨hl,hd⟩
 have hn:(y.n:Int)<=4:=by omega
 obtain ⟨c4,-,-,-⟩:=hP;clear hE hl hd
 go_enter func85,ntmps85
 go_wp2_with fail
 clear c4
 go_loopw [10] (fun i wr=>∃ k:Nat,k<=y.n/\i=.int .i64 k/\Bw w wr/\Hid (∀ j,j<k->d j=y.l j)) (fun i _=>y.n - (intOf i).toNat)
 case atStart=>exact ⟨0,nD _,rfl,nE _ _,fun j hj=>by omega⟩
 case round=>
  obtain ⟨k,hk,rfl,hbw,HZ⟩:=hrel;by_cases hlt:k<y.n
  ·have hlt':(k:Int)<(y.n:Int):=by omega
   have hk4:(k:Int)<4:=by omega
   obtain ⟨bh,oh,eh,ch⟩:=(HE.bw hbw).row.at hlt;have pk:=(HP.bw hbw).pt k (by omega);have hd':(d k:Int)<=(y.l k:Int):=by have:=HH.2 k;omega
   rw [eh];by_cases hs:d k<y.l k
   ·have hs':(d k:Int)<(y.l k:Int):=by omega
    have HN:Hid (qB (y.All d)=false):=qax fun h=>by have:=h k hlt;omega
    clear HZ;go_wp2;go_ret;rw [HN.out];exact ⟨rfl,hbw⟩
   ·have hs':¬ (d k:Int)<(y.l k:Int):=by omega
    have HZ':Hid (∀ j,j<k+1->d j=y.l j):=fun j hj=>by
     by_cases e:j=k
     ·subst e
      omega
     ·exact HZ.out j (by omega)
    clear HZ;go_wp2;go_roundw
    case rel=>exact ⟨k+1,by omega,by go_num,hbw,HZ'.out⟩
    case measure=>simp [intOf];omega
  ·have HN:Hid (qB (y.All d)=true):=qa5 fun p hp=>HZ.out p (by omega)
   clear HZ;go_wp2;go_ret;rw [HN.out];exact ⟨rfl,hbw⟩
theorem qaw.set {P:Nat->Prop} {w w':World} (h:qaw P w w') {a:Addr} (ha:P a.block) (u:Value):qaw P w (w'.setCell a u):=h.trans (qaw.of_set w' ha u)
theorem qaw.sets {P:Nat->Prop} {b:Nat} (hb:P b):∀ (vs:List Value) (o:Nat) {w w':World},qaw P w w'->qaw P w (w'.setCells b o vs)
 | [],_,_,_,h=>h
 | v :: r,o,_,_,h=>qaw.sets hb r (o+1) (h.set (a:=(aQ b o)) hb v)
theorem qsb:(prog.info? 61).map (·.size)=some 21:=by kernel_rfl
theorem qxv (X Bf Hb:Nat) (w:World) (cs:List Value) (hl:cs.length=21) (h1:∀ v ∈ cs,v.oneCell'=true) (hB:w.rangeAt Bf 0 cs) (hT:w.there X 4 21) (hH:w.cell? ⟨Hb,0,none⟩=some (.pointer (some ⟨X,4,none⟩))) (u:FrameMode):
  CallsD prog 82 #[.pointer (some (aQ Bf 0)),.pointer (some (aQ Hb 0))] u w fun e u' w'=>u'=u/\(e=.returned (.tuple #[])/\qaw (fun b=>b=X) w w'):=by
 have HB:Hid (w.rangeAt Bf 0 cs):=hB;have HT:Hid (w.there X 4 cs.toArray.size):=by rw [show cs.toArray.size=21 by simp [hl]];exact hT
 have HI:Hid ((prog.info? 61).map (·.size)=some cs.length):=by rw [hl];exact qsb
 have HO:Hid (cs.toArray.all (·.oneCell')=true):=all_oneCell_toArray h1;clear hB hT h1 hl
 go_enter_d func82,ntmps82
 go_wp2_with (first|(refine wpList_load_mid rfl 61 (.tmp 0) rfl Bf 0 rfl cs _ HB.out Tryz.underlying61 rfl HI.out ?_)|(refine wpList_store_mid rfl 61 (.tmp 4) (.tmp 3) rfl X 4 cs.toArray rfl rfl HT.out (by simpa using HI.out) HO.out ?_))
 go_end0
 exact ⟨rfl,qaw.sets (P:=fun b=>b=X) rfl _ _ (qaw.refl _ _)⟩
def hisL (ha:Option Addr) (hc:Nat) (y:Hs) (d:Nat->Nat):List Value:=
 [.slice ha y.n hc, iV (d 0), iV (d 1), iV (d 2), iV (d 3),
  iV (y.opn d 0 0),iV (y.opn d 0 1),iV (y.opn d 0 2),iV (y.opn d 0 3),iV (y.opn d 1 0),iV (y.opn d 1 1),iV (y.opn d 1 2),iV (y.opn d 1 3),
  iV (y.opn d 2 0),iV (y.opn d 2 1),iV (y.opn d 2 2),iV (y.opn d 2 3),iV (y.opn d 3 0),iV (y.opn d 3 1),iV (y.opn d 3 2),iV (y.opn d 3 3)]
theorem HisP.range {w:World} {X:Nat} {ha:Option Addr} {hc:Nat} {y:Hs} {d:Nat->Nat} (h:HisP w X ha hc y d):w.rangeAt X 4 (hisL ha hc y d):=by
 intro j v hj
 have hl:j<21:=by
  have:=(List.getElem?_eq_some_iff.1 hj).1;simpa [hisL] using this
 match j,hl,hj with
 | 0,_,hj=>rw [<- hj];exact h.c4
 | 1,_,hj=>rw [<- hj];exact h.pt 0 (by omega)
 | 2,_,hj=>rw [<- hj];exact h.pt 1 (by omega)
 | 3,_,hj=>rw [<- hj];exact h.pt 2 (by omega)
 | 4,_,hj=>rw [<- hj];exact h.pt 3 (by omega)
 | 5,_,hj=>rw [<- hj];exact h.op 0 0 (by omega) (by omega)
 | 6,_,hj=>rw [<- hj];exact h.op 0 1 (by omega) (by omega)
 | 7,_,hj=>rw [<- hj];exact h.op 0 2 (by omega) (by omega)
 | 8,_,hj=>rw [<- hj];exact h.op 0 3 (by omega) (by omega)
 | 9,_,hj=>rw [<- hj];exact h.op 1 0 (by omega) (by omega)
 | 10,_,hj=>rw [<- hj];exact h.op 1 1 (by omega) (by omega)
 | 11,_,hj=>rw [<- hj];exact h.op 1 2 (by omega) (by omega)
 | 12,_,hj=>rw [<- hj];exact h.op 1 3 (by omega) (by omega)
 | 13,_,hj=>rw [<- hj];exact h.op 2 0 (by omega) (by omega)
 | 14,_,hj=>rw [<- hj];exact h.op 2 1 (by omega) (by omega)
 | 15,_,hj=>rw [<- hj];exact h.op 2 2 (by omega) (by omega)
 | 16,_,hj=>rw [<- hj];exact h.op 2 3 (by omega) (by omega)
 | 17,_,hj=>rw [<- hj];exact h.op 3 0 (by omega) (by omega)
 | 18,_,hj=>rw [<- hj];exact h.op 3 1 (by omega) (by omega)
 | 19,_,hj=>rw [<- hj];exact h.op 3 2 (by omega) (by omega)
 | 20,_,hj=>rw [<- hj];exact h.op 3 3 (by omega) (by omega)
theorem quw {ha:Option Addr} {hc:Nat} {y:Hs} {d:Nat->Nat}:∀ v ∈ hisL ha hc y d,v.oneCell'=true:=by
 intro v hv;simp only [hisL,List.mem_cons,List.not_mem_nil,or_false] at hv
 rcases hv with rfl | rfl | rfl | rfl | rfl | rfl | rfl | rfl | rfl | rfl | rfl | rfl | rfl | rfl | rfl | rfl | rfl | rfl | rfl | rfl | rfl <;> rfl
theorem HisP.thereX {w:World} {X:Nat} {ha:Option Addr} {hc:Nat} {y:Hs} {d:Nat->Nat} (h:HisP w X ha hc y d):w.there X 4 21:=fun j hj=>⟨h.range.isSome j (by simpa [hisL] using hj),h.fr _⟩
theorem qiq {d e:Nat->Nat}:∀ {n:Nat},(∀ i,i<n->d i=e i)->sumL d n=sumL e n
 | 0,_=>rfl
 | n+1,h=>by
  show sumL d n+d n=sumL e n+e n;rw [qiq fun i hi=>h i (by omega),h n (by omega)]
theorem qga:∀ n,sumL (fun _=>0) n=0
 | 0=>rfl
 | n+1=>qga n
theorem qkz {d:Nat->Nat} {k:Nat}:∀ {n:Nat},k<n->sumL (up d k) n=sumL d n+1
 | 0,h=>by omega
 | n+1,h=>by
  show sumL (up d k) n+up d k n=sumL d n+d n+1;by_cases e:k=n
  ·subst e
   rw [qc1];have:sumL (up d k) k=sumL d k:=qiq fun i hi=>up_other (by omega);omega
  ·rw [qkz (by omega),up_other (by omega)]
   omega
theorem qek {d l:Nat->Nat} (h:∀ i,d i<=l i):∀ n,sumL d n<=sumL l n
 | 0=>nA _
 | n+1=>by
  have:=qek h n;have:=h n;show sumL d n+d n<=sumL l n+l n;omega
structure Rw (w0 W wr:World) (X Bf Hb:Nat) (ha:Option Addr) (hc:Nat) (y:Hs) (cs:List Value) (d:Nat->Nat):Prop where
 pu:y.Put d
 hp:HisP wr X ha hc y d
 be:Bw w0 wr
 hb:wr.cell? (aQ Hb 0)=some (.pointer (some (aQ X 4)))
 bf:wr.rangeAt Bf 0 cs
theorem qf6 {P:Nat->Prop} {w w':World} {b o:Nat} {cs:List Value} (h:w.rangeAt b o cs) (t:qaw P w w') (hb:¬ P b):w'.rangeAt b o cs:=fun j v hv=>by
 have:=h j v hv;rw [t.cell (zJ w _ this) hb];exact this
theorem Rw.touch {w0 W wr w':World} {X Bf Hb:Nat} {ha:Option Addr} {hc:Nat} {y:Hs} {cs:List Value} {d d':Nat->Nat} (h:Rw w0 W wr X Bf Hb ha hc y cs d) (t:qaw (fun b=>b=X) wr w') (hX:w0.heap.size<=X) (hB:Bf≠X) (hH:Hb≠X) (pu:y.Put d') (hp:HisP w' X ha hc y d'):Rw w0 W w' X Bf Hb ha hc y cs d':=
 ⟨pu,hp,h.be.trans (t.bw h.be.size fun b e=>by omega),(t.cell (zJ wr _ h.hb) hH 0).trans h.hb,qf6 h.bf t hB⟩
theorem qp9 (X:Nat) (ha:Option Addr) (hc:Nat) (hA:Nat->Option Addr) (hC:Nat->Nat) (y:Hs) (w0 w:World) (hE:HisE w0 ha hA hC y) (hb:Bw w0 w) (hX:w0.heap.size<=X) (hP:HisP w X ha hc y (fun _=>0)) (h4:y.n<=4) (hp:y.Peers) (hl:∀ i,i<y.n->y.l i<=200):
  Calls prog 44 #[.pointer (some (aQ X 4))] w (rB w0 (.bool (qB y.Row))):=by
 have HE:Hid (HisE w0 ha hA hC y):=hE;have HH:Hid (y.Peers/\(∀ i,i<y.n->y.l i<=200)/\w0.heap.size<=X):=⟨hp,hl,hX⟩
 have zX:=hP.lt;obtain ⟨cs,hcs,hlen,hone⟩:∃ cs,w.rangeAt X 4 cs/\cs.length=21/\∀ v ∈ cs,v.oneCell'=true:=⟨_,hP.range,rfl,quw⟩
 have hsz:cs.toArray.size=21:=by simpa using hlen
 have HL21:Hid (cs.length=21/\∀ v ∈ cs,v.oneCell'=true):=⟨hlen,hone⟩
 have HI:Hid ((prog.info? 61).map (·.size)=some cs.length):=by rw [hlen];exact qsb
 have HR:Hid ((w.alloc (.cells #[.pointer (some (aQ X 4))] 102)).rangeAt X 4 cs):=World.rangeAt_alloc hcs _;have HO:Hid (cs.toArray.all (·.oneCell')=true):=all_oneCell_toArray hone;have hmf:∀ (fn:Fn) (first cap:Array Value) (w:World),(Instr.makeFunc fn first cap).run prog w=.ok (.func fn first cap) w:=fun _ _ _ _=>rfl
 have HT:Hid (((w.alloc (.cells #[.pointer (some (aQ X 4))] 102)).alloc (zQ4)).there (w.heap.size+1) 0 cs.toArray.size):=fun j hj=>by
  have hj':j<21:=by rw [<- hsz];exact hj
  refine ⟨?_,yB _ _ _ _ (by simp)⟩;rw [nL,zW _ _ _ j (by simp),Array.getElem?_eq_getElem (by simpa using hj')];rfl
 have tw:qaw (fun b=>b=w.heap.size+1) w (((w.alloc (.cells #[.pointer (some (aQ X 4))] 102)).alloc (zQ4)).setCells (w.heap.size+1) 0 cs):=qaw.sets (P:=fun b=>b=w.heap.size+1) rfl _ _ (qaw.of_below ((zT _ _).trans ((zT _ _).mono (by simp))))
 have HRw:Hid (Rw w0 w (((w.alloc (.cells #[.pointer (some (aQ X 4))] 102)).alloc (zQ4)).setCells (w.heap.size+1) 0 cs) X (w.heap.size+1) w.heap.size ha hc y cs (fun _=>0)):=by
  refine ⟨.start,hP.blk (tw.block X zX (by omega)),hb.trans (tw.bw hb.size fun b e=>by have:=hb.size;omega),?_,World.rangeAt_setCells_same _ _ _ _ (by simpa using HT.out)⟩;rw [World.cell?_setCells_out _ _ _ _ _ (fun e=>absurd e (by simp)),World.cell?_alloc_lt _ _ _ (by simp)];exact zW _ _ _ 0 rfl
 have HX:Hid (X<w.heap.size):=zX;clear hE hp hl hX tw hb hP zX hlen hsz hcs hone
 go_enter_defers func44,ntmps44
 have h0:=HRw.hb;go_wp2_with (first|(refine wpList_load_mid rfl 61 (.tmp 6) rfl X 4 rfl cs _ HR.out Tryz.underlying61 rfl HI.out ?_)|(refine wpList_store_mid rfl 61 (.tmp 3) (.tmp 7) rfl (w.heap.size+1) 0 cs.toArray rfl rfl HT.out (by simpa using HI.out) HO.out ?_))
 clear HR HT HI HO;generalize ((w.alloc (.cells #[.pointer (some (aQ X 4))] 102)).alloc (zQ4)).setCells (w.heap.size+1) 0 cs=W1 at *
 have nX:Hid (w.heap.size+1≠X/\w.heap.size≠X):=by
  have:=HX.out;exact ⟨by omega,by omega⟩
 refine (qpi X ha hc hA hC y (fun _=>0) W1 (HE.bw HRw.be) HRw.hp h4 HH.1 HH.2.1 HRw.pu.le).mono ?_;rintro e w1 ⟨q1,hor⟩;have HNx:Hid (Rw w0 w w1 X (w.heap.size+1) w.heap.size ha hc y cs (fun _=>0)):=HRw.touch (qaw.of_below q1) HH.2.2 nX.1 nX.2 HRw.pu (HRw.hp.bw q1)
 obtain ⟨z,rfl,HOr⟩:∃ z:Int,e=.returned (iV z)/\Hid ((∃ k,k<y.n/\y.Can (fun _=>0) k/\z=(k:Nat))\/(z = -1/\∀ p,p<y.n->¬ y.Can (fun _=>0) p)):=by
  rcases hor with ⟨k,hk,hcan,rfl⟩ | ⟨rfl,hn⟩
  ·exact ⟨_,rfl,.inl ⟨k,hk,hcan,rfl⟩⟩
  ·exact ⟨_,rfl,.inr ⟨rfl,hn⟩⟩
 clear hor q1 h0 HRw;go_wp2_with fail
 go_loopg [4] (sumL y.l y.n) (fun k p wr=>∃ d z,k=sumL y.l y.n - sumL d y.n/\p=.int .i64 z/\Rw w0 w wr X (w.heap.size+1) w.heap.size ha hc y cs d/\Hid ((∃ k,k<y.n/\y.Can d k/\z=(k:Nat))\/(z = -1/\∀ p,p<y.n->¬ y.Can d p)))
 case atStart=>exact ⟨_,z,by simp [qga],rfl,HNx.out,HOr.out⟩
 case round=>
  clear HNx HOr;obtain ⟨d,zz,hgk,rfl,rw0,HOr⟩:=hrel;have HRr:Hid (Rw w0 w wr X (w.heap.size+1) w.heap.size ha hc y cs d):=rw0;have h1:=rw0.hb;have HG:Hid (gk=sumL y.l y.n - sumL d y.n):=hgk;clear rw0 hgk
  rcases HOr.out with ⟨k,hk,hcan,rfl⟩ | ⟨rfl,hst⟩
  ·have HCn:Hid (y.Can d k):=hcan
   have hz:¬ (k:Int) = -1:=by omega
   have hz':((k:Int) == -1)=false:=by simp
   clear HOr hcan;go_wp2_with fail
   refine (qq0 X ha hc hA hC y d k wr (HE.bw HRr.be) HRr.hp h4 hk HH.1 HH.2.1 HRr.pu.le HCn.1).mono ?_;rintro e w1 ⟨rfl,hp1,t1⟩;have hpu:y.Put (up d k):=.next HRr.pu hk HCn.out;have HN:Hid (Rw w0 w w1 X (w.heap.size+1) w.heap.size ha hc y cs (up d k)):=HRr.touch t1 HH.2.2 nX.1 nX.2 hpu hp1
   have HM:Hid (sumL y.l y.n - sumL (up d k) y.n<gk):=by
    have h2:=qkz (d:=d) hk;have h3:=qek hpu.le y.n;have h4:=HG.out;show sumL y.l y.n - sumL (up d k) y.n<gk;omega
   clear hp1 t1 hpu h1 HRr HG hz hz';generalize up d k=d2 at *;have h1:=HN.hb;go_wp2_with fail
   refine (qpi X ha hc hA hC y d2 w1 (HE.bw HN.be) HN.hp h4 HH.1 HH.2.1 HN.pu.le).mono ?_;rintro e w2 ⟨q2,hor⟩;have HN2:Hid (Rw w0 w w2 X (w.heap.size+1) w.heap.size ha hc y cs d2):=HN.touch (qaw.of_below q2) HH.2.2 nX.1 nX.2 HN.pu (HN.hp.bw q2)
   obtain ⟨z,rfl,HOr⟩:∃ z:Int,e=.returned (iV z)/\Hid ((∃ k,k<y.n/\y.Can d2 k/\z=(k:Nat))\/(z = -1/\∀ p,p<y.n->¬ y.Can d2 p)):=by
    rcases hor with ⟨k,hk,hcan,rfl⟩ | ⟨rfl,hn⟩
    ·exact ⟨_,rfl,.inl ⟨k,hk,hcan,rfl⟩⟩
    ·exact ⟨_,rfl,.inr ⟨rfl,hn⟩⟩
   clear hor q2 h1 HN;go_wp2
   go_roundg (sumL y.l y.n - sumL d2 y.n)
   case measure=>exact HM.out
   case rel=>exact ⟨d2,z,rfl,rfl,HN2.out,HOr.out⟩
  ·have HRow:Hid (qB (y.All d)=qB y.Row):=by
    show qB (y.All d)=qB y.Row;have hi:=Hs.row_iff HRr.pu HH.1 hst;by_cases hr:y.Row
    ·rw [qa5 hr,qa5 (hi.1 hr)]
    ·rw [qax hr,qax (fun h=>hr (hi.2 h))]
   have HN:Hid (Rw w0 w wr X (w.heap.size+1) w.heap.size ha hc y cs d):=HRr.out;clear hst HG HOr HRr;go_wp2_with fail
   refine (qp1 X ha hc hA hC y d wr (HE.bw HN.be) HN.hp h4 HH.2.1 HN.pu.le).mono ?_;rintro e w2 ⟨rfl,b2⟩;rw [HRow.out];have B2:Hid (Bw wr w2):=b2;clear b2 h1
   have HB2:Hid (Bw w0 w2/\w2.rangeAt (w.heap.size+1) 0 cs/\w2.there X 4 21/\w2.cell? (aQ w.heap.size 0)=some (.pointer (some (aQ X 4)))):=
    ⟨HN.be.trans (B2.mono HN.be.size),qf6 (P:=fun _=>False) HN.bf (qaw.of_below B2.out) (fun h=>h),(HN.hp.bw B2.out).thereX,(B2.cell (p:=(aQ w.heap.size 0)) (zJ wr _ HN.hb)).trans HN.hb⟩
   go_wp2;refine leaves_cons (f:=82) (args:=#[.pointer (some ⟨w.heap.size+1,0,none⟩),.pointer (some (aQ w.heap.size 0))]) (by simp) (by simp [go_sem]) ?_;refine (qxv X (w.heap.size+1) w.heap.size w2 cs HL21.1 HL21.2 HB2.2.1 HB2.2.2.1 HB2.2.2.2 .returning).mono ?_;rintro e u' w3 ⟨rfl,rfl,t3⟩;exact ⟨_,results_tmp rfl _ _ _,rfl,HB2.1.trans (t3.bw HB2.1.size fun b e=>by have:=HH.2.2;omega)⟩
theorem qvx {d l:Nat->Nat} (h:∀ i,d i<=l i) (n:Nat) (e:sumL d n=sumL l n) (p:Nat) (hp:p<n):d p=l p:=by
 induction n with
 | zero=>omega
 | succ n ih=>
  have h1:=qek h n;have h2:=h n;have e':sumL d n+d n=sumL l n+l n:=e;by_cases hpn:p=n
  ·subst hpn
   omega
  ·exact ih (by omega) (by omega)
structure OrdB (w:World) (D n:Nat) (d:Nat->Nat):Prop where
 c:∀ i,i<n->w.cell? ⟨D,i,none⟩=some (iV (d i))
 fr:∀ j,w.frozen? ⟨D,j,none⟩=false
theorem OrdB.blk {w w':World} {D n:Nat} {d:Nat->Nat} (h:OrdB w D n d) (hb:w'.heap[D]? = w.heap[D]?):OrdB w' D n d:=⟨fun i hi=>(zH hb).trans (h.c i hi),fun j=>(zI hb).trans (h.fr j)⟩
theorem OrdB.put {w:World} {D n k:Nat} {d:Nat->Nat} (h:OrdB w D n d) (hk:k<n):OrdB (w.setCell (aQ D k) (iV ((d k:Int)+1))) D n (up d k):=by
 refine ⟨fun i hi=>?_,fun j=>by rw [World.frozen?_setCell];exact h.fr j⟩;by_cases e:i=k
 ·subst e
  rw [World.cell?_setCell_same' _ _ _ (by rw [h.c i hi];rfl),qc1];rfl
 ·rw [World.cell?_setCell_other _ _ _ _ (by intro e';injection e' with _ e';exact e e'.symm),up_other e]
  exact h.c i hi
structure Od (w wr:World) (B D:Nat) (ha:Option Addr) (hc:Nat) (y:Hs) (d:Nat->Nat):Prop where
 pu:y.Put d
 od:OrdB wr D y.n d
 bx:wr.cell? (aQ B 3)=some (.slice ha y.n hc)
 be:Bw w wr
theorem Od.bw {w wr w':World} {B D:Nat} {ha:Option Addr} {hc:Nat} {y:Hs} {d:Nat->Nat} (h:Od w wr B D ha hc y d) (hb:Bw wr w') (hD:D<wr.heap.size):Od w w' B D ha hc y d:=
 ⟨h.pu,h.od.blk (hb.block D hD),(hb.cell (p:=(aQ B 3)) (zJ wr _ h.bx)).trans h.bx,h.be.trans (hb.mono h.be.size)⟩
theorem Od.set {w wr:World} {B D k:Nat} {ha:Option Addr} {hc:Nat} {y:Hs} {d:Nat->Nat} (h:Od w wr B D ha hc y d) (hk:k<y.n) (hcan:y.Can d k) (hBD:B≠D) (hw:w.heap.size<=D):Od w (wr.setCell (aQ D k) (iV ((d k:Int)+1))) B D ha hc y (up d k):=
 ⟨.next h.pu hk hcan,h.od.put hk,(World.cell?_setCell_other _ _ _ _ (by intro e;injection e with e;exact hBD e.symm)).trans h.bx,h.be.setCell hw _⟩
theorem qma (w:World) (n i:Nat) (hi:i<n):(w.alloc (.cells (madeCells #[iV 0] n) 3)).cell? (aQ w.heap.size i)=some (iV 0):=by
 rw [zW _ _ _ i rfl];simp [madeCells,hi,Nat.mod_one]
theorem qks (a:Option Addr) (len cap h:Nat) (hh:h<=cap) (w:World):(Instr.slice 50 (.slice a len cap) none (some (iV (h:Int))) none).run prog w=.ok (.slice a h cap) w:=by
 have hh':(h:Int)<=(cap:Int):=by omega
 cases a with
 | none=>simp [go_sem,sliced,hh']
 | some a=>simp [go_sem,sliced,hh']
theorem qn4 (pa:Option Addr) (pn pc:Nat) (sa:Option Addr) (sn sc:Nat) (wa:Option Addr) (wn wc:Nat) (ha:Option Addr) (hc:Nat) (hA:Nat->Option Addr) (hC:Nat->Nat) (y:Hs) (w:World) (hE:HisE w ha hA hC y) (hcap:∀ i,i<y.n->y.l i<=hC i) (h1:1<=y.n) (h4:y.n<=4) (hp:y.Peers) (hl:∀ i,i<y.n->y.l i<=200):
  Calls prog 54 #[sysV pa pn pc sa sn sc wa wn wc ha y.n hc] w (rB w (.bool (qB y.Row))):=by
 have HE:Hid (HisE w ha hA hC y):=hE;have HH:Hid (y.Peers/\(∀ i,i<y.n->y.l i<=200)/\(∀ i,i<y.n->y.l i<=hC i)):=⟨hp,hl,hcap⟩
 have hn4:(y.n:Int)<=4:=by omega
 have hmk:∀ wx:World,(Instr.makeSlice 41 (iV (y.n:Int)) (iV (y.n:Int))).run prog wx=.ok (sG wx.heap.size y.n y.n) (wx.alloc (.cells (madeCells #[iV 0] y.n) 3)):=fun wx=>qef y.n (by omega) wx
 have HOd:Hid (Od w ((w.alloc (oQ4 pa pn pc sa sn sc wa wn wc ha y.n hc)).alloc (.cells (madeCells #[iV 0] y.n) 3)) w.heap.size (w.heap.size+1) ha hc y (fun _=>0)):=by
  refine ⟨.start,⟨fun i hi=>?_,fun j=>yB _ _ _ _ (by simp)⟩,?_,(zT _ _).trans ((zT _ _).mono (by simp))⟩
  ·have:=qma (w.alloc (oQ4 pa pn pc sa sn sc wa wn wc ha y.n hc)) y.n i hi
   (try dsimp only [aW] at this);rw [World.size_alloc] at this
   exact this
  ·exact ((BoxC.new w _ _ _ _ _).bw (zT _ _)).2.2.2
 have HD:Hid (w.heap.size+1<((w.alloc (oQ4 pa pn pc sa sn sc wa wn wc ha y.n hc)).alloc (.cells (madeCells #[iV 0] y.n) 3)).heap.size):=by
  show w.heap.size+1<_;simp
 clear hE hp hl hcap
 go_enter func54,ntmps54
 go_wp2_with fail
 generalize (w.alloc (oQ4 pa pn pc sa sn sc wa wn wc ha y.n hc)).alloc (.cells (madeCells #[iV 0] y.n) 3)=W1 at *;generalize hD:w.heap.size+1=D at *;have HDW:Hid (w.heap.size+1=D):=hD;clear hmk hD
 go_loopw [6,7] (fun s i wr=>∃ k:Nat,k<=y.n/\i=.int .i64 k/\s=.int .i64 (sumL y.l k:Nat)/\wr=W1) (fun _ i _=>y.n - (intOf i).toNat)
 case atStart=>exact ⟨0,nD _,rfl,rfl,rfl⟩
 case round=>
  obtain ⟨k,hk,rfl,rfl,rfl⟩:=hrel
  have hsum:sumL y.l k<=200*k:=by
   have:∀ j,j<=y.n->sumL y.l j<=200*j:=by
    intro j
    induction j with
    | zero=>exact fun _=>nA _
    | succ j ih=>
     intro hj;have h5:=ih (by omega);have h6:=HH.2.1 j (by omega);show sumL y.l j+y.l j<=200*(j+1);omega
   exact this k hk
  have hsum':((sumL y.l k:Nat):Int)<=1000:=by omega
  have b3:=HOd.bx;by_cases hlt:k<y.n
  ·have hlt':(k:Int)<(y.n:Int):=by omega
   obtain ⟨bh,oh,eh,ch⟩:=(HE.bw HOd.be).row.at hlt;rw [eh] at b3;have hl2:(y.l k:Int)<=200:=by have:=HH.2.1 k hlt;omega
   clear hsum;go_wp2;go_roundw
   case rel=>exact ⟨k+1,by omega,by go_num,by simp only [sumL];congr 1,by first | rfl | trivial⟩
   case measure=>simp [intOf];omega
  ·have hkn:k=y.n:=by omega
   subst hkn;clear hlt hk hsum b3;have hlt':¬ ((y.n:Int)<(y.n:Int)):=by omega
   have hsumI:∀ d:Nat->Nat,y.Put d->((sumL y.l y.n:Nat):Int) - ((sumL d y.n:Nat):Int)=((sumL y.l y.n - sumL d y.n:Nat):Int):=fun d hd=>by
    have:=qek hd.le y.n;omega
   have HSI:Hid (∀ d:Nat->Nat,y.Put d->((sumL y.l y.n:Nat):Int) - ((sumL d y.n:Nat):Int)=((sumL y.l y.n - sumL d y.n:Nat):Int)):=hsumI;have HSM:Hid (((sumL y.l y.n:Nat):Int)<=1000):=hsum';clear hsumI hsum';go_wp2_with fail
   go_loopg [5,6] (2*(sumL y.l y.n)+1) (fun gn m s wr=>∃ (t:Bool) (d:Nat->Nat),m=.bool t/\s=.int .i64 ((sumL y.l y.n - sumL d y.n:Nat):Int)/\gn=2*(sumL y.l y.n - sumL d y.n)+(if t=true then 1 else 0)/\Hid (Od w wr w.heap.size D ha hc y d/\D<wr.heap.size/\(t=false->∀ p,p<y.n->¬ y.Can d p)))
   case atStart=>exact ⟨true,fun _=>0,rfl,by rw [qga];rfl,by rw [qga];rfl,HOd.out,HD.out,fun h=>by cases h⟩
   case round=>
    clear HOd HD;obtain ⟨t,d,rfl,rfl,hgn,HI⟩:=hrel
    rcases zK t with rfl | rfl
    ·have HGN:Hid (gk=2*(sumL y.l y.n - sumL d y.n)+1):=hgn
     clear hgn;go_wp2_with fail
     go_loopw [5,6,8] (fun m s i wr=>∃ (k:Nat) (t':Bool) (d':Nat->Nat),k<=y.n/\i=.int .i64 k/\m=.bool t'/\s=.int .i64 ((sumL y.l y.n - sumL d' y.n:Nat):Int)/\Hid (Od w wr w.heap.size D ha hc y d'/\D<wr.heap.size/\(t'=true->sumL d y.n<sumL d' y.n)/\(t'=false->d'=d/\∀ p,p<k->¬ y.Can d p))) (fun _ _ i _=>y.n - (intOf i).toNat)
     case atStart=>exact ⟨0,false,d,nD _,rfl,rfl,rfl,HI.1,HI.2.1,(fun h=>by cases h),fun _=>⟨rfl,fun p hp=>by omega⟩⟩
     case round=>
      clear HI;obtain ⟨k,t',d',hk,rfl,rfl,rfl,HJ⟩:=hrel;by_cases hlt:k<y.n
      ·have hlt':(k:Int)<(y.n:Int):=by omega
       have hdk:d' k<=y.l k:=HJ.1.pu.le k;have hl2:(y.l k:Int)<=200:=by have:=HH.2.1 k hlt;omega
       have dk:=HJ.1.od.c k hlt;have b3:=HJ.1.bx;obtain ⟨bh,oh,eh,ch⟩:=(HE.bw HJ.1.be).row.at hlt;rw [eh] at b3;by_cases he:d' k=y.l k
       ·have HNo:Hid (¬ y.Can d' k):=fun h=>by have:=h.1;omega
        have HJ' : ∀ nq, Hid (Od w (wr.drewN nq) w.heap.size D ha hc y d' ∧ D < (wr.drewN nq).heap.size ∧ (t' = true → sumL d y.n < sumL d' y.n) ∧ (t' = false → d' = d ∧ ∀ p, p < k + 1 → ¬ y.Can d p)) := fun nq => ⟨HJ.1.bw (yC (nE _ _) _) HJ.2.1, HJ.2.1, HJ.2.2.1, fun h => ⟨(HJ.2.2.2 h).1, fun p hp => by
         have h5:=HJ.2.2.2 h;by_cases e:p=k
         ·subst e
          rw [<- h5.1];exact HNo.out
         ·exact h5.2 p (by omega)⟩⟩
        rw [he] at dk;have HJQ:Hid (∀ nq,Hid (Od w (wr.drewN nq) w.heap.size D ha hc y d'/\D<(wr.drewN nq).heap.size/\(t'=true->sumL d y.n<sumL d' y.n)/\(t'=false->d'=d/\∀ p,p<k+1->¬ y.Can d p))):=HJ';clear HJ HJ' he hdk;go_wp2_with fail
        go_quiet (fail)
        go_wp2;go_roundw
        case rel=>exact ⟨k+1,t',d',by omega,by go_num,rfl,rfl,HJQ.out _⟩
        case measure=>simp [intOf];omega
       ·have hkl:d' k<y.l k:=by omega
        have hkl':(d' k:Int)<(y.l k:Int):=by omega
        have hne:((d' k:Int) == (y.l k:Int))=false:=by
         have:¬ (d' k:Int)=(y.l k:Int):=by omega
         simpa using this
        clear he hdk;go_wp2_with fail
        go_quiet (fail)
        go_wp2_with fail
        have OD:Hid (Od w (wr.drewN nq) w.heap.size D ha hc y d'/\D<(wr.drewN nq).heap.size/\(t'=true->sumL d y.n<sumL d' y.n)/\(t'=false->d'=d/\∀ p,p<k->¬ y.Can d p)):=⟨HJ.1.bw (yC (nE _ _) _) HJ.2.1,HJ.2.1,HJ.2.2⟩
        clear HJ dk b3 ch;generalize wr.drewN nq=wd at *;have dk:=OD.1.od.c k hlt;have b3:=OD.1.bx;obtain ⟨bh',oh',eh',ch⟩:=(HE.bw OD.1.be).row.at hlt;rw [eh'] at b3;obtain ⟨b,off,ea,zb,e0,e1,e2⟩:=((HE.bw OD.1.be).ev k hlt).at hkl;rw [ea] at ch;have n1:wd.heap.size≠D:=by have:=OD.2.1;omega
        have n2:wd.heap.size≠b:=by omega
        have n3:wd.heap.size≠bh':=by have:=zJ wd _ ch;simp at this;omega
        have dk':=qaj dk;have b3':=qaj b3;have ch':=qaj ch;have e0':=qaj e0;have e1':=qaj e1;have e2':=qaj e2;clear zb
        go_region
        all_goals
         have OZ:Hid (Od w (wd.alloc (oQ2 (y.e k (d' k)).k (y.e k (d' k)).q (y.e k (d' k)).v)).drew w.heap.size D ha hc y d'/\D<(wd.alloc (oQ2 (y.e k (d' k)).k (y.e k (d' k)).q (y.e k (d' k)).v)).drew.heap.size/\(t'=true->sumL d y.n<sumL d' y.n)/\(t'=false->d'=d/\∀ p,p<k->¬ y.Can d p)):=⟨OD.1.bw (zT _ _).drew OD.2.1,zL OD.2.1 (zT _ _).drew.size,OD.2.2⟩
         have z0:(wd.alloc (oQ2 (y.e k (d' k)).k (y.e k (d' k)).q (y.e k (d' k)).v)).drew.cell? (aQ wd.heap.size 0)=some (iV (y.e k (d' k)).k):=zW wd _ _ 0 rfl;have z1:(wd.alloc (oQ2 (y.e k (d' k)).k (y.e k (d' k)).q (y.e k (d' k)).v)).drew.cell? (aQ wd.heap.size 1)=some (iV (y.e k (d' k)).q):=zW wd _ _ 1 rfl;go_wp2_with fail
         clear dk b3 ch e0 e1 e2 dk' b3' ch' e0' e1' e2' n1 n2 n3 OD eh eh' ea;generalize (wd.alloc (oQ2 (y.e k (d' k)).k (y.e k (d' k)).q (y.e k (d' k)).v)).drew=wz at *;generalize wd.heap.size=M at *
         rcases zK ((y.e k (d' k)).k == 3) with t3 | t3
         case inr=>
          have HK3:Hid (¬ (y.e k (d' k)).k=3):=by
           show ¬ (y.e k (d' k)).k=3;simpa using t3
          go_quiet (fail)
          have OQ:Hid (Od w (wz.drewN nq) w.heap.size D ha hc y d'/\D<(wz.drewN nq).heap.size/\(t'=true->sumL d y.n<sumL d' y.n)/\(t'=false->d'=d/\∀ p,p<k->¬ y.Can d p)):=⟨OZ.1.bw (yC (nE _ _) _) OZ.2.1,OZ.2.1,OZ.2.2⟩
          clear z0 z1 OZ;generalize wz.drewN nq=wq at *;have HCn:Hid (y.Can d' k):=⟨hkl,fun h=>absurd h HK3.out⟩
          have HPu:Hid (y.Put (up d' k)):=.next OQ.1.pu hlt HCn.out;have hsu:=qkz (d:=d') hlt;have hsl:=qek HPu.le y.n
          have HLE:Hid (((sumL y.l y.n - sumL d' y.n:Nat):Int) - 1=((sumL y.l y.n - sumL (up d' k) y.n:Nat):Int)):=by
           show ((sumL y.l y.n - sumL d' y.n:Nat):Int) - 1=((sumL y.l y.n - sumL (up d' k) y.n:Nat):Int);omega
          have hA1:((sumL y.l y.n - sumL d' y.n:Nat):Int)<=1000:=by have:=HSM.out;omega
          have hA0:(1:Int)<=((sumL y.l y.n - sumL d' y.n:Nat):Int):=by omega
          have HNx : Hid (Od w (wq.setCell ⟨D, k, none⟩ (iV ((d' k : Int) + 1))) w.heap.size D ha hc y (up d' k) ∧ D < (wq.setCell ⟨D, k, none⟩ (iV ((d' k : Int) + 1))).heap.size ∧ (true = true → sumL d y.n < sumL (up d' k) y.n) ∧ (true = false → up d' k = d ∧ ∀ p, p < k + 1 → ¬ y.Can d p)) := ⟨OQ.1.set hlt HCn.out (by have := HDW.out; omega) (by have := HDW.out; omega), by simpa [World.setCell] using OQ.2.1, (fun _ => by
           rcases zK t' with h5 | h5
           ·have:=OQ.2.2.1 h5
            omega
           ·have:=(OQ.2.2.2 h5).1
            rw [this] at hsu ⊢
            omega),(fun h=>by cases h)⟩
          have dkq:=OQ.1.od.c k hlt;have frq:=OQ.1.od.fr;clear hsu hsl OQ;generalize hAA:((sumL y.l y.n - sumL d' y.n:Nat):Int)=AA at *;clear hAA;go_wp2;go_roundw
          case rel=>exact ⟨k+1,true,up d' k,by omega,by go_num,rfl,by rw [HLE.out],HNx.out⟩
          case measure=>simp [intOf];omega
         case inl=>
          have hk3:(y.e k (d' k)).k=3:=by simpa using t3
          have HK3:Hid ((y.e k (d' k)).k=3):=hk3;have hq:=HH.1 k hlt (d' k) hkl;obtain ⟨q,hqe⟩:∃ q:Nat,(y.e k (d' k)).q=(q:Int):=⟨(y.e k (d' k)).q.toNat,by omega⟩
          have HQE:Hid ((y.e k (d' k)).q=(q:Int)):=hqe;have hqn:q<y.n:=by omega
          have hqn':(q:Int)<(y.n:Int):=by omega
          rw [hk3] at z0;rw [hqe] at z1;have dk:=OZ.1.od.c k hlt;have dq:=OZ.1.od.c q hqn;have b3:=OZ.1.bx;obtain ⟨bz,oz,ez,ch⟩:=(HE.bw OZ.1.be).row.at hlt;obtain ⟨bz',oz',ez',cq⟩:=(HE.bw OZ.1.be).row.at hqn;rw [ez] at b3 ez';simp only [nG,Addr.mk.injEq] at ez';obtain ⟨rfl,rfl,-⟩:=ez';have ks:=qks (hA k) (y.l k) (hC k) (d' k) (by have:=HH.2.2 k hlt;omega);have qs:=qks (hA q) (y.l q) (hC q) (d' q) (by have:=HH.2.2 q hqn;have:=OZ.1.pu.le q;omega);have HCk:Hid (∀ dd os,Calls prog 71 #[.slice (hA k) (d' k) (hC k),iV 3,iV q] (grow (redrawn wz dd) os) fun e w'=>e=.returned (iV (cnt (y.e k) 3 q (d' k):Nat))/\Below (grow (redrawn wz dd) os).heap.size (grow (redrawn wz dd) os) w'):=fun dd os=>qfl (hA k) (d' k) (hC k) (y.e k) 3 q _ (by have:=HH.2.1 k hlt;omega) (((HE.bw OZ.1.be).bw (below_regrown wz dd os)).ev k hlt |>.take (by omega));have HCq:Hid (∀ dd os,Calls prog 71 #[.slice (hA q) (d' q) (hC q),iV 2,iV k] (grow (redrawn wz dd) os) fun e w'=>e=.returned (iV (cnt (y.e q) 2 k (d' q):Nat))/\Below (grow (redrawn wz dd) os).heap.size (grow (redrawn wz dd) os) w'):=fun dd os=>qfl (hA q) (d' q) (hC q) (y.e q) 2 k _ (by have:=HH.2.1 q hqn;have:=OZ.1.pu.le q;omega) (((HE.bw OZ.1.be).bw (below_regrown wz dd os)).ev q hqn |>.take (OZ.1.pu.le q));have z0':=cell_regrown z0;have z1':=cell_regrown z1;have dk':=cell_regrown dk;have dq':=cell_regrown dq;have b3':=cell_regrown b3;have ch':=cell_regrown ch;have cq':=cell_regrown cq;clear ez hq hqe hk3 t3;refine wp_region_quiet_below (by kernel_rfl) (by kernel_rfl) ?_
          repeat (quiet_step (first|(go_at_call_of 71 (hA k);exact Calls.regrown_of (HCk.out _ _))|(go_at_call_of 71 (hA q);exact Calls.regrown_of (HCq.out _ _))))
          refine wpQuiet_nil ?_;intro _ hw';obtain ⟨⟨dd,os⟩,hw''⟩:=hw';subst hw'';have OQ:Hid (Od w (grow (redrawn wz dd) os) w.heap.size D ha hc y d'/\D<(grow (redrawn wz dd) os).heap.size/\(t'=true->sumL d y.n<sumL d' y.n)/\(t'=false->d'=d/\∀ p,p<k->¬ y.Can d p)):=⟨OZ.1.bw (below_regrown wz dd os) OZ.2.1,zL OZ.2.1 (below_regrown wz dd os).size,OZ.2.2⟩
          clear z0' z1' dk' dq' b3' ch' cq' z0 z1 dk dq b3 ch cq ks qs HCk HCq OZ;generalize grow (redrawn wz dd) os=wq at *
          have HCan:Hid (y.Can d' k ↔ cnt (y.e k) 3 q (d' k)<cnt (y.e q) 2 k (d' q)):=by
           show y.Can d' k ↔ _;unfold Hs.Can;rw [HQE.out];rw [show ((q:Int)).toNat=q by omega];exact ⟨fun h=>h.2 HK3.out,fun h=>⟨hkl,fun _=>h⟩⟩
          generalize cnt (y.e k) 3 q (d' k)=c1 at *;generalize cnt (y.e q) 2 k (d' q)=c2 at *;by_cases hcc:(c2:Int)<=(c1:Int)
          ·have HNo:Hid (¬ y.Can d' k):=fun h=>by have:=HCan.1 h;omega
           have HJ2 : Hid (Od w wq w.heap.size D ha hc y d' ∧ D < wq.heap.size ∧ (t' = true → sumL d y.n < sumL d' y.n) ∧ (t' = false → d' = d ∧ ∀ p, p < k + 1 → ¬ y.Can d p)) := ⟨OQ.1, OQ.2.1, OQ.2.2.1, fun h => ⟨(OQ.2.2.2 h).1, fun p hp => by
            have h5:=OQ.2.2.2 h;by_cases e:p=k
            ·subst e
             rw [<- h5.1];exact HNo.out
            ·exact h5.2 p (by omega)⟩⟩
           clear OQ HCan;go_wp2;go_roundw
           case rel=>exact ⟨k+1,t',d',by omega,by go_num,rfl,rfl,HJ2.out⟩
           case measure=>simp [intOf];omega
          ·have HCx:Hid (y.Can d' k):=HCan.2 (by omega)
           clear HCan;have HCn:Hid (y.Can d' k):=HCx.out;have HPu:Hid (y.Put (up d' k)):=.next OQ.1.pu hlt HCn.out;have hsu:=qkz (d:=d') hlt;have hsl:=qek HPu.le y.n
           have HLE:Hid (((sumL y.l y.n - sumL d' y.n:Nat):Int) - 1=((sumL y.l y.n - sumL (up d' k) y.n:Nat):Int)):=by
            show ((sumL y.l y.n - sumL d' y.n:Nat):Int) - 1=((sumL y.l y.n - sumL (up d' k) y.n:Nat):Int);omega
           have hA1:((sumL y.l y.n - sumL d' y.n:Nat):Int)<=1000:=by have:=HSM.out;omega
           have hA0:(1:Int)<=((sumL y.l y.n - sumL d' y.n:Nat):Int):=by omega
           have HNx : Hid (Od w (wq.setCell ⟨D, k, none⟩ (iV ((d' k : Int) + 1))) w.heap.size D ha hc y (up d' k) ∧ D < (wq.setCell ⟨D, k, none⟩ (iV ((d' k : Int) + 1))).heap.size ∧ (true = true → sumL d y.n < sumL (up d' k) y.n) ∧ (true = false → up d' k = d ∧ ∀ p, p < k + 1 → ¬ y.Can d p)) := ⟨OQ.1.set hlt HCn.out (by have := HDW.out; omega) (by have := HDW.out; omega), by simpa [World.setCell] using OQ.2.1, (fun _ => by
            rcases zK t' with h5 | h5
            ·have:=OQ.2.2.1 h5
             omega
            ·have:=(OQ.2.2.2 h5).1
             rw [this] at hsu ⊢
             omega),(fun h=>by cases h)⟩
           have dkq:=OQ.1.od.c k hlt;have frq:=OQ.1.od.fr;clear hsu hsl OQ;generalize hAA:((sumL y.l y.n - sumL d' y.n:Nat):Int)=AA at *;clear hAA;go_wp2;go_roundw
           case rel=>exact ⟨k+1,true,up d' k,by omega,by go_num,rfl,by rw [HLE.out],HNx.out⟩
           case measure=>simp [intOf];omega
      ·have hkn:k=y.n:=by omega
       subst hkn
       have HF:Hid (2*(sumL y.l y.n - sumL d' y.n)+(if t'=true then 1 else 0)<gk):=by
        have h2:=HGN.out;have h3:=qek HJ.1.pu.le y.n;show _<gk;cases t' with
        | true=>
         have h4:=HJ.2.2.1 rfl;simp only [if_true];omega
        | false=>
         have h4:=(HJ.2.2.2 rfl).1;rw [h4];simp only [Bool.false_eq_true,if_false];omega
       have HG2 : Hid (Od w wr w.heap.size D ha hc y d' ∧ D < wr.heap.size ∧ (t' = false → ∀ p, p < y.n → ¬ y.Can d' p)) := ⟨HJ.1, HJ.2.1, fun h p hp => by
        have:=HJ.2.2.2 h;rw [this.1]
        exact this.2 p hp⟩
       clear HJ;go_wp2
       go_roundg (2*(sumL y.l y.n - sumL d' y.n)+(if t'=true then 1 else 0))
       case measure=>exact HF.out
       case rel=>exact ⟨t',d',rfl,rfl,rfl,HG2.out⟩
    ·have HR:Hid ((((sumL y.l y.n - sumL d y.n:Nat):Int) == 0)=qB y.Row):=by
      show (((sumL y.l y.n - sumL d y.n:Nat):Int) == 0)=qB y.Row;have hi:=Hs.row_iff HI.1.pu HH.1 (HI.2.2 rfl);have hle:=HI.1.pu.le;by_cases hr:y.Row
      ·have:sumL d y.n=sumL y.l y.n:=qiq fun i hi'=>hi.1 hr i hi'
       rw [qa5 hr,this];simp
      ·rw [qax hr]
       have:sumL y.l y.n - sumL d y.n≠0:=fun e=>hr (hi.2 (qvx hle _ (by have:=qek hle y.n;omega)));have h2:((sumL y.l y.n - sumL d y.n:Nat):Int)≠0:=by omega
       simpa using h2
     have HB:Hid (Bw w wr):=HI.1.be;clear HI hgn;go_wp2;go_ret;rw [HR.out];exact ⟨rfl,HB.out⟩
structure Sy.Sm (y:Sy):Prop where
 n:y.pn<=16/\y.sn<=16/\y.wn<=16/\y.hn<=16
 p:∀ i,i<y.pn->y.pL i<=1000
 s:∀ i,i<y.sn->(y.sS i).rs.length<=1000/\(y.sS i).os.length<=1000
 w:∀ i,i<y.wn->y.wL i<=1000
 h:∀ i,i<y.hn->y.hL i<=1000
theorem qsv {n:Nat} {S:S4} (h:OkS n S):S.rs.length<=60/\S.os.length<=60:=by
 obtain ⟨⟨r0,r1,r2,r3,e,-⟩,-,h60,-⟩:=qbq h;exact ⟨by rw [e];simp,h60⟩
theorem Sy.Ok.bds {y:Sy} (h:y.Ok):(∀ i,i<y.pn->y.pL i<=30)/\(∀ i,i<y.sn->OkS (y.pL i) (y.sS i))/\(∀ i,i<y.wn->y.wL i<=12)/\(∀ i,i<y.hn->y.hL i<=200):=by
 obtain ⟨⟨h1,h4⟩,hs,hh,hw⟩:=h.cn;refine ⟨fun i hi=>?_,fun i hi=>h.st (by omega),fun i hi=>?_,fun i hi=>h.le200 (by omega)⟩
 ·have h1:=h.four hi
  simp only [qaa,nH,inB,nI] at h1;have:=h1.2.1;omega
 ·rw [hw] at hi
  have ha:i / y.pn<y.pn:=Nat.div_lt_of_lt_mul hi;have hb:i % y.pn<y.pn:=Nat.mod_lt _ (by omega);have e:i / y.pn*y.pn+i % y.pn=i:=by rw [Nat.mul_comm];exact Nat.div_add_mod i y.pn
  have:=h.way ha hb;rw [e] at this;exact this
theorem Sy.Ok.sm {y:Sy} (h:y.Ok):y.Sm:=by
 obtain ⟨⟨h1,h4⟩,hs,hh,hw⟩:=h.cn;obtain ⟨b1,b2,b3,b4⟩:=h.bds;have h16:y.pn*y.pn<=16:=zP (Nat.mul_le_mul h4 h4) (by omega);exact ⟨⟨by omega,by omega,by omega,by omega⟩,fun i hi=>by have:=b1 i hi;omega,fun i hi=>by have:=qsv (b2 i hi);omega,fun i hi=>by have:=b3 i hi;omega,fun i hi=>by have:=b4 i hi;omega⟩
theorem Sy.Ok.evq {y:Sy} (h:y.Ok) {p i:Nat} (hp:p<y.pn) (hi:i<y.hL p):0<=(y.hH p i).q/\(y.hH p i).q<(y.pn:Int):=⟨qko (qbh (h.rp p hp)).2.2 i hi,h.pe p hp i hi⟩
theorem Sy.Ok.hl200 {y:Sy} (h:y.Ok) {p:Nat} (hp:p<y.pn):y.hL p<=200:=(qbh (h.rp p hp)).2.1
theorem qg5 (w:World) (o:Obj):Bw w (w.alloc o):=(nE _ _).alloc (nA _) _
theorem qr9 (ea:Option Addr) (len cap:Nat) (eh:Nat->E3) (kd pr n:Int) (w:World) (hlen:len<=1048576) (hc:EvL w ea len eh):
  Calls prog 115 #[.slice ea len cap,iV kd,iV pr,iV n] w (rB w (iV (nthV eh kd pr len n))):=by
 have HC:Hid (EvL w ea len eh):=hc;clear hc;generalize hV:nthV eh kd pr len n=V;have HV:Hid (nthV eh kd pr len n=V):=hV;clear hV;have hpl:=qs7 eh kd pr len
 go_enter func115,ntmps115
 go_wp2_with fail
 refine (qjc ea len cap eh kd pr w hlen HC.out).mono ?_;rintro e w1 ⟨v,rfl,o1,b1⟩;obtain ⟨a0,cp,rfl,s1⟩:=o1.form;have HS:Hid (Sl w1 a0 (plI eh kd pr len)):=s1;clear o1 s1
 rcases zK (belB n ((plI eh kd pr len).length:Nat)) with t | t
 ·have hn:0<=n/\n<((plI eh kd pr len).length:Int):=by simpa [belB] using t
  obtain ⟨m,rfl⟩:∃ m:Nat,n=m:=⟨n.toNat,by omega⟩
  have hv:=HV.out;unfold nthV at hv;rw [nC t,nF] at hv;have hm:m<(plI eh kd pr len).length:=by omega
  have hm':(m:Int)<((plI eh kd pr len).length:Int):=by omega
  obtain ⟨b0,o0,rfl,hlt,hcell⟩:=HS.at hm;rw [hv] at hcell;clear hn hv HS;go_wp2_with fail
  refine (isBelow_any _ _ _).mono ?_;rintro e w2 ⟨rfl,rfl⟩;go_wp2;go_ret;exact ⟨rfl,b1⟩
 ·have hv:=HV.out
  unfold nthV at hv;rw [nB (by rw [t];decide)] at hv;subst hv;go_wp2_with fail
  refine (isBelow_any _ _ _).mono ?_;rintro e w2 ⟨rfl,rfl⟩;go_wp2;go_ret;exact ⟨rfl,b1⟩
