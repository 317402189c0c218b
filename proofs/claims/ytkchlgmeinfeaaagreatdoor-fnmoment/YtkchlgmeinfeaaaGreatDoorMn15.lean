import Derived.Test.YtkchlgmeinfeaaaGreatDoorMn13
import Derived.Test.YtkchlgmeinfeaaaGreatDoorMn14
namespace Go.Proofs.YtkchlgmeinfeaaaGreatDoor
open Go.Proofs.Tryz
set_option maxRecDepth 100000
set_option maxHeartbeats 4000000
open Go.ChangeShapes Go.WideShapes Go.ChangeAt Go.RowKit Go.Deep
structure Sy where
 pn:Nat
 pL:Nat->Nat
 pH:Nat->Nat->I5
 sn:Nat
 sS:Nat->S4
 wn:Nat
 wL:Nat->Nat
 wH:Nat->Nat->I2
 hn:Nat
 hL:Nat->Nat
 hH:Nat->Nat->E3
def SysIn.y (x:SysIn):Sy:=⟨x.pn,x.pL,x.pH,x.sn,x.sS,x.wn,x.wL,x.wH,x.hn,x.hL,x.hH⟩
def Sy.hs (y:Sy):Hs:=⟨y.pn,y.hL,y.hH⟩
def qci (x:I2):Bool:=numB x.v && (!x.m || x.v == 0)
structure WayP (h:Nat->I2) (len:Nat) (took sent:List Int):Prop where
 it:∀ i,i<len->qci (h i)=true
 le:len<=12
 eq:took ++ numL h len=sent
structure Sy.Ok (y:Sy):Prop where
 cn:(1<=y.pn/\y.pn<=4)/\y.sn=y.pn/\y.hn=y.pn/\y.wn=y.pn*y.pn
 pr:∀ p,p<y.pn->qac (y.pH p) (y.pL p) y.pn=true
 rp:∀ p,p<y.pn->repO (y.pH p) (y.pL p) (y.hH p) (y.hL p)=some (y.sS p)
 pe:∀ p,p<y.pn->∀ i,i<y.hL p->(y.hH p i).q<(y.pn:Int)
 wa:∀ a,a<y.pn->∀ b,b<y.pn->WayP (y.wH (a*y.pn+b)) (y.wL (a*y.pn+b)) (valL (y.hH b) 3 a (y.hL b)) (valL (y.hH a) 2 b (y.hL a))
 ro:y.hs.Row
noncomputable def Sy.okB (y:Sy):Bool:=@decide y.Ok (Classical.propDecidable _)
theorem Sy.okB_true {y:Sy} (h:y.Ok):y.okB=true:=by simp [Sy.okB,h]
theorem Sy.okB_false {y:Sy} (h:¬ y.Ok):y.okB=false:=by simp [Sy.okB,h]
theorem Sy.ok_of {y:Sy} (h:y.okB=true):y.Ok:=by simpa [Sy.okB] using h
theorem qvo {g:Nat->I5} {len:Nat} {k:Nat} (h:qac g len 4=true) (hk:k<len):0<=evP (g k).o (g k).n:=by
 have h5:=qb0 h hk;simp only [qak,nH] at h5;have h6:=h5.2;unfold evP;by_cases e6:(g k).o=6
 ·rw [nC e6]
  simp [qbi,e6,inB] at h6;omega
 ·rw [nB e6]
  by_cases e7:(g k).o=7
  ·rw [nC e7]
   simp [qbi,e7,inB] at h6;omega
  ·rw [nB e7]
   exact Int.le_refl _
theorem qs1 {g:Nat->I5} {len:Nat} {p:Int} {rs os:List Int} {code k q v:Int} (h:doB g len p rs os code k q v=true):0<=q:=by
 have hr:=qcw h;obtain ⟨h1,h2,-⟩:=qbb hr;obtain ⟨-,⟨j,rfl,hj⟩,-⟩:=qbw h2;have hp:=qvo h1 hj;simp only [doB,canB,nxP,nC hr,nF] at h
 split at h
 ·simp only [nH] at h
  have h3:=h.2
  split at h3
  ·simp only [belB,nI] at h3
   omega
  ·simp only [beq_iff_eq] at h3
   omega
 ·simp only [nH,beq_iff_eq] at h
  have:=h.2.2.1;omega
theorem qj0 {g:Nat->I5} {len:Nat} {eh:Nat->E3}:∀ {k:Nat} {S:S4},rp g len eh k=some S->∀ i,i<k->0<=(eh i).q
 | 0,_,_,i,hi=>by omega
 | k+1,S,h,i,hi=>by
  simp only [rp] at h;cases hr:rp g len eh k with
  | none=>rw [hr] at h;cases h
  | some S0=>
   rw [hr] at h;simp only [Option.bind_some,qey] at h
   split at h
   ·rename_i hd
    by_cases e:i=k
    ·subst e
     exact qs1 hd
    ·exact qj0 hr i (by omega)
   ·cases h
theorem qbe {g:Nat->I5} {n:Nat} {eh:Nat->E3} {m:Nat} {S:S4} (h:repO g n eh m=some S):qac g n 4=true/\m<=200/\rp g n eh m=some S:=by
 unfold repO at h
 split at h
 ·rename_i hc
  exact ⟨hc.1,hc.2,h⟩
 ·cases h
structure SysG (W:World) (x:SysIn):Prop where
 p:RowS W x.pa x.pn fun i=>.slice (x.pA i) (x.pL i) (x.pC i)
 pi:∀ i,i<x.pn->∃ b,x.pA i=some ⟨b,0,none⟩/\b<W.heap.size/\qan W b 0 (x.pL i) (x.pH i)
 s:qdo W x.sa x.sn x.sQ
 w:RowS W x.wa x.wn fun i=>.slice (x.wA i) (x.wL i) (x.wC i)
 wi:∀ i,i<x.wn->ItL W (x.wA i) (x.wL i) (x.wH i)
 h:RowS W x.ha x.hn fun i=>.slice (x.hA i) (x.hL i) (x.hC i)
 hi:∀ i,i<x.hn->EvL W (x.hA i) (x.hL i) (x.hH i)
theorem SysG.bw {w w':World} {x:SysIn} (o:SysG w x) (hb:Bw w w'):SysG w' x:=
 ⟨o.p.bw hb, fun i hi => by
  obtain ⟨b,e,hlt,hI⟩:=o.pi i hi
  exact ⟨b,e,zL hlt hb.size,hI.bw hb hlt⟩,o.s.bw hb,o.w.bw hb,fun i hi=>(o.wi i hi).bw hb,o.h.bw hb,fun i hi=>(o.hi i hi).bw hb⟩
structure SysIn.Len (x:SysIn):Prop where
 p:x.pn<=1048576/\∀ i,i<x.pn->x.pL i<=1048576
 s:x.sn<=1048576/\∀ i,i<x.sn->(x.sQ i).rs.length<=1048576/\(x.sQ i).os.length<=1048576
 w:x.wn<=1048576/\∀ i,i<x.wn->x.wL i<=1048576
 h:x.hn<=1048576/\∀ i,i<x.hn->x.hL i<=1048576
abbrev SysIn.v (x:SysIn):Value:=sysV x.pa x.pn x.pc x.sa x.sn x.sc x.wa x.wn x.wc x.ha x.hn x.hc
variable {z:Bool}
structure OwnS (z:Bool) (w:World) (B:Nat) (c:Nat->Nat) (y:Sy) (vp vs vw vh:Value) (up us uw uh:Nat->Value):Prop where
 p:LI z w (Cl B c 1) vp y.pn up y.pL y.pH
 s:LS w (Cl B c 2) vs y.sn us y.sS
 t:LT z w (Cl B c 3) vw y.wn uw y.wL y.wH
 h:LE z w (Cl B c 4) vh y.hn uh y.hL y.hH
theorem OwnS.bw {w w':World} {B:Nat} {c:Nat->Nat} {y:Sy} {vp vs vw vh:Value} {up us uw uh:Nat->Value} (o:OwnS z w B c y vp vs vw vh up us uw uh) (hb:Bw w w'):OwnS z w' B c y vp vs vw vh up us uw uh:=⟨o.p.bw hb,o.s.bw hb,o.t.bw hb,o.h.bw hb⟩
def qam (z:Bool) (w:World) (B:Nat) (y:Sy) (v:Value):Prop:=∃ c vp vs vw vh up us uw uh,v=.agg #[vp,vs,vw,vh]/\OwnS z w B c y vp vs vw vh up us uw uh
theorem qam.bw {w w':World} {B:Nat} {y:Sy} {v:Value} (o:qam z w B y v) (hb:Bw w w'):qam z w' B y v:=by
 obtain ⟨c,vp,vs,vw,vh,up,us,uw,uh,e,o⟩:=o;exact ⟨c,vp,vs,vw,vh,up,us,uw,uh,e,o.bw hb⟩
def rcol (c:Nat->Nat) (n q:Nat):Nat->Nat:=fun k=>if k<n then c k else q
theorem qat {c:Nat->Nat} {n q k:Nat} (h:k<n):rcol c n q k=c k:=nC h
theorem qai {c:Nat->Nat} {n q k:Nat} (h:n<=k):rcol c n q k=q:=nB (by omega)
theorem Cl.old {B:Nat} {c:Nat->Nat} {n q i k:Nat} (h:Cl B c i k) (hk:k<n):Cl B (rcol c n q) i k:=⟨h.1,(qat hk).trans h.2⟩
structure CpB (B N:Nat) (c:Nat->Nat) (y:Sy) (ks kw:Nat) (wx:World) (vp vs vw vh:Value) (up us uw uh:Nat->Value):Prop where
 bx:BoxC wx N vp vs vw vh
 fr:∀ j,wx.frozen? ⟨N,j,none⟩=false
 cN:c N=0
 bN:B<=N
 o:OwnS true wx B c { y with sn:=ks,wn:=kw } vp vs vw vh up us uw uh
section
variable {B N:Nat} {c:Nat->Nat} {y:Sy} {ks kw:Nat} {wr:World} {vp vs vw vh:Value} {up us uw uh:Nat->Value}
theorem CpB.lt (h:CpB B N c y ks kw wr vp vs vw vh up us uw uh):N<wr.heap.size:=zJ wr _ h.bx.1
theorem CpB.state (h:CpB B N c y ks kw wr vp vs vw vh up us uw uh) {w1 w3:World} {u' v':Value} (b1:Bw wr w1) (hu:qaf w1 wr.heap.size u' (y.sS ks).p (y.sS ks).rs (y.sS ks).os (y.sS ks).c) (hv:w3.ownsRow 0 73 4 v' (ks+1) (flat (fun i=>cellsL (us i)) ks ++ cellsL u')) (g:w1.grownBy w3 vs.ownBlock) (hv':∀ j,v'.ownBlock=some j->vs.ownBlock=some j\/w1.heap.size<=j):
  CpB B N (rcol c wr.heap.size 2) y (ks+1) kw (w3.setCell (aQ N 1) v') vp v' vw vh up (fun j=>if j=ks then u' else us j) uw uh:=by
 have hN:=h.lt;have hkeep:∀ k,k<wr.heap.size->c k≠2->w3.heap[k]? = wr.heap[k]?:=fun k hk hc=>(g.block k (zL hk b1.size) fun e=>hc (h.o.s.rb k e.symm).2).trans (b1.block k hk);have hset:∀ k,k≠N->(w3.setCell ⟨N,1,none⟩ v').heap[k]? = w3.heap[k]?:=fun k hk=>zO _ _ _ _ hk;have hcN:rcol c wr.heap.size 2 N=0:=(qat hN).trans h.cN;have hBN:w3.heap[N]? = wr.heap[N]?:=hkeep N hN (by rw [h.cN];decide)
 have hkk:∀ i,i≠2->i≠0->∀ k,Cl B (rcol c wr.heap.size 2) i k->k<wr.heap.size->(w3.setCell ⟨N,1,none⟩ v').heap[k]? = wr.heap[k]?:=fun i h2 h0 k hk hl=>by
  have e:c k=i:=(qat hl).symm.trans hk.2;exact (hset k fun en=>h0 (by rw [<- e,en,h.cN])).trans (hkeep k hl (by rw [e];exact h2))
 have hP:∀ i k,Cl B c i k->k<wr.heap.size->Cl B (rcol c wr.heap.size 2) i k:=fun i k hk hl=>hk.old hl;have hP':∀ k,wr.heap.size<=k->k<w3.heap.size->Cl B (rcol c wr.heap.size 2) 2 k:=fun k hk _=>⟨zP h.bN (zP (nJ hN) hk),qai hk⟩
 obtain ⟨x0,x1,x2,x3⟩:=h.bx;have hc:∀ j,w3.cell? ⟨N,j,none⟩=wr.cell? ⟨N,j,none⟩:=fun j=>zH hBN
 have hnew:∀ k,Cl B (rcol c wr.heap.size 2) 2 k->k<w3.heap.size->(w3.setCell ⟨N,1,none⟩ v').heap[k]? = w3.heap[k]?:=fun k hk _=>hset k fun e=>by
  have e2:=hk.2;rw [e,hcN] at e2;cases e2
 refine ⟨⟨?_,?_,?_,?_⟩,fun j=>?_,hcN,h.bN,⟨?_,?_,?_,?_⟩⟩
 ·rw [World.cell?_setCell_other _ _ _ _ (by simp),hc];exact x0
 ·exact World.cell?_setCell_same _ _ _ ((hc 1).trans x1)
 ·rw [World.cell?_setCell_other _ _ _ _ (by simp),hc];exact x2
 ·rw [World.cell?_setCell_other _ _ _ _ (by simp),hc];exact x3
 ·rw [World.frozen?_setCell,zI hBN];exact h.fr j
 ·exact (h.o.p.mono (hP 1)).keep (hkk 1 (by decide) (by decide))
 ·exact (h.o.s.push b1 hu hv g hv' (hP 2) hP').keep hnew
 ·exact (h.o.t.mono (hP 3)).keep (hkk 3 (by decide) (by decide))
 ·exact (h.o.h.mono (hP 4)).keep (hkk 4 (by decide) (by decide))
theorem CpB.way (h:CpB B N c y ks kw wr vp vs vw vh up us uw uh) {w1 w3:World} {u' v':Value} (b1:Bw wr w1) (hu:w1.ownsRow wr.heap.size 94 2 u' (y.wL kw) (fT (y.wH kw) (y.wL kw))) (hne:u'≠nS) (hv:w3.ownsRow 0 92 1 v' (kw+1) ((List.range kw).map uw ++ [u'])) (g:w1.grownBy w3 vw.ownBlock) (hv':∀ j,v'.ownBlock=some j->vw.ownBlock=some j\/w1.heap.size<=j):
  CpB B N (rcol c wr.heap.size 3) y ks (kw+1) (w3.setCell (aQ N 2) v') vp vs v' vh up us (fun j=>if j=kw then u' else uw j) uh:=by
 have hN:=h.lt;have hkeep:∀ k,k<wr.heap.size->c k≠3->w3.heap[k]? = wr.heap[k]?:=fun k hk hc=>(g.block k (zL hk b1.size) fun e=>hc (h.o.t.rb k e.symm).2).trans (b1.block k hk);have hset:∀ k,k≠N->(w3.setCell ⟨N,2,none⟩ v').heap[k]? = w3.heap[k]?:=fun k hk=>zO _ _ _ _ hk;have hcN:rcol c wr.heap.size 3 N=0:=(qat hN).trans h.cN;have hBN:w3.heap[N]? = wr.heap[N]?:=hkeep N hN (by rw [h.cN];decide)
 have hkk:∀ i,i≠3->i≠0->∀ k,Cl B (rcol c wr.heap.size 3) i k->k<wr.heap.size->(w3.setCell ⟨N,2,none⟩ v').heap[k]? = wr.heap[k]?:=fun i h2 h0 k hk hl=>by
  have e:c k=i:=(qat hl).symm.trans hk.2;exact (hset k fun en=>h0 (by rw [<- e,en,h.cN])).trans (hkeep k hl (by rw [e];exact h2))
 have hP:∀ i k,Cl B c i k->k<wr.heap.size->Cl B (rcol c wr.heap.size 3) i k:=fun i k hk hl=>hk.old hl;have hP':∀ k,wr.heap.size<=k->k<w3.heap.size->Cl B (rcol c wr.heap.size 3) 3 k:=fun k hk _=>⟨zP h.bN (zP (nJ hN) hk),qai hk⟩
 obtain ⟨x0,x1,x2,x3⟩:=h.bx;have hc:∀ j,w3.cell? ⟨N,j,none⟩=wr.cell? ⟨N,j,none⟩:=fun j=>zH hBN
 have hnew:∀ k,Cl B (rcol c wr.heap.size 3) 3 k->k<w3.heap.size->(w3.setCell ⟨N,2,none⟩ v').heap[k]? = w3.heap[k]?:=fun k hk _=>hset k fun e=>by
  have e2:=hk.2;rw [e,hcN] at e2;cases e2
 refine ⟨⟨?_,?_,?_,?_⟩,fun j=>?_,hcN,h.bN,⟨?_,?_,?_,?_⟩⟩
 ·rw [World.cell?_setCell_other _ _ _ _ (by simp),hc];exact x0
 ·rw [World.cell?_setCell_other _ _ _ _ (by simp),hc];exact x1
 ·exact World.cell?_setCell_same _ _ _ ((hc 2).trans x2)
 ·rw [World.cell?_setCell_other _ _ _ _ (by simp),hc];exact x3
 ·rw [World.frozen?_setCell,zI hBN];exact h.fr j
 ·exact (h.o.p.mono (hP 1)).keep (hkk 1 (by decide) (by decide))
 ·exact (h.o.s.mono (hP 2)).keep (hkk 2 (by decide) (by decide))
 ·exact (h.o.t.push b1 hu (fun _=>hne) hv g hv' (hP 3) hP').keep hnew
 ·exact (h.o.h.mono (hP 4)).keep (hkk 4 (by decide) (by decide))
end
theorem CpB.start {B l5 l6 N:Nat} {w5 w6 wf:World} {x:SysIn} {vp vh:Value} {up uh:Nat->Value} (o5:LI true w5 (fun k=>l5<=k/\k<w5.heap.size) vp x.pn up x.pL x.pH) (o6:LE true w6 (fun k=>l6<=k/\k<w6.heap.size) vh x.hn uh x.hL x.hH) (hb:Bw w5 w6) (h5:B<=l5) (h6:w5.heap.size<=l6) (h56:B<=w5.heap.size) (h55:l5<=w5.heap.size)
  (hN:N<l5\/(w5.heap.size<=N/\N<l6)\/w6.heap.size<=N) (hBN:B<=N) (hf:∀ k,k<w6.heap.size->k≠N->wf.heap[k]? = w6.heap[k]?) (hbx:BoxC wf N vp nS nS vh) (hfr:∀ j,wf.frozen? ⟨N,j,none⟩=false):
  ∃ c vp vh up uh,CpB B N c x.y 0 0 wf vp nS nS vh up (fun _=>.slice none 0 0) (fun _=>.slice none 0 0) uh:=by
 have hs:=hb.size
 have hc0:∀ k,Cl B (fun k=>if k=N then 0 else if k<w5.heap.size then 1 else 4) 1 k\/Cl B (fun k=>if k=N then 0 else if k<w5.heap.size then 1 else 4) 4 k->k≠N:=fun k hk e=>by
  rcases hk with hk | hk
  ·have e2:(if k=N then 0 else if k<w5.heap.size then 1 else 4)=1:=hk.2
   rw [nC e] at e2;cases e2
  ·have e2:(if k=N then 0 else if k<w5.heap.size then 1 else 4)=4:=hk.2
   rw [nC e] at e2;cases e2
 have g5 : LI true w5 (Cl B (fun k => if k = N then 0 else if k < w5.heap.size then 1 else 4) 1) vp x.pn up x.pL x.pH := o5.mono fun k hk _ => ⟨by omega, by
  show (if k=N then 0 else if k<w5.heap.size then 1 else 4)=1
  rw [nB (by omega),nC hk.2]⟩
 have g6 : LE true w6 (Cl B (fun k => if k = N then 0 else if k < w5.heap.size then 1 else 4) 4) vh x.hn uh x.hL x.hH := o6.mono fun k hk _ => ⟨by omega, by
  show (if k=N then 0 else if k<w5.heap.size then 1 else 4)=4
  rw [nB (by omega),nB (by omega)]⟩
 exact ⟨fun k=>if k=N then 0 else if k<w5.heap.size then 1 else 4,vp,vh,up,uh,hbx,hfr,nC rfl,hBN,⟨g5.keep fun k hk hl=>(hf k (by omega) (hc0 k (.inl hk))).trans (hb.block k hl),LS.nil _ _ _ _,LL.nil _ _ _ _ _ _ _ _,g6.keep fun k hk hl=>hf k hl (hc0 k (.inr hk))⟩⟩
theorem qeq (x:SysIn) (w:World) (hG:SysG w x) (hL:x.Len):
  Calls prog 179 #[x.v] w fun e w'=>∃ v,e=.returned v/\qam true w' w.heap.size x.y v/\Bw w w':=by
 have HG:Hid (SysG w x):=hG;have HL:Hid x.Len:=hL;have hsn':(x.sn:Int)<=1048576:=by have:=hL.s.1;omega
 have hwn':(x.wn:Int)<=1048576:=by have:=hL.w.1;omega
 have BW:Hid (Bw w ((w.alloc (x.oX)).alloc (zQ3))):=(zQ _ _).trans ((zQ _ _).mono (by simp));have NB:Hid (x.bX ((w.alloc (x.oX)).alloc (zQ3)) w.heap.size):=(BoxC.new w _ _ _ _ _).bw (zQ _ _);have RB:Hid (BoxC ((w.alloc (x.oX)).alloc (zQ3)) (w.heap.size+1) nS nS nS nS/\∀ j,((w.alloc (x.oX)).alloc (zQ3)).frozen? ⟨w.heap.size+1,j,none⟩=false):=⟨⟨zW _ _ _ 0 (by simp),zW _ _ _ 1 (by simp),zW _ _ _ 2 (by simp),zW _ _ _ 3 (by simp)⟩,fun j=>yD _ _ _ _ (by simp)⟩
 have hz:((w.alloc (x.oX)).alloc (zQ3)).heap.size=w.heap.size+2:=by simp
 clear hG hL
 go_enter func179,ntmps179
 go_wp2_with fail
 generalize (w.alloc (x.oX)).alloc (zQ3)=W2 at *;obtain ⟨b0,b1,b2,b3⟩:=NB.out;have d1:W2.heap.size≠w.heap.size:=by omega
 have hl0:w.heap.size<W2.heap.size:=by omega
 have hl1:w.heap.size+1<W2.heap.size:=by omega
 have hl2:Hid (w.heap.size<=W2.heap.size):=by show w.heap.size<=W2.heap.size;omega
 clear hz
 have HP : Hid (∀ wx, Below W2.heap.size W2 wx → (RowS wx x.pa x.pn fun i => .slice (x.pA i) (x.pL i) (x.pC i)) ∧ ∀ i, i < x.pn → Src wx (x.pA i) (fI (x.pH i) (x.pL i))) := fun wx hb => ⟨(HG.bw (BW.trans (hb.mono BW.size))).p, fun i hi => by
  obtain ⟨b,e,hlt,hI⟩:=(HG.bw (BW.trans (hb.mono BW.size))).pi i hi;rw [e]
  exact srcI hlt hI⟩
 have HH:Hid (∀ wx,Bw W2 wx->(RowS wx x.ha x.hn fun i=>.slice (x.hA i) (x.hL i) (x.hC i))/\∀ i,i<x.hn->Src wx (x.hA i) (fE (x.hH i) (x.hL i))):=fun wx hb=>⟨(HG.bw (BW.trans (hb.mono BW.size))).h,fun i hi=>srcE ((HG.bw (BW.trans (hb.mono BW.size))).hi i hi)⟩
 go_cut [3] from 6 to 12 (fun s wx=>∃ N:Nat,s=.pointer (some (aQ N 0))/\Hid ((∃ c vp vh up uh,CpB W2.heap.size N c x.y 0 0 wx vp nS nS vh up (fun _=>nS) (fun _=>nS) uh)/\Bw W2 wx))
 case first=>
  refine qah (fun w'=>w'.cell? (aQ w.heap.size 0)=some (.slice x.pa x.pn x.pc)/\w'.cell? (aQ w.heap.size 3)=some (.slice x.ha x.hn x.hc)) (fun i=>i == 8) (by kernel_rfl) ?_;have hHeld:=And.intro b0 b3;refine qa0 [0,1,3,4] ?_;iterate 4 (refine qba rfl hHeld ?_)
  refine qav ?_;refine qh6 2 7 rfl rfl (by kernel_rfl) (fun K hK=>?_) (fun K hK=>?_)
  ·refine qag rfl 51 _ _ rfl #[.slice x.pa x.pn x.pc] (by simp [Act.eval]) (yB func51) (qfp x.pa x.pn x.pc x.pA x.pL x.pC x.pH (W2.drew) HL.p.1 HL.p.2 (HP.out _ (nE _ _).drew).1 (HP.out _ (nE _ _).drew).2) ?_
   rintro e w5 ⟨v5,u5,rfl,o5,b5⟩;obtain ⟨a5,c5,rfl⟩:=zU o5.row;refine ⟨_,rfl,?_⟩;have q5:Bw W2 w5:=qaj (nE _ _).drew b5 (by simp);have y0:=(q5.cell (p:=(aQ w.heap.size 0)) hl0).trans b0;have y3:=(q5.cell (p:=(aQ w.heap.size 3)) hl0).trans b3;have z5:=q5.size;refine hK.out _ _ (fun _=>⟨y0,y3⟩) ?_;have hHeld:=And.intro y0 y3;clear hK K
   (try simp only [Act.put,zD,zE,zF])
   refine qh6 5 7 rfl rfl (by kernel_rfl) (fun K hK=>?_) (fun K hK=>?_)
   ·refine qag rfl 181 _ _ rfl #[.slice x.ha x.hn x.hc] (by simp [Act.eval]) (yB func181) (qd8 x.ha x.hn x.hc x.hA x.hL x.hC x.hH (w5) HL.h.1 HL.h.2 (HH.out _ (q5.trans ((nE w5.heap.size w5).mono q5.size))).1 (HH.out _ (q5.trans ((nE w5.heap.size w5).mono q5.size))).2) ?_
    rintro e w6 ⟨v6,u6,rfl,o6,b6⟩;obtain ⟨a6,c6,rfl⟩:=zU o6.row;refine ⟨_,rfl,?_⟩;have p6:Bw w5 w6:=qaj (nE w5.heap.size w5) b6 (by simp);have q6:Bw W2 w6:=q5.trans (p6.mono q5.size);have x0:=(q6.cell (p:=(aQ w.heap.size 0)) hl0).trans b0;have x3:=(q6.cell (p:=(aQ w.heap.size 3)) hl0).trans b3;have z6:=p6.size;refine hK.out _ _ (fun _=>⟨x0,x3⟩) ?_;have hHeld:=And.intro x0 x3;clear hK K;refine qbn 6 rfl hHeld ?_;refine yW 7 rfl fun K hK=>?_;go_simp;have t0:(w6.alloc (zQ3)).cell? (aQ w.heap.size 0)=some (.slice x.pa x.pn x.pc):=((zQ w6 _).cell (p:=(aQ w.heap.size 0)) (zL hl0 q6.size)).trans x0;have t3:(w6.alloc (zQ3)).cell? (aQ w.heap.size 3)=some (.slice x.ha x.hn x.hc):=((zQ w6 _).cell (p:=(aQ w.heap.size 3)) (zL hl0 q6.size)).trans x3;refine hK.out _ _ (fun _=>⟨t0,t3⟩) ?_;clear hK K
    (try simp only [Act.put,zD,zE,zF])
    refine yW 8 rfl fun K hK=>?_;go_simp;refine hK.out _ _ (fun h=>?_) ?_
    ·exact absurd h (by decide)
    clear hK K
    (try simp only [Act.put])
    refine yX ?_ _;go_wp2_with fail
    go_meet
    case rel=>
     exact ⟨w6.heap.size,by with_reducible rfl,CpB.start (l5:=W2.heap.size) (by simpa using o5) o6 p6 (by omega) (by omega) (by omega) (by omega) (by omega) (by omega) (fun k hk _=>(zQ w6 _).block k hk) (BoxC.new _ _ _ _ _ _) (fun j=>yD _ _ _ _ rfl),q6.trans ((zQ _ _).mono q6.size)⟩
   ·go_simp
    have t0:(w5.alloc (zQ3)).cell? (aQ w.heap.size 0)=some (.slice x.pa x.pn x.pc):=((zQ w5 _).cell (p:=(aQ w.heap.size 0)) (zL hl0 q5.size)).trans y0;have t3:(w5.alloc (zQ3)).cell? (aQ w.heap.size 3)=some (.slice x.ha x.hn x.hc):=((zQ w5 _).cell (p:=(aQ w.heap.size 3)) (zL hl0 q5.size)).trans y3;refine hK.out _ _ (fun _=>⟨t0,t3⟩) ?_;clear hK K
    (try simp only [Act.put,zD,zE,zF])
    refine yW 5 rfl fun K hK=>?_;refine qag rfl 181 _ _ rfl #[.slice x.ha x.hn x.hc] (by simp [Act.eval]) (yB func181) (qd8 x.ha x.hn x.hc x.hA x.hL x.hC x.hH (w5.alloc (zQ3)) HL.h.1 HL.h.2 (HH.out _ (q5.trans ((zQ w5 (zQ3)).mono q5.size))).1 (HH.out _ (q5.trans ((zQ w5 (zQ3)).mono q5.size))).2) ?_;rintro e w6 ⟨v6,u6,rfl,o6,b6⟩;obtain ⟨a6,c6,rfl⟩:=zU o6.row;refine ⟨_,rfl,?_⟩;have p6:Bw w5 w6:=qaj (zQ w5 (zQ3)) b6 (by simp);have q6:Bw W2 w6:=q5.trans (p6.mono q5.size);have x0:=(q6.cell (p:=(aQ w.heap.size 0)) hl0).trans b0;have x3:=(q6.cell (p:=(aQ w.heap.size 3)) hl0).trans b3;have z6:=p6.size;refine hK.out _ _ (fun _=>⟨x0,x3⟩) ?_;have hHeld:=And.intro x0 x3;clear hK K
    (try simp only [Act.put,zD,zE,zF])
    have bx:=(BoxC.new w5 nS nS nS nS 29).bw b6;obtain ⟨g0,g1,g2,g3⟩:=bx;have gf:∀ j,w6.frozen? ⟨w5.heap.size,j,none⟩=false:=fun j=>((qae b6).2 _ _ (by simp)).trans (yD _ _ _ _ rfl);refine qbn 6 rfl hHeld ?_;refine yW 8 rfl fun K hK=>?_;go_simp;refine hK.out _ _ (fun h=>?_) ?_
    ·exact absurd h (by decide)
    clear hK K
    (try simp only [Act.put])
    refine yX ?_ _;go_wp2_with fail
    go_meet
    case rel=>
     exact ⟨w5.heap.size,by with_reducible rfl,CpB.start (l5:=W2.heap.size) (l6:=w5.heap.size+1) (by simpa using o5) (by simpa using o6) p6 (by omega) (by omega) (by omega) (by omega) (by omega) (by omega) (fun k hk hne=>by repeat (rw [zO _ _ _ _ hne])) (BoxC.set4 ⟨g0,g1,g2,g3⟩ _ _ _ _) (fun j=>by simp only [World.frozen?_setCell];exact gf j),(((q6.setCell q5.size _).setCell q5.size _).setCell q5.size _).setCell q5.size _⟩
  ·go_simp
   have t0:(W2.drew.alloc (zQ3)).cell? (aQ w.heap.size 0)=some (.slice x.pa x.pn x.pc):=((zQ W2.drew _).cell (p:=(aQ w.heap.size 0)) hl0).trans b0;have t3:(W2.drew.alloc (zQ3)).cell? (aQ w.heap.size 3)=some (.slice x.ha x.hn x.hc):=((zQ W2.drew _).cell (p:=(aQ w.heap.size 3)) hl0).trans b3;refine hK.out _ _ (fun _=>⟨t0,t3⟩) ?_;clear hK K
   (try simp only [Act.put,zD,zE,zF])
   refine yW 2 rfl fun K hK=>?_;refine qag rfl 51 _ _ rfl #[.slice x.pa x.pn x.pc] (by simp [Act.eval]) (yB func51) (qfp x.pa x.pn x.pc x.pA x.pL x.pC x.pH (W2.drew.alloc (zQ3)) HL.p.1 HL.p.2 (HP.out _ ((nE W2.heap.size W2).drew.trans (zQ W2.drew (zQ3)))).1 (HP.out _ ((nE W2.heap.size W2).drew.trans (zQ W2.drew (zQ3)))).2) ?_;rintro e w5 ⟨v5,u5,rfl,o5,b5⟩;obtain ⟨a5,c5,rfl⟩:=zU o5.row;refine ⟨_,rfl,?_⟩;have q5:Bw W2 w5:=qaj ((nE W2.heap.size W2).drew.trans (zQ W2.drew (zQ3))) b5 (by simp);have y0:=(q5.cell (p:=(aQ w.heap.size 0)) hl0).trans b0;have y3:=(q5.cell (p:=(aQ w.heap.size 3)) hl0).trans b3;have z5:=q5.size;refine hK.out _ _ (fun _=>⟨y0,y3⟩) ?_;have hHeld:=And.intro y0 y3;clear hK K
   (try simp only [Act.put,zD,zE,zF])
   have zc:W2.heap.size+1<=w5.heap.size:=by have:=b5.size;simpa using this
   refine yW 5 rfl fun K hK=>?_;refine qag rfl 181 _ _ rfl #[.slice x.ha x.hn x.hc] (by simp [Act.eval]) (yB func181) (qd8 x.ha x.hn x.hc x.hA x.hL x.hC x.hH (w5) HL.h.1 HL.h.2 (HH.out _ (q5.trans ((nE w5.heap.size w5).mono q5.size))).1 (HH.out _ (q5.trans ((nE w5.heap.size w5).mono q5.size))).2) ?_;rintro e w6 ⟨v6,u6,rfl,o6,b6⟩;obtain ⟨a6,c6,rfl⟩:=zU o6.row;refine ⟨_,rfl,?_⟩;have p6:Bw w5 w6:=qaj (nE w5.heap.size w5) b6 (by simp);have q6:Bw W2 w6:=q5.trans (p6.mono q5.size);have x0:=(q6.cell (p:=(aQ w.heap.size 0)) hl0).trans b0;have x3:=(q6.cell (p:=(aQ w.heap.size 3)) hl0).trans b3;have z6:=p6.size;refine hK.out _ _ (fun _=>⟨x0,x3⟩) ?_;have hHeld:=And.intro x0 x3;clear hK K
   (try simp only [Act.put,zD,zE,zF])
   have bx:BoxC w6 W2.heap.size nS nS nS nS:=((BoxC.new W2.drew nS nS nS nS 29).bw b5).bw b6;obtain ⟨g0,g1,g2,g3⟩:=bx;have gf:∀ j,w6.frozen? ⟨W2.heap.size,j,none⟩=false:=fun j=>((qae b6).2 _ _ (by omega)).trans (((qae b5).2 _ _ (by simp)).trans (yD _ _ _ _ rfl));refine qbn 6 rfl hHeld ?_;refine yW 8 rfl fun K hK=>?_;go_simp;refine hK.out _ _ (fun h=>?_) ?_
   ·exact absurd h (by decide)
   clear hK K
   (try simp only [Act.put])
   refine yX ?_ _;go_wp2_with fail
   go_meet
   case rel=>
    exact ⟨W2.heap.size,by with_reducible rfl,CpB.start (l5:=W2.heap.size+1) (by simpa using o5) o6 p6 (by omega) (by omega) (by omega) (by omega) (by omega) (by omega) (fun k hk hne=>by repeat (rw [zO _ _ _ _ hne])) (BoxC.set4 ⟨g0,g1,g2,g3⟩ _ _ _ _) (fun j=>by simp only [World.frozen?_setCell];exact gf j),(((q6.setCell (nA _) _).setCell (nA _) _).setCell (nA _) _).setCell (nA _) _⟩
 case rest=>
  obtain ⟨N,rfl,HC⟩:=hcut;clear b0 b1 b2 b3 HP HH;go_wp2_with fail
  go_loopw [4] (fun i wr=>∃ k:Nat,k<=x.sn/\i=.int .i64 k/\Hid ((∃ c vp vs vh up us uh,CpB W2.heap.size N c x.y k 0 wr vp vs nS vh up us (fun _=>nS) uh)/\Bw W2 wr)) (fun i _=>x.sn - (intOf i).toNat)
  case atStart=>
   obtain ⟨⟨c,vp,vh,up,uh,cp⟩,bz⟩:=HC.out;exact ⟨0,nD _,rfl,⟨c,vp,_,vh,up,_,uh,cp⟩,bz⟩
  case round=>
   obtain ⟨k,hk,rfl,HZ⟩:=hrel;clear HC;by_cases hlt:k<x.sn
   ·have hlt':(k:Int)<(x.sn:Int):=by omega
    obtain ⟨⟨c,vp,vs,vh,up,us,uh,cp⟩,bz⟩:=HZ.out;obtain ⟨sa',sc',rfl⟩:=zU cp.o.s.row;obtain ⟨x0,x1,x2,x3⟩:=cp.bx;have xf:=cp.fr;have hN:=cp.lt;obtain ⟨b0,b1,b2,b3⟩:=NB.bw bz;obtain ⟨bs,os,es,s0,s1,s2,s3⟩:=(HG.bw (BW.trans (bz.mono BW.size))).s.at hlt
    have hbs:bs<w.heap.size:=by
     obtain ⟨bs',os',es',s0',-⟩:=HG.s.at hlt;rw [es] at es';cases es';exact zJ w _ s0'
    have hls:=(HG.bw (BW.trans (bz.mono BW.size))).s.lst k hlt;have HLk:=HL.s.2 k hlt;rw [es] at b1;have CP:Hid (CpB W2.heap.size N c x.y k 0 wr vp (.slice sa' k sc') nS vh up us (fun _=>nS) uh):=cp;have LSt:Hid (Sl wr (x.sQ k).ra (x.sQ k).rs/\Sl wr (x.sQ k).oa (x.sQ k).os):=hls;have BZ:Hid (Bw W2 wr):=bz;have hbw:bs<wr.heap.size:=by have:=bz.size;omega
    have hb0w:w.heap.size<wr.heap.size:=by have:=bz.size;omega
    have hsaN : ∀ j, (Value.slice sa' k sc').ownBlock = some j → W2.heap.size ≤ j ∧ j ≠ N := fun j hj => ⟨(cp.o.s.rb j hj).1, fun e => by
     have h2:=(cp.o.s.rb j hj).2;rw [e,cp.cN] at h2
     cases h2⟩
    have HSA:Hid (∀ j,(Value.slice sa' k sc').ownBlock=some j->W2.heap.size<=j/\j≠N):=hsaN;have HE:Hid (x.sa=some (aQ bs os)):=es;clear cp bz hls HZ hsaN es;go_wp2_with fail
    refine qah (fun w'=>w'.cell? (aQ N 1)=some (.slice sa' k sc')/\w'.cell? (aQ w.heap.size 1)=some (.slice (some (aQ bs os)) x.sn x.sc)/\w'.cell? ⟨bs,os+k*4,none⟩=some (iV (x.sQ k).p)/\w'.cell? ⟨bs,os+k*4+1,none⟩=some (.slice (x.sQ k).ra (x.sQ k).rs.length (x.sQ k).rc)/\w'.cell? ⟨bs,os+k*4+2,none⟩=some (.slice (x.sQ k).oa (x.sQ k).os.length (x.sQ k).oc)/\w'.cell? ⟨bs,os+k*4+3,none⟩=some (iV (x.sQ k).c)) (fun i=>i == 11) (by kernel_rfl) ?_;have hHeld:=And.intro x1 (And.intro b1 (And.intro s0 (And.intro s1 (And.intro s2 s3))));refine qa0 [0,1,2,3,4,5,6] ?_;iterate 7 (refine qba rfl hHeld ?_)
    refine qav ?_;refine yW 7 rfl fun K hK=>?_;refine qag rfl 169 _ _ rfl #[stV (x.sQ k).p (x.sQ k).ra (x.sQ k).rs.length (x.sQ k).rc (x.sQ k).oa (x.sQ k).os.length (x.sQ k).oc (x.sQ k).c] (by simp [Act.eval]) (yB func169) (qb3 _ _ _ _ _ _ (x.sQ k).rs (x.sQ k).os wr.drew HLk.1 HLk.2 LSt.1 LSt.2) ?_;rintro e w1 ⟨v1,rfl,o1,d1'⟩;refine ⟨_,rfl,?_⟩;obtain ⟨ra1,rc1,oa1,oc1,rfl,-,-⟩:=o1.read;have q1:Bw wr w1:=(nE wr.heap.size wr).drew.trans d1';have O1:Hid (qaf w1 wr.heap.size (stV (x.sQ k).p ra1 (x.sQ k).rs.length rc1 oa1 (x.sQ k).os.length oc1 (x.sQ k).c) (x.sQ k).p (x.sQ k).rs (x.sQ k).os (x.sQ k).c):=o1;have hc1:∀ b o,b<wr.heap.size->w1.cell? ⟨b,o,none⟩=wr.cell? ⟨b,o,none⟩:=fun b o h=>(qae q1).1 b o h;have hHeld1:=And.intro ((hc1 _ _ hN).trans x1) (And.intro ((hc1 _ _ hb0w).trans b1) (And.intro ((hc1 _ _ hbw).trans s0) (And.intro ((hc1 _ _ hbw).trans s1) (And.intro ((hc1 _ _ hbw).trans s2) ((hc1 _ _ hbw).trans s3)))));have Q1:Hid (Bw wr w1):=q1;refine hK.out _ _ (fun _=>hHeld1) ?_;clear hHeld o1 d1' q1 hc1;clear hK K
    (try simp only [Act.put,zD,zE,zF])
    refine yW 8 rfl fun K hK=>?_;go_simp;have ba:=zQ w1 (oQ1 (x.sQ k).p ra1 (x.sQ k).rs.length rc1 oa1 (x.sQ k).os.length oc1 (x.sQ k).c);have hca:∀ b o,b<wr.heap.size->(w1.alloc (oQ1 (x.sQ k).p ra1 (x.sQ k).rs.length rc1 oa1 (x.sQ k).os.length oc1 (x.sQ k).c)).cell? ⟨b,o,none⟩=w1.cell? ⟨b,o,none⟩:=fun b o h=>(qae ba).1 b o (zL h Q1.size);obtain ⟨e0,e1,e2,e3,e4,e5⟩:=hHeld1;refine hK.out _ _ (fun _=>⟨(hca _ _ hN).trans e0,(hca _ _ hb0w).trans e1,(hca _ _ hbw).trans e2,(hca _ _ hbw).trans e3,(hca _ _ hbw).trans e4,(hca _ _ hbw).trans e5⟩) ?_;clear hca ba;clear hK K
    (try simp only [Act.put,zD,zE,zF])
    refine yW 9 rfl fun K hK=>?_;refine qa4 kndS w1 rfl rfl _ _ rfl 0 (.slice sa' k sc') k _ rfl (CP.o.s.bw Q1.out).row #[.int .i64 (x.sQ k).p,.slice ra1 (x.sQ k).rs.length rc1,.slice oa1 (x.sQ k).os.length oc1,.int .i64 (x.sQ k).c] rfl rfl (by intro u hu;simp at hu;rcases hu with rfl | rfl | rfl | rfl <;> rfl) (by omega) (nD _) ?_;intro v3 w3 o3 g3 q3 n3;obtain ⟨a3,c3,rfl⟩:=zU o3
    have hk3:∀ b,b<wr.heap.size->(b<W2.heap.size\/b=N)->w3.heap[b]? = w1.heap[b]?:=fun b h1 h2=>g3.block b (zL h1 Q1.size) fun e=>by
     have:=HSA.out b e.symm;omega
    have hc3:∀ b o,b<wr.heap.size->(b<W2.heap.size\/b=N)->w3.cell? ⟨b,o,none⟩=w1.cell? ⟨b,o,none⟩:=fun b o h1 h2=>zH (hk3 b h1 h2);have hHeld:=And.intro ((hc3 _ _ hN (.inr rfl)).trans e0) (And.intro ((hc3 _ _ hb0w (.inl hl0)).trans e1) (And.intro ((hc3 _ _ hbw (.inl (by omega))).trans e2) (And.intro ((hc3 _ _ hbw (.inl (by omega))).trans e3) (And.intro ((hc3 _ _ hbw (.inl (by omega))).trans e4) ((hc3 _ _ hbw (.inl (by omega))).trans e5)))));have hfN:∀ j,w3.frozen? ⟨N,j,none⟩=false:=fun j=>(zI (hk3 N hN (.inr rfl))).trans (((qae Q1.out).2 N j hN).trans (xf j));have CN:Hid (CpB W2.heap.size N (rcol c wr.heap.size 2) x.y (k+1) 0 (w3.setCell (aQ N 1) (.slice a3 (k+1) c3)) vp (.slice a3 (k+1) c3) nS vh up (fun j=>if j=k then stV (x.sQ k).p ra1 (x.sQ k).rs.length rc1 oa1 (x.sQ k).os.length oc1 (x.sQ k).c else us j) (fun _=>nS) uh):=CP.state Q1.out O1.out o3 g3 q3;have BN:Hid (Bw W2 (w3.setCell (aQ N 1) (.slice a3 (k+1) c3))):=(Below.grown (BZ.trans (Q1.mono BZ.size)) g3 (zP BZ.size Q1.size) (fun j hj=>(HSA.out j hj).1)).setCell CP.bN _;refine hK.out _ _ (fun _=>hHeld) ?_;clear o3 g3 q3 n3 hk3 hc3;clear hK K;refine qbn 10 rfl hHeld ?_;refine yW 11 rfl fun K hK=>?_;have hcN:=hHeld.1;have hfN1:=hfN 1;go_simp;refine hK.out _ _ (fun h=>?_) ?_
    ·exact absurd h (by decide)
    clear hK K
    (try simp only [Act.put])
    refine yX ?_ _;go_wp2;go_roundw
    case rel=>exact ⟨k+1,by omega,by go_num,⟨_,_,_,_,_,_,_,CN.out⟩,BN.out⟩
    case measure=>simp [intOf];omega
   ·have hkn:k=x.sn:=by omega
    subst hkn;have hsb:∀ wx,Bw W2 wx->wx.cell? ⟨w.heap.size,1,none⟩=some (.slice x.sa x.sn x.sc):=fun wx hb=>(NB.bw hb).2.1;have b1:=hsb wr HZ.2;clear hsb;go_wp2_with fail
    clear b1
    go_loopw [5] (fun i wr=>∃ k:Nat,k<=x.wn/\i=.int .i64 k/\Hid ((∃ c vp vs vw vh up us uw uh,CpB W2.heap.size N c x.y x.sn k wr vp vs vw vh up us uw uh)/\Bw W2 wr)) (fun i _=>x.wn - (intOf i).toNat)
    case atStart=>
     obtain ⟨⟨c,vp,vs,vh,up,us,uh,cp⟩,bz⟩:=HZ.out;exact ⟨0,nD _,rfl,⟨c,vp,vs,_,vh,up,us,_,uh,cp⟩,bz⟩
    case round=>
     clear HZ hlt hk;obtain ⟨k,hk,rfl,HZ⟩:=hrel;by_cases hlt:k<x.wn
     ·have hlt':(k:Int)<(x.wn:Int):=by omega
      obtain ⟨⟨c,vp,vs,vw,vh,up,us,uw,uh,cp⟩,bz⟩:=HZ.out;obtain ⟨wa',wc',rfl⟩:=zU cp.o.t.row;obtain ⟨x0,x1,x2,x3⟩:=cp.bx;have xf:=cp.fr;have hN:=cp.lt;obtain ⟨b0,b1,b2,b3⟩:=NB.bw bz;obtain ⟨bq,oq,es,s0⟩:=(HG.bw (BW.trans (bz.mono BW.size))).w.at hlt
      have hbs:bq<w.heap.size:=by
       obtain ⟨bs',os',es',s0'⟩:=HG.w.at hlt;rw [es] at es';cases es';exact zJ w _ s0'
      have hsr:=srcT ((HG.bw (BW.trans (bz.mono BW.size))).wi k hlt);have HLk:=HL.w.2 k hlt;rw [es] at b2;have CP:Hid (CpB W2.heap.size N c x.y x.sn k wr vp vs (.slice wa' k wc') vh up us uw uh):=cp;have LSt:Hid (Src wr (x.wA k) (fT (x.wH k) (x.wL k))):=hsr;have BZ:Hid (Bw W2 wr):=bz;have hbw:bq<wr.heap.size:=by have:=bz.size;omega
      have hb0w:w.heap.size<wr.heap.size:=by have:=bz.size;omega
      have HSA : Hid (∀ j, (Value.slice wa' k wc').ownBlock = some j → W2.heap.size ≤ j ∧ j ≠ N) := fun j hj => ⟨(cp.o.t.rb j hj).1, fun e => by
       have h2:=(cp.o.t.rb j hj).2;rw [e,cp.cN] at h2
       cases h2⟩
      clear cp bz hsr HZ es;go_wp2_with fail
      refine qah (fun w'=>w'.cell? (aQ N 2)=some (.slice wa' k wc')/\w'.cell? (aQ w.heap.size 2)=some (.slice (some (aQ bq oq)) x.wn x.wc)/\w'.cell? ⟨bq,oq+k,none⟩=some (.slice (x.wA k) (x.wL k) (x.wC k))) (fun i=>i == 12) (by kernel_rfl) ?_;have hHeld:=And.intro x2 (And.intro b2 s0);refine qa0 [0,1,3,4,5,6,7] ?_;iterate 7 (refine qba rfl hHeld ?_)
      refine qav ?_;refine yW 2 rfl fun K hK=>?_;go_simp;have ba:Below wr.drew.heap.size wr.drew (wr.drew.alloc (.cells #[] 94)):=zQ wr.drew _;have hHeld1:(fun w'=>w'.cell? (aQ N 2)=some (.slice wa' k wc')/\w'.cell? (aQ w.heap.size 2)=some (.slice (some (aQ bq oq)) x.wn x.wc)/\w'.cell? ⟨bq,oq+k,none⟩=some (.slice (x.wA k) (x.wL k) (x.wC k))) (wr.drew.alloc (.cells #[] 94)):=⟨((qae ba).1 _ _ hN).trans x2,((qae ba).1 _ _ hb0w).trans b2,((qae ba).1 _ _ hbw).trans s0⟩
      refine hK.out _ _ (fun _=>hHeld1) ?_;clear hHeld ba;clear hK K
      (try simp only [Act.put,zD,zE,zF])
      refine yW 8 rfl fun K hK=>?_;refine qb6 kndT wr.drew rfl rfl _ _ rfl (x.wA k) (x.wL k) (x.wC k) (fT (x.wH k) (x.wL k)) rfl rfl (qho _ _) LSt.out (qio _ _) (zP HLk (by omega)) ?_;intro v1 w1 o1 d1' n1;obtain ⟨a1,c1,rfl⟩:=zU o1;have q1:Bw wr w1:=(nE wr.heap.size wr).drew.trans d1';have O1:Hid (w1.ownsRow wr.heap.size 94 2 (.slice a1 (x.wL k) c1) (x.wL k) (fT (x.wH k) (x.wL k))/\Value.slice a1 (x.wL k) c1≠nS):=⟨o1,n1⟩
      have hc1:∀ b o,b<wr.heap.size->w1.cell? ⟨b,o,none⟩=wr.cell? ⟨b,o,none⟩:=fun b o h=>(qae q1).1 b o h;have hHeld2:=And.intro ((hc1 _ _ hN).trans x2) (And.intro ((hc1 _ _ hb0w).trans b2) ((hc1 _ _ hbw).trans s0));have Q1:Hid (Bw wr w1):=q1;refine hK.out _ _ (fun _=>hHeld2) ?_;clear hHeld1 o1 d1' q1 hc1 n1;clear hK K
      (try simp only [Act.put,zD,zE,zF])
      refine yW 9 rfl fun K hK=>?_;go_simp;have ba:=zQ w1 (.cells #[.slice a1 (x.wL k) c1] 92);have hca:∀ b o,b<wr.heap.size->(w1.alloc (.cells #[.slice a1 (x.wL k) c1] 92)).cell? ⟨b,o,none⟩=w1.cell? ⟨b,o,none⟩:=fun b o h=>(qae ba).1 b o (zL h Q1.size);obtain ⟨e0,e1,e2⟩:=hHeld2;refine hK.out _ _ (fun _=>⟨(hca _ _ hN).trans e0,(hca _ _ hb0w).trans e1,(hca _ _ hbw).trans e2⟩) ?_;clear hca ba;clear hK K
      (try simp only [Act.put,zD,zE,zF])
      refine yW 10 rfl fun K hK=>?_;refine qa4 qmv w1 rfl rfl _ _ rfl 0 (.slice wa' k wc') k _ rfl (CP.o.t.bw Q1.out).row #[.slice a1 (x.wL k) c1] rfl rfl (by intro u hu;simp at hu;subst hu;rfl) (by omega) (nD _) ?_;intro v3 w3 o3 g3 q3 n3;obtain ⟨a3,c3,rfl⟩:=zU o3
      have hk3:∀ b,b<wr.heap.size->(b<W2.heap.size\/b=N)->w3.heap[b]? = w1.heap[b]?:=fun b h1 h2=>g3.block b (zL h1 Q1.size) fun e=>by
       have:=HSA.out b e.symm;omega
      have hc3:∀ b o,b<wr.heap.size->(b<W2.heap.size\/b=N)->w3.cell? ⟨b,o,none⟩=w1.cell? ⟨b,o,none⟩:=fun b o h1 h2=>zH (hk3 b h1 h2);have hHeld:=And.intro ((hc3 _ _ hN (.inr rfl)).trans e0) (And.intro ((hc3 _ _ hb0w (.inl hl0)).trans e1) ((hc3 _ _ hbw (.inl (by omega))).trans e2));have hfN:∀ j,w3.frozen? ⟨N,j,none⟩=false:=fun j=>(zI (hk3 N hN (.inr rfl))).trans (((qae Q1.out).2 N j hN).trans (xf j));have CN:Hid (CpB W2.heap.size N (rcol c wr.heap.size 3) x.y x.sn (k+1) (w3.setCell (aQ N 2) (.slice a3 (k+1) c3)) vp vs (.slice a3 (k+1) c3) vh up us (fun j=>if j=k then .slice a1 (x.wL k) c1 else uw j) uh):=CP.way Q1.out O1.1 O1.2 o3 g3 q3;have BN:Hid (Bw W2 (w3.setCell (aQ N 2) (.slice a3 (k+1) c3))):=(Below.grown (BZ.trans (Q1.mono BZ.size)) g3 (zP BZ.size Q1.size) (fun j hj=>(HSA.out j hj).1)).setCell CP.bN _;refine hK.out _ _ (fun _=>hHeld) ?_;clear o3 g3 q3 n3 hk3 hc3;clear hK K;refine qbn 11 rfl hHeld ?_;refine yW 12 rfl fun K hK=>?_;have hcN:=hHeld.1;have hfN1:=hfN 2;go_simp;refine hK.out _ _ (fun h=>?_) ?_
      ·exact absurd h (by decide)
      clear hK K
      (try simp only [Act.put])
      refine yX ?_ _;go_wp2;go_roundw
      case rel=>exact ⟨k+1,by omega,by go_num,⟨_,_,_,_,_,_,_,_,_,CN.out⟩,BN.out⟩
      case measure=>simp [intOf];omega
     ·have hkn:k=x.wn:=by omega
      subst hkn;obtain ⟨⟨c,vp,vs,vw,vh,up,us,uw,uh,cp⟩,bz⟩:=HZ.out;obtain ⟨pa',pc',rfl⟩:=zU cp.o.p.row;obtain ⟨sa',sc',rfl⟩:=zU cp.o.s.row;obtain ⟨wa',wc',rfl⟩:=zU cp.o.t.row;obtain ⟨ha',hc',rfl⟩:=zU cp.o.h.row;obtain ⟨x0,x1,x2,x3⟩:=cp.bx;replace x0:wr.cell? (aQ N 0)=some (.slice pa' x.pn pc'):=x0;replace x3:wr.cell? (aQ N 3)=some (.slice ha' x.hn hc'):=x3;obtain ⟨r0,r1,r2,r3⟩:=RB.1.bw bz;obtain ⟨-,-,b2,-⟩:=NB.bw bz;have rf:∀ j,wr.frozen? ⟨w.heap.size+1,j,none⟩=false:=fun j=>((qae bz).2 _ _ hl1).trans (RB.2 j);have HO:Hid (OwnS true wr W2.heap.size c x.y (.slice pa' x.pn pc') (.slice sa' x.sn sc') (.slice wa' x.wn wc') (.slice ha' x.hn hc') up us uw uh):=cp.o;have BE:Hid (Bw w wr):=BW.trans (bz.mono BW.size)
      have HO2:Hid (∀ W9:World,(∀ k,w.heap.size+1<k->W9.heap[k]? = wr.heap[k]?)->qam true W9 w.heap.size x.y (sysV pa' x.pn pc' sa' x.sn sc' wa' x.wn wc' ha' x.hn hc')):=fun W9 hk9=>by
       have hm:∀ i k,Cl W2.heap.size c i k->k<wr.heap.size->Cl w.heap.size c i k:=fun i k h _=>⟨by have:=h.1;omega,h.2⟩
       have hq:∀ i k,Cl W2.heap.size c i k->k<wr.heap.size->W9.heap[k]? = wr.heap[k]?:=fun i k h _=>hk9 k (by have:=h.1;omega);have hm9:∀ i k,Cl W2.heap.size c i k->k<W9.heap.size->Cl w.heap.size c i k:=fun i k h _=>⟨by have:=h.1;omega,h.2⟩
       exact ⟨c,_,_,_,_,up,us,uw,uh,rfl,⟨(HO.p.keep (hq 1)).mono (hm9 1),(HO.s.keep (hq 2)).mono (hm9 2),(HO.t.keep (hq 3)).mono (hm9 3),(HO.h.keep (hq 4)).mono (hm9 4)⟩⟩
      clear HZ cp bz HO RB NB HG;go_wp2;refine bodyPost_ret (v:=sysV pa' x.pn pc' sa' x.sn sc' wa' x.wn wc' ha' x.hn hc') (by simp [results,results179,go_sem,r0,r1,r2,r3]) rfl ⟨_,rfl,HO2.out _ ?_,?_⟩
      ·intro k hk
       repeat (rw [zO _ _ _ _ (by simp;omega)])
      ·have:=BE.out
       go_grown
structure EvK (w:World) (N:Nat) (k q v:Int):Prop where
 c0:w.cell? (aQ N 0)=some (iV k)
 c1:w.cell? (aQ N 1)=some (iV q)
 c2:w.cell? (aQ N 2)=some (iV v)
 fr:∀ j,w.frozen? ⟨N,j,none⟩=false
theorem EvK.bw {w w':World} {N:Nat} {k q v:Int} (h:EvK w N k q v) (hb:Bw w w'):EvK w' N k q v:=by
 have hN:=hb.block N (zJ w _ h.c0);exact ⟨(zH hN).trans h.c0,(zH hN).trans h.c1,(zH hN).trans h.c2,fun j=>(zI hN).trans (h.fr j)⟩
theorem EvK.new (w:World) (k q v:Int) (t:TypeId):EvK (w.alloc (.cells #[iV k,iV q,iV v] t)) w.heap.size k q v:=
 ⟨zW _ _ _ 0 (by simp),zW _ _ _ 1 (by simp),zW _ _ _ 2 (by simp),fun j=>yD _ _ _ _ (by simp)⟩
theorem EvK.put {w:World} {N:Nat} {k q v:Int} (h:EvK w N k q v) (k' q' v':Int):EvK (((w.setCell (aQ N 0) (iV k')).setCell (aQ N 1) (iV q')).setCell (aQ N 2) (iV v')) N k' q' v':=by
 obtain ⟨h0,h1,h2,hf⟩:=h;exact ⟨by go_cell,by go_cell,by go_cell,fun j=>by simpa using hf j⟩
def Sy.nk (y:Sy) (p:Nat):Int:=nxK (y.pH p) (y.pL p) (y.sS p).p (y.sS p).rs (y.sS p).os (y.sS p).c
def Sy.nq (y:Sy) (p:Nat):Int:=nxP (y.pH p) (y.pL p) (y.sS p).p (y.sS p).rs (y.sS p).os (y.sS p).c
def Sy.nv (y:Sy) (p:Nat):Int:=nxW (y.pH p) (y.pL p) (y.sS p).p (y.sS p).rs (y.sS p).os (y.sS p).c
def tkS (y:Sy) (p:Nat) (f:Int):Int:=if belB f y.pn=true then (if y.wL (f.toNat*y.pn+p)=0 then 3 else if (y.wH (f.toNat*y.pn+p) 0).m=true then 5 else 0) else 2
def fuS (y:Sy) (p:Nat) (k q:Int):Bool:=decide (200<=y.hL p) || (k == 2 && decide (12<=y.wL (p*y.pn+q.toNat)))
def cmS (y:Sy) (p:Nat) (f:Int):Int:=if (y.sS p).c≠0 then 6 else if fuS y p (y.nk p) (y.nq p)=true then 4 else if y.nk p=3 then tkS y p (if y.nq p=9 then f else y.nq p) else 0
theorem qwz {g:Nat->I5} {n:Nat} {eh:Nat->E3} (hp:qac g n 4=true):∀ k S,rp g n eh k=some S->OkS n S
 | 0,S,h=>by
  simp only [rp,nG] at h;subst h;exact qjr hp
 | k+1,S,h=>by
  simp only [rp] at h;cases hr:rp g n eh k with
  | none=>rw [hr] at h;cases h
  | some S0=>
   rw [hr] at h;simp only [Option.bind_some,qey] at h
   split at h
   ·rename_i hd
    simp only [nG] at h;subst h;exact qny hd
   ·cases h
theorem Sy.Ok.four {y:Sy} (h:y.Ok) {p:Nat} (hp:p<y.pn):qac (y.pH p) (y.pL p) 4=true:=(qbe (h.rp p hp)).1
theorem Sy.Ok.le200 {y:Sy} (h:y.Ok) {p:Nat} (hp:p<y.pn):y.hL p<=200:=(qbe (h.rp p hp)).2.1
theorem Sy.Ok.st {y:Sy} (h:y.Ok) {p:Nat} (hp:p<y.pn):OkS (y.pL p) (y.sS p):=qwz (h.four hp) _ _ (qbe (h.rp p hp)).2.2
theorem Sy.Ok.right {y:Sy} (h:y.Ok) {p:Nat} (hp:p<y.pn) (hc:(y.sS p).c=0):qbv (y.pH p) (y.pL p) (y.sS p).p (y.sS p).rs (y.sS p).os 0=true:=by
 have:=qom (h.four hp) (h.st hp) hc
 rwa [hc] at this
theorem Sy.Ok.peer {y:Sy} (h:y.Ok) {p:Nat} (hp:p<y.pn) (hk:y.nk p=2):0<=y.nq p/\y.nq p<y.pn:=by
 unfold Sy.nk nxK at hk;unfold Sy.nq nxP;by_cases hr:qbv (y.pH p) (y.pL p) (y.sS p).p (y.sS p).rs (y.sS p).os (y.sS p).c=true
 ·rw [nC hr] at hk ⊢
  obtain ⟨-,h4,-⟩:=qbb hr;obtain ⟨-,⟨k,ek,hkl⟩,-⟩:=qbw h4;have e:(y.sS p).p.toNat=k:=by omega
  rw [e] at hk ⊢;have h5:=qb0 (h.pr p hp) hkl;simp only [qak,nH] at h5;have h6:=h5.2
  have e6:(y.pH p k).o=6:=by
   unfold evK at hk;by_cases e6:(y.pH p k).o=6
   ·exact e6
   ·rw [nB e6] at hk
    split at hk
    ·cases hk
    ·split at hk <;> cases hk
  rw [evP,nC e6];simp [qbi,e6,inB] at h6;omega
 ·rw [nB hr] at hk
  cases hk
theorem Sy.Ok.way {y:Sy} (h:y.Ok) {a b:Nat} (ha:a<y.pn) (hb:b<y.pn):y.wL (a*y.pn+b)<=12:=(h.wa a ha b hb).le
theorem ql2 {a b n:Nat} (ha:a<n) (hb:b<n):a*n+b<n*n:=by
 have:=Nat.mul_le_mul_right n (show a+1<=n by omega);rw [Nat.add_mul,Nat.one_mul] at this;omega
variable {z:Bool}
def Sy.setW (y:Sy) (i m:Nat) (H:Nat->I2):Sy:={ y with wL:=fun j=>if j=i then m else y.wL j,wH:=fun j=>if j=i then H else y.wH j }
def Sy.setH (y:Sy) (i m:Nat) (H:Nat->E3):Sy:={ y with hL:=fun j=>if j=i then m else y.hL j,hH:=fun j=>if j=i then H else y.hH j }
def Sy.setS (y:Sy) (i:Nat) (T:S4):Sy:={ y with sS:=fun j=>if j=i then T else y.sS j }
theorem OwnS.putW {w w1:World} {B:Nat} {c:Nat->Nat} {y:Sy} {vp vs vh:Value} {g cap:Nat} {up us uw uh:Nat->Value} (o:OwnS z w B c y vp vs (sG g y.wn cap) vh up us uw uh) {i:Nat} (hi:i<y.wn) {u':Value} {m:Nat} {H':Nat->I2} (hB:B<=w.heap.size) (hs:w.heap.size<=w1.heap.size) (g1:∀ k,k<w.heap.size->(uw i).ownBlock≠some k->w1.heap[k]? = w.heap[k]?)
  (hu:w1.ownsRow 0 94 2 u' m (fT H' m)) (hne:u'≠nS) (hb:∀ k,u'.ownBlock=some k->(uw i).ownBlock=some k\/w.heap.size<=k):
  OwnS z (w1.setCell (aQ g i) u') B (rcol c w.heap.size 3) (y.setW i m H') vp vs (sG g y.wn cap) vh up us (fun j=>if j=i then u' else uw j) uh:=by
 have hP:∀ q k,Cl B c q k->k<w.heap.size->Cl B (rcol c w.heap.size 3) q k:=fun q k h hl=>h.old hl;have hg:Cl B c 3 g:=o.t.rb g rfl;have hgl:g<w.heap.size:=(o.t.row.lt g rfl).2
 have hk:∀ q,q≠3->∀ k,Cl B (rcol c w.heap.size 3) q k->k<w.heap.size->(w1.setCell ⟨g,i,none⟩ u').heap[k]? = w.heap[k]?:=fun q hq k h hl=>by
  have e:c k=q:=(qat hl).symm.trans h.2;refine (zO _ _ _ _ fun ek=>hq ?_).trans (g1 k hl fun ek=>hq ?_)
  ·rw [<- e,ek];exact hg.2
  ·rw [<- e];exact (o.t.ob i hi k ek).2
 refine ⟨(o.p.mono (hP 1)).keep (hk 1 (by decide)),(o.s.mono (hP 2)).keep (hk 2 (by decide)),?_,(o.h.mono (hP 4)).keep (hk 4 (by decide))⟩;have h:=LL.put o.t hi hs g1 hu (fun _=>hne) hb (P':=Cl B (rcol c w.heap.size 3) 3) (hP 3) fun k h _=>⟨zP hB h,qai h⟩
 have e:(fun j=>if j=i then fT H' m else fT (y.wH j) (y.wL j))=fun j=>fT ((y.setW i m H').wH j) ((y.setW i m H').wL j):=funext fun j=>by
  by_cases q:j=i
  ·simp [Sy.setW,q]
  ·simp [Sy.setW,q]
 rw [e] at h;exact h
theorem OwnS.putH {w w1:World} {B:Nat} {c:Nat->Nat} {y:Sy} {vp vs vw:Value} {g cap:Nat} {up us uw uh:Nat->Value} (o:OwnS z w B c y vp vs vw (sG g y.hn cap) up us uw uh) {i:Nat} (hi:i<y.hn) {u':Value} {m:Nat} {H':Nat->E3} (hB:B<=w.heap.size) (hs:w.heap.size<=w1.heap.size) (g1:∀ k,k<w.heap.size->(uh i).ownBlock≠some k->w1.heap[k]? = w.heap[k]?)
  (hu:w1.ownsRow 0 47 3 u' m (fE H' m)) (hne:u'≠nS) (hb:∀ k,u'.ownBlock=some k->(uh i).ownBlock=some k\/w.heap.size<=k):
  OwnS z (w1.setCell (aQ g i) u') B (rcol c w.heap.size 4) (y.setH i m H') vp vs vw (sG g y.hn cap) up us uw (fun j=>if j=i then u' else uh j):=by
 have hP:∀ q k,Cl B c q k->k<w.heap.size->Cl B (rcol c w.heap.size 4) q k:=fun q k h hl=>h.old hl;have hg:Cl B c 4 g:=o.h.rb g rfl;have hgl:g<w.heap.size:=(o.h.row.lt g rfl).2
 have hk:∀ q,q≠4->∀ k,Cl B (rcol c w.heap.size 4) q k->k<w.heap.size->(w1.setCell ⟨g,i,none⟩ u').heap[k]? = w.heap[k]?:=fun q hq k h hl=>by
  have e:c k=q:=(qat hl).symm.trans h.2;refine (zO _ _ _ _ fun ek=>hq ?_).trans (g1 k hl fun ek=>hq ?_)
  ·rw [<- e,ek];exact hg.2
  ·rw [<- e];exact (o.h.ob i hi k ek).2
 refine ⟨(o.p.mono (hP 1)).keep (hk 1 (by decide)),(o.s.mono (hP 2)).keep (hk 2 (by decide)),(o.t.mono (hP 3)).keep (hk 3 (by decide)),?_⟩;have h:=LL.put o.h hi hs g1 hu (fun _=>hne) hb (P':=Cl B (rcol c w.heap.size 4) 4) (hP 4) fun k h _=>⟨zP hB h,qai h⟩
 have e:(fun j=>if j=i then fE H' m else fE (y.hH j) (y.hL j))=fun j=>fE ((y.setH i m H').hH j) ((y.setH i m H').hL j):=funext fun j=>by
  by_cases q:j=i
  ·simp [Sy.setH,q]
  ·simp [Sy.setH,q]
 rw [e] at h;exact h
theorem OwnS.putS {w w1:World} {B:Nat} {c:Nat->Nat} {y:Sy} {vp vw vh:Value} {g cap:Nat} {up us uw uh:Nat->Value} (o:OwnS z w B c y vp (sG g y.sn cap) vw vh up us uw uh) {i:Nat} (hi:i<y.sn) {ra oa:Option Addr} {rn rc on oc:Nat} {p code:Int} {T:S4} (hB:B<=w.heap.size) (b1:Bw w w1) (hu:qaf w1 w.heap.size (stV p ra rn rc oa on oc code) T.p T.rs T.os T.c):
  OwnS z ((((w1.setCell ⟨g,i*4,none⟩ (iV p)).setCell ⟨g,i*4+1,none⟩ (.slice ra rn rc)).setCell ⟨g,i*4+2,none⟩ (.slice oa on oc)).setCell ⟨g,i*4+3,none⟩ (iV code)) B (rcol c w.heap.size 2) (y.setS i T) vp (sG g y.sn cap) vw vh up (fun j=>if j=i then stV p ra rn rc oa on oc code else us j) uw uh:=by
 have hP:∀ q k,Cl B c q k->k<w.heap.size->Cl B (rcol c w.heap.size 2) q k:=fun q k h hl=>h.old hl;have hg:Cl B c 2 g:=o.s.rb g rfl
 have hk:∀ q,q≠2->∀ k,Cl B (rcol c w.heap.size 2) q k->k<w.heap.size->((((w1.setCell ⟨g,i*4,none⟩ (iV p)).setCell ⟨g,i*4+1,none⟩ (.slice ra rn rc)).setCell ⟨g,i*4+2,none⟩ (.slice oa on oc)).setCell ⟨g,i*4+3,none⟩ (iV code)).heap[k]? = w.heap[k]?:=fun q hq k h hl=>by
  have e:c k=q:=(qat hl).symm.trans h.2;have hne:k≠g:=fun ek=>hq (by rw [<- e,ek];exact hg.2);exact ((zO _ _ _ _ hne).trans ((zO _ _ _ _ hne).trans ((zO _ _ _ _ hne).trans (zO _ _ _ _ hne)))).trans (b1.block k hl)
 exact ⟨(o.p.mono (hP 1)).keep (hk 1 (by decide)),LS.put o.s hi b1 hu (hP 2) fun k h _=>⟨zP hB h,qai h⟩,(o.t.mono (hP 3)).keep (hk 3 (by decide)),(o.h.mono (hP 4)).keep (hk 4 (by decide))⟩
def Sy.way (y:Sy) (p:Nat) (k q v:Int):Sy:=
 { y with
  wL:=if k=2 then fun j=>if j=p*y.pn+q.toNat then y.wL (p*y.pn+q.toNat)+1 else y.wL j
   else if k=3 then fun j=>if j=q.toNat*y.pn+p then y.wL (q.toNat*y.pn+p) - 1 else y.wL j else y.wL
  wH:=if k=2 then fun j=>if j=p*y.pn+q.toNat then (fun i=>if i=y.wL (p*y.pn+q.toNat) then ⟨false,v⟩ else y.wH (p*y.pn+q.toNat) i) else y.wH j
   else if k=3 then fun j=>if j=q.toNat*y.pn+p then (fun i=>y.wH (q.toNat*y.pn+p) (i+1)) else y.wH j else y.wH }
theorem Sy.way_send (y:Sy) (p q:Nat) (v:Int):y.way p 2 q v=y.setW (p*y.pn+q) (y.wL (p*y.pn+q)+1) (fun i=>if i=y.wL (p*y.pn+q) then ⟨false,v⟩ else y.wH (p*y.pn+q) i):=by
 simp [Sy.way,Sy.setW]
theorem Sy.way_take (y:Sy) (p q:Nat) (v:Int):y.way p 3 q v=y.setW (q*y.pn+p) (y.wL (q*y.pn+p) - 1) (fun i=>y.wH (q*y.pn+p) (i+1)):=by
 simp [Sy.way,Sy.setW]
theorem Sy.way_no (y:Sy) (p:Nat) {k:Int} (h2:k≠2) (h3:k≠3) (q v:Int):y.way p k q v=y:=by
 simp [Sy.way,h2,h3]
theorem qql (H:Nat->I2) (x:I2) (n:Nat):fT (fun i=>if i=n then x else H i) (n+1)=fT H n ++ cT x:=by
 show flat (fun i=>cT (if i=n then x else H i)) n ++ cT (if n=n then x else H n)=flat (fun i=>cT (H i)) n ++ cT x;rw [nC rfl]
 congr 1
 exact qcc fun i hi=>by rw [nB (by omega)]
theorem qqj (H:Nat->E3) (x:E3) (n:Nat):fE (fun i=>if i=n then x else H i) (n+1)=fE H n ++ cE x:=by
 show flat (fun i=>cE (if i=n then x else H i)) n ++ cE (if n=n then x else H n)=flat (fun i=>cE (H i)) n ++ cE x;rw [nC rfl]
 congr 1
 exact qcc fun i hi=>by rw [nB (by omega)]
def Sy.evt (y:Sy) (p:Nat) (k q v:Int):Sy:=
 (y.setS p (doS (y.pH p) (y.pL p) (y.sS p).p (y.sS p).rs (y.sS p).os (y.sS p).c k q v)).setH p (y.hL p+1) (fun i=>if i=y.hL p then ⟨k,q,v⟩ else y.hH p i)
def Sy.eq (y:Sy) (p:Nat) (f:Int):Int:=if y.nk p=3 then (if y.nq p=9 then f else y.nq p) else y.nq p
def Sy.ev (y:Sy) (p:Nat) (f:Int):Int:=if y.nk p=3 then (y.wH ((y.eq p f).toNat*y.pn+p) 0).v else y.nv p
def Sy.step (y:Sy) (p:Nat) (f:Int):Sy:=if cmS y p f=0 then (y.way p (y.nk p) (y.eq p f) (y.ev p f)).evt p (y.nk p) (y.eq p f) (y.ev p f) else y
theorem Sy.way_evt (y:Sy) (p:Nat) (k q v:Int):(y.way p k q v).evt p k q v=(y.evt p k q v).way p k q v:=rfl
theorem Sy.step_no {y:Sy} {p:Nat} {f:Int} (h:cmS y p f≠0):y.step p f=y:=nB h
variable {z:Bool}
def adOf:Value->Option Addr
 | .slice a _ _=>a
 | _=>none
def cpOf:Value->Nat
 | .slice _ _ c=>c
 | _=>0
def fdOf (v:Value) (i:Nat):Value:=(cellsL v).getD i nS
def Sy.sysIn (y:Sy) (vp vs vw vh:Value) (up us uw uh:Nat->Value):SysIn:=
 ⟨adOf vp, y.pn, cpOf vp, fun i => adOf (up i), y.pL, fun i => cpOf (up i), y.pH,
  adOf vs,y.sn,cpOf vs,fun i=>⟨(y.sS i).p,adOf (fdOf (us i) 1),cpOf (fdOf (us i) 1),(y.sS i).rs,adOf (fdOf (us i) 2),cpOf (fdOf (us i) 2),(y.sS i).os,(y.sS i).c⟩,
  adOf vw,y.wn,cpOf vw,fun i=>adOf (uw i),y.wL,fun i=>cpOf (uw i),y.wH,
  adOf vh,y.hn,cpOf vh,fun i=>adOf (uh i),y.hL,fun i=>cpOf (uh i),y.hH⟩
theorem qe9 {e:TypeId} {sz:Nat} {E:TypeId} {w:World} {P:Nat->Prop} {v:Value} {n:Nat} {u:Nat->Value} {L:Nat->Nat} {c:Nat->List Value} (o:LL z e sz E w P v n u L c):RowS w (adOf v) n fun i=>.slice (adOf (u i)) (L i) (cpOf (u i)):=by
 rcases Nat.eq_zero_or_pos n with h | h
 ·exact .inl h
 ·obtain ⟨g,cap,rfl,-,hg,-,-⟩:=o.cell h
  refine .inr ⟨g,0,rfl,hg,fun i hi=>?_⟩;obtain ⟨g',cap',ew,-,-,hc,-⟩:=o.cell hi;simp only [Value.slice.injEq,nG,Addr.mk.injEq,and_true,true_and] at ew;obtain ⟨rfl,rfl⟩:=ew;obtain ⟨a,c',eu⟩:=zU (o.own i hi);show w.cell? ⟨g,0+i,none⟩=some (.slice (adOf (u i)) (L i) (cpOf (u i)));rw [nL,hc,eu];rfl
theorem sl_v {w:World} {B:Nat} {e:TypeId} {sz n:Nat} {v:Value} {xs:List Value} (o:w.ownsRow B e sz v n xs):v=.slice (adOf v) n (cpOf v):=by
 obtain ⟨a,c,rfl⟩:=zU o;rfl
theorem OwnS.v {w:World} {B:Nat} {c:Nat->Nat} {y:Sy} {vp vs vw vh:Value} {up us uw uh:Nat->Value} (o:OwnS z w B c y vp vs vw vh up us uw uh):(y.sysIn vp vs vw vh up us uw uh).v=.agg #[vp,vs,vw,vh]:=by
 have e1:=sl_v o.p.row;have e2:=sl_v o.s.row;have e3:=sl_v o.t.row;have e4:=sl_v o.h.row
 conv=>rhs;rw [e1,e2,e3,e4]
 rfl
theorem qro {w:World} {B sz n:Nat} {e:TypeId} {u:Value} {xs:List Value} (o:w.ownsRow B e sz u n xs):n=0\/u≠.slice none 0 0:=by
 rcases o.2 with ⟨_,h⟩ | ⟨b,cap,cur,rfl,_⟩
 ·exact .inl h
 ·exact .inr (fun e=>by cases e)
theorem qvt {w:World} {B n:Nat} {u:Value} {g:Nat->I2} (o:w.ownsRow B 94 2 u n (fT g n)):ItL w (adOf u) n g:=by
 rcases qro o with h | h
 ·exact .inl h
 ·obtain ⟨b,cap,eu,hb,hI,-⟩:=atT o h
  exact .inr ⟨b,0,by rw [eu];rfl,hb,hI⟩
theorem qvn {w:World} {B n:Nat} {u:Value} {g:Nat->E3} (o:w.ownsRow B 47 3 u n (fE g n)):EvL w (adOf u) n g:=by
 rcases qro o with h | h
 ·exact .inl h
 ·obtain ⟨b,cap,eu,hb,hI,-⟩:=atE o h
  exact .inr ⟨b,0,by rw [eu];rfl,hb,hI⟩
theorem OwnS.g {w:World} {B:Nat} {c:Nat->Nat} {y:Sy} {vp vs vw vh:Value} {up us uw uh:Nat->Value} (o:OwnS z w B c y vp vs vw vh up us uw uh):SysG w (y.sysIn vp vs vw vh up us uw uh):=by
 refine ⟨qe9 o.p,fun i hi=>?_,?_,qe9 o.t,fun i hi=>?_,qe9 o.h,fun i hi=>?_⟩
 ·obtain ⟨b,cap,eu,hb,hI,-⟩:=atI (o.p.own i hi) (o.p.nn nzI i hi)
  exact ⟨b,by show adOf (up i)=_;rw [eu];rfl,hb,hI⟩
 ·refine ⟨?_,fun i hi=>?_⟩
  ·rcases Nat.eq_zero_or_pos y.sn with h | h
   ·exact .inl h
   ·obtain ⟨g,cap,rfl,-,hg,-,-⟩:=o.s.cell h
    refine .inr ⟨g,0,rfl,hg,fun i hi=>?_⟩;obtain ⟨g',cap',ew,-,-,hc,-⟩:=o.s.cell hi;simp only [Value.slice.injEq,nG,Addr.mk.injEq,and_true,true_and] at ew;obtain ⟨rfl,rfl⟩:=ew;obtain ⟨ra,rc,oa,oc,eu,h0,h1,h2,h3⟩:=hc;show w.cell? ⟨g,0+i*4,none⟩=some (iV (y.sS i).p)/\w.cell? ⟨g,0+i*4+1,none⟩=some (.slice (adOf (fdOf (us i) 1)) (y.sS i).rs.length (cpOf (fdOf (us i) 1)))/\w.cell? ⟨g,0+i*4+2,none⟩=some (.slice (adOf (fdOf (us i) 2)) (y.sS i).os.length (cpOf (fdOf (us i) 2)))/\w.cell? ⟨g,0+i*4+3,none⟩=some (iV (y.sS i).c);rw [nL,eu];exact ⟨h0,h1,h2,h3⟩
  ·obtain ⟨g,cap,-,-,-,⟨ra,rc,oa,oc,eu,-⟩,-⟩:=o.s.cell hi
   have h4:=o.s.own i hi;rw [eu] at h4;show Sl w (adOf (fdOf (us i) 1)) (y.sS i).rs/\Sl w (adOf (fdOf (us i) 2)) (y.sS i).os;rw [eu];exact ⟨h4.parts.1.slOf,h4.parts.2.1.slOf⟩
 ·exact qvt (o.t.own i hi)
 ·exact qvn (o.h.own i hi)
variable {z:Bool}
theorem qct {t e:TypeId} {bytes:Nat} (K:Kind t e 1 bytes) (n:Nat) (hn:n<=1048576):∃ cs:Array Value,cs.size=n/\∀ w:World,(Instr.makeSlice t (iV 0) (iV (n:Int))).run prog w=.ok (sG w.heap.size 0 n) (w.alloc (.cells cs e)):=by
 obtain ⟨i,z,hi,hz,hs,hb,hzs⟩:=K.inf;refine ⟨madeCells z.cells n,size_madeCells _ _,fun w=>?_⟩
 have hby:i.bytes*n<=281474976710656:=by
  rw [hb];exact zP (Nat.mul_le_mul K.sml hn) (by omega)
 have hby':(i.bytes:Int)*(n:Int)<=281474976710656:=by rw [<- Int.natCast_mul];exact Int.ofNat_le.2 hby
 have h:=run_make (P:=prog) w t e i z K.und hi hz .i64 .i64 0 (n:Int) (by omega) (by omega) hby' (by omega);rw [hs,Nat.mul_one,nF] at h;exact h
theorem LL.made (e:TypeId) (sz:Nat) (E:TypeId) (w:World) (cs:Array Value) (n:Nat) (hn:n<=1048576) (hc:cs.size=n) (P:Nat->Prop) (hP:P w.heap.size) (u:Nat->Value) (L:Nat->Nat) (c:Nat->List Value):LL z e sz E (w.alloc (.cells cs E)) P (sG w.heap.size 0 n) 0 u L c:=
 ⟨World.ownsRow_made (base:=0) (e:=E) (size:=1) w cs n (nD _) (by unfold maxLen;omega) (by rw [hc,Nat.mul_one]),fun i hi=>(by omega),fun k hk=>(by cases hk;exact hP),fun i hi=>(by omega),fun i hi=>(by omega),fun i j hi=>(by omega),fun i hi=>(by omega)⟩
theorem qkp (b off n cap:Nat) (H:Nat->I5) (w:World) (hn:n<=1048576) (hI:Src w (some (aQ b off)) (fI H n)):
  Calls prog 94 #[.slice (some (aQ b off)) n cap] w fun e w'=>∃ a c,e=.returned (.slice a n c)/\w'.ownsRow w.heap.size 85 5 (.slice a n c) n (fI H n)/\Value.slice a n c≠nS/\Bw w w':=by
 have HI:Hid (Src w (some (aQ b off)) (fI H n)):=hI;have he:∀ wx:World,(binOp .eql 88 (.slice (some ⟨b,off,none⟩) n cap) nS).run prog wx=.ok (.bool false) wx:=fun wx=>by kernel_rfl
 clear hI
 go_enter func94,ntmps94
 go_wp2_with (at_builtin;refine qbs kndI w rfl rfl _ _ rfl (some (aQ b off)) n cap (fI H n) rfl rfl (qqk _ _) HI.out (quu _ _) (by omega) ?_;intro v4 w4 o4 b4 n4;obtain ⟨a4,c4,rfl⟩:=zU o4;have F4:Hid (w4.ownsRow w.heap.size 85 5 (.slice a4 n c4) n (fI H n)/\Value.slice a4 n c4≠nS/\Bw w w4):=⟨o4,n4,b4⟩;clear o4 b4 n4)
 go_ret;exact ⟨_,_,rfl,F4.out⟩
theorem qdz (a0:Option Addr) (n cap:Nat) (A:Nat->Option Addr) (L C:Nat->Nat) (H:Nat->Nat->I5) (w:World) (hn:n<=1048576) (hL:∀ i,i<n->L i<=1048576) (hr:RowS w a0 n fun i=>.slice (A i) (L i) (C i)) (hI:∀ i,i<n->∃ b off,A i=some ⟨b,off,none⟩/\Src w (A i) (fI (H i) (L i))):
  Calls prog 48 #[.slice a0 n cap] w fun e w'=>∃ v u,e=.returned v/\LI z w' (fun k=>w.heap.size<=k/\k<w'.heap.size) v n u L H/\Bw w w':=by
 have hn':(n:Int)<=1048576:=by omega
 obtain ⟨cs,hcs,hmk⟩:=qct qtc n hn;have HCS:Hid (cs.size=n):=hcs;have HR:Hid (RowS w a0 n fun i=>.slice (A i) (L i) (C i)):=hr;have HI:Hid (∀ i,i<n->∃ b off,A i=some ⟨b,off,none⟩/\Src w (A i) (fI (H i) (L i))):=hI;have HL:Hid (∀ i,i<n->L i<=1048576):=hL;clear hr hI hL hcs
 go_enter func48,ntmps48
 go_wp2_with fail
 clear hmk
 go_loopw [3,11] (fun v i wr=>∃ k:Nat,k<=n/\i=.int .i64 k/\Hid ((∃ u,LI z wr (fun b=>w.heap.size<=b/\b<wr.heap.size) v k u L H)/\Bw w wr)) (fun _ i _=>n - (intOf i).toNat)
 case atStart=>exact ⟨0,nD _,rfl,⟨fun _=>.slice none 0 0,LL.made _ _ _ w _ n hn HCS.out _ (by simp) _ _ _⟩,zQ _ _⟩
 case round=>
  obtain ⟨k,hk,rfl,HZ⟩:=hrel;by_cases hlt:k<n
  ·have hlt':(k:Int)<(n:Int):=by omega
   obtain ⟨b,off,rfl,ck⟩:=(HR.bw HZ.2).at hlt;have hbl:b<wr.heap.size:=zJ wr _ ck;obtain ⟨b2,o2,ea,hsr⟩:=HI.out k hlt;rw [ea] at hsr ck;have HS:Hid (Src wr (some (aQ b2 o2)) (fI (H k) (L k))):=hsr.bw HZ.2;have HLk:Hid (L k<=1048576):=HL.out k hlt;have hk2:Hid (k<=2000000):=by show k<=2000000;omega
   obtain ⟨⟨u,oz⟩,bz⟩:=HZ.out;have OZ:Hid (LI z wr (fun b=>w.heap.size<=b/\b<wr.heap.size) u3 k u L H):=oz;have BZ:Hid (Bw w wr):=bz;clear oz bz HZ hsr ea;go_wp2_with fail
   refine (qkp b2 o2 (L k) (C k) (H k) wr HLk.out HS.out).mono ?_;rintro e w4 ⟨a4,c4,rfl,o4,n4,b4⟩;have F4:Hid (w4.ownsRow wr.heap.size 85 5 (.slice a4 (L k) c4) (L k) (fI (H k) (L k))/\Bw wr w4/\Value.slice a4 (L k) c4≠nS):=⟨o4,b4,n4⟩
   clear o4 b4 n4 ck hbl;go_wp2_with (at_builtin;refine qao qtc w4 rfl rfl _ _ rfl 0 u3 k _ rfl (OZ.bw F4.2.1).row #[.slice a4 (L k) c4] rfl rfl (by intro u hu;simp at hu;subst hu;rfl) hk2.out (nD _) ?_;intro v5 w5 o5 g5 q5 n5;have F5:Hid (LI z w5 (fun b=>w.heap.size<=b/\b<w5.heap.size) v5 (k+1) (fun j=>if j=k then .slice a4 (L k) c4 else u j) L H/\Bw w w5):=⟨OZ.push F4.2.1 F4.1 (fun _=>F4.2.2) o5 g5 q5 (fun j hj _=>⟨hj.1,zL hj.2 (zP F4.2.1.size g5.size)⟩) (fun j hj hj'=>⟨zP BZ.size hj,hj'⟩),Below.grown (BZ.trans (F4.2.1.mono BZ.size)) g5 (zP BZ.size F4.2.1.size) (fun j hj=>(OZ.rb j hj).1)⟩;clear o5 g5 q5 n5)
   go_roundw
   case rel=>exact ⟨k+1,by omega,by go_num,⟨_,F5.1⟩,F5.2⟩
   case measure=>simp [intOf];omega
  ·have hkn:k=n:=by omega
   subst hkn;go_wp2;go_ret;obtain ⟨⟨u,oz⟩,bz⟩:=HZ.out;exact ⟨_,u,rfl,oz,bz⟩
theorem qdq (b off n cap:Nat) (H:Nat->I2) (w:World) (hn:n<=1048576) (hI:Src w (some (aQ b off)) (fT H n)):
  Calls prog 109 #[.slice (some (aQ b off)) n cap] w fun e w'=>∃ a c,e=.returned (.slice a n c)/\w'.ownsRow w.heap.size 94 2 (.slice a n c) n (fT H n)/\Value.slice a n c≠nS/\Bw w w':=by
 have HI:Hid (Src w (some (aQ b off)) (fT H n)):=hI;have he:∀ wx:World,(binOp .eql 92 (.slice (some ⟨b,off,none⟩) n cap) nS).run prog wx=.ok (.bool false) wx:=fun wx=>by kernel_rfl
 clear hI
 go_enter func109,ntmps109
 go_wp2_with (at_builtin;refine qbs kndT w rfl rfl _ _ rfl (some (aQ b off)) n cap (fT H n) rfl rfl (qho _ _) HI.out (qio _ _) (by omega) ?_;intro v4 w4 o4 b4 n4;obtain ⟨a4,c4,rfl⟩:=zU o4;have F4:Hid (w4.ownsRow w.heap.size 94 2 (.slice a4 n c4) n (fT H n)/\Value.slice a4 n c4≠nS/\Bw w w4):=⟨o4,n4,b4⟩;clear o4 b4 n4)
 go_ret;exact ⟨_,_,rfl,F4.out⟩
theorem qh8 (w:World):
  Calls prog 109 #[nS] w (rB w nS):=by
 have he:∀ wx:World,(binOp .eql 92 nS nS).run prog wx=.ok (.bool true) wx:=fun wx=>by kernel_rfl
 go_enter func109,ntmps109
 go_wp2;go_ret;exact ⟨rfl,nE _ _⟩
theorem qf6 (a0:Option Addr) (n cap:Nat) (A:Nat->Option Addr) (L C:Nat->Nat) (H:Nat->Nat->I2) (w:World) (hn:n<=1048576) (hL:∀ i,i<n->L i<=1048576) (hr:RowS w a0 n fun i=>.slice (A i) (L i) (C i)) (hI:∀ i,i<n->(∃ b off,A i=some ⟨b,off,none⟩/\Src w (A i) (fT (H i) (L i)))\/(z=false/\A i=none/\L i=0/\C i=0)):
  Calls prog 75 #[.slice a0 n cap] w fun e w'=>∃ v u,e=.returned v/\LT z w' (fun k=>w.heap.size<=k/\k<w'.heap.size) v n u L H/\Bw w w':=by
 have hn':(n:Int)<=1048576:=by omega
 obtain ⟨cs,hcs,hmk⟩:=qct qmv n hn;have HCS:Hid (cs.size=n):=hcs;have HR:Hid (RowS w a0 n fun i=>.slice (A i) (L i) (C i)):=hr;have HI:Hid (∀ i,i<n->(∃ b off,A i=some ⟨b,off,none⟩/\Src w (A i) (fT (H i) (L i)))\/(z=false/\A i=none/\L i=0/\C i=0)):=hI;have HL:Hid (∀ i,i<n->L i<=1048576):=hL;clear hr hI hL hcs
 go_enter func75,ntmps75
 go_wp2_with fail
 clear hmk
 go_loopw [3,11] (fun v i wr=>∃ k:Nat,k<=n/\i=.int .i64 k/\Hid ((∃ u,LT z wr (fun b=>w.heap.size<=b/\b<wr.heap.size) v k u L H)/\Bw w wr)) (fun _ i _=>n - (intOf i).toNat)
 case atStart=>exact ⟨0,nD _,rfl,⟨fun _=>.slice none 0 0,LL.made _ _ _ w _ n hn HCS.out _ (by simp) _ _ _⟩,zQ _ _⟩
 case round=>
  obtain ⟨k,hk,rfl,HZ⟩:=hrel;by_cases hlt:k<n
  ·have hlt':(k:Int)<(n:Int):=by omega
   obtain ⟨b,off,rfl,ck⟩:=(HR.bw HZ.2).at hlt;have hbl:b<wr.heap.size:=zJ wr _ ck
   rcases HI.out k hlt with ⟨b2,o2,ea,hsr⟩ | ⟨hz,ea,eL,eC⟩
   ·rw [ea] at hsr ck
    have HS:Hid (Src wr (some (aQ b2 o2)) (fT (H k) (L k))):=hsr.bw HZ.2;have HLk:Hid (L k<=1048576):=HL.out k hlt;have hk2:Hid (k<=2000000):=by show k<=2000000;omega
    obtain ⟨⟨u,oz⟩,bz⟩:=HZ.out;have OZ:Hid (LT z wr (fun b=>w.heap.size<=b/\b<wr.heap.size) u3 k u L H):=oz;have BZ:Hid (Bw w wr):=bz;clear oz bz HZ hsr ea;go_wp2_with fail
    refine (qdq b2 o2 (L k) (C k) (H k) wr HLk.out HS.out).mono ?_;rintro e w4 ⟨a4,c4,rfl,o4,n4,b4⟩;have F4:Hid (w4.ownsRow wr.heap.size 94 2 (.slice a4 (L k) c4) (L k) (fT (H k) (L k))/\Bw wr w4/\Value.slice a4 (L k) c4≠nS):=⟨o4,b4,n4⟩
    clear o4 b4 n4 ck hbl;go_wp2_with (at_builtin;refine qao qmv w4 rfl rfl _ _ rfl 0 u3 k _ rfl (OZ.bw F4.2.1).row #[.slice a4 (L k) c4] rfl rfl (by intro u hu;simp at hu;subst hu;rfl) hk2.out (nD _) ?_;intro v5 w5 o5 g5 q5 n5;have F5:Hid (LT z w5 (fun b=>w.heap.size<=b/\b<w5.heap.size) v5 (k+1) (fun j=>if j=k then .slice a4 (L k) c4 else u j) L H/\Bw w w5):=⟨OZ.push F4.2.1 F4.1 (fun _=>F4.2.2) o5 g5 q5 (fun j hj _=>⟨hj.1,zL hj.2 (zP F4.2.1.size g5.size)⟩) (fun j hj hj'=>⟨zP BZ.size hj,hj'⟩),Below.grown (BZ.trans (F4.2.1.mono BZ.size)) g5 (zP BZ.size F4.2.1.size) (fun j hj=>(OZ.rb j hj).1)⟩;clear o5 g5 q5 n5)
    go_roundw
    case rel=>exact ⟨k+1,by omega,by go_num,⟨_,F5.1⟩,F5.2⟩
    case measure=>simp [intOf];omega
   ·rw [ea,eL,eC] at ck
    have HNz:Hid (¬ Nz z 94):=fun h=>by
     rcases h with h | h
     ·rw [hz] at h
      cases h
     ·exact absurd h (by decide)
    have hk2:Hid (k<=2000000):=by show k<=2000000;omega
    obtain ⟨⟨u,oz⟩,bz⟩:=HZ.out;have OZ:Hid (LT z wr (fun b=>w.heap.size<=b/\b<wr.heap.size) u3 k u L H):=oz;have BZ:Hid (Bw w wr):=bz;have HE:Hid (L k=0):=eL;clear oz bz HZ ea eL eC hz;go_wp2_with fail
    refine (qh8 wr).mono ?_;rintro e w4 ⟨rfl,b4⟩;have F4:Hid (w4.ownsRow wr.heap.size 94 2 nS (L k) (fT (H k) (L k))/\Bw wr w4):=⟨by rw [HE.out];exact World.ownsRow_nil _ _ _ _,b4⟩
    clear b4 ck hbl;go_wp2_with (at_builtin;refine qao qmv w4 rfl rfl _ _ rfl 0 u3 k _ rfl (OZ.bw F4.2).row #[nS] rfl rfl (by intro u hu;simp at hu;subst hu;rfl) hk2.out (nD _) ?_;intro v5 w5 o5 g5 q5 n5;have F5:Hid (LT z w5 (fun b=>w.heap.size<=b/\b<w5.heap.size) v5 (k+1) (fun j=>if j=k then nS else u j) L H/\Bw w w5):=⟨OZ.push F4.2 F4.1 (fun h=>absurd h HNz.out) o5 g5 q5 (fun j hj _=>⟨hj.1,zL hj.2 (zP F4.2.size g5.size)⟩) (fun j hj hj'=>⟨zP BZ.size hj,hj'⟩),Below.grown (BZ.trans (F4.2.mono BZ.size)) g5 (zP BZ.size F4.2.size) (fun j hj=>(OZ.rb j hj).1)⟩;clear o5 g5 q5 n5)
    go_roundw
    case rel=>exact ⟨k+1,by omega,by go_num,⟨_,F5.1⟩,F5.2⟩
    case measure=>simp [intOf];omega
  ·have hkn:k=n:=by omega
   subst hkn;go_wp2;go_ret;obtain ⟨⟨u,oz⟩,bz⟩:=HZ.out;exact ⟨_,u,rfl,oz,bz⟩
theorem qh7 (b off n cap:Nat) (H:Nat->E3) (w:World) (hn:n<=1048576) (hI:Src w (some (aQ b off)) (fE H n)):
  Calls prog 110 #[.slice (some (aQ b off)) n cap] w fun e w'=>∃ a c,e=.returned (.slice a n c)/\w'.ownsRow w.heap.size 47 3 (.slice a n c) n (fE H n)/\Value.slice a n c≠nS/\Bw w w':=by
 have HI:Hid (Src w (some (aQ b off)) (fE H n)):=hI;have he:∀ wx:World,(binOp .eql 48 (.slice (some ⟨b,off,none⟩) n cap) nS).run prog wx=.ok (.bool false) wx:=fun wx=>by kernel_rfl
 clear hI
 go_enter func110,ntmps110
 go_wp2_with (at_builtin;refine qbs kndE w rfl rfl _ _ rfl (some (aQ b off)) n cap (fE H n) rfl rfl (qin _ _) HI.out (qkz _ _) (by omega) ?_;intro v4 w4 o4 b4 n4;obtain ⟨a4,c4,rfl⟩:=zU o4;have F4:Hid (w4.ownsRow w.heap.size 47 3 (.slice a4 n c4) n (fE H n)/\Value.slice a4 n c4≠nS/\Bw w w4):=⟨o4,n4,b4⟩;clear o4 b4 n4)
 go_ret;exact ⟨_,_,rfl,F4.out⟩
theorem qhk (w:World):
  Calls prog 110 #[nS] w (rB w nS):=by
 have he:∀ wx:World,(binOp .eql 48 nS nS).run prog wx=.ok (.bool true) wx:=fun wx=>by kernel_rfl
 go_enter func110,ntmps110
 go_wp2;go_ret;exact ⟨rfl,nE _ _⟩
theorem qfi (a0:Option Addr) (n cap:Nat) (A:Nat->Option Addr) (L C:Nat->Nat) (H:Nat->Nat->E3) (w:World) (hn:n<=1048576) (hL:∀ i,i<n->L i<=1048576) (hr:RowS w a0 n fun i=>.slice (A i) (L i) (C i)) (hI:∀ i,i<n->(∃ b off,A i=some ⟨b,off,none⟩/\Src w (A i) (fE (H i) (L i)))\/(z=false/\A i=none/\L i=0/\C i=0)):
  Calls prog 76 #[.slice a0 n cap] w fun e w'=>∃ v u,e=.returned v/\LE z w' (fun k=>w.heap.size<=k/\k<w'.heap.size) v n u L H/\Bw w w':=by
 have hn':(n:Int)<=1048576:=by omega
 obtain ⟨cs,hcs,hmk⟩:=qct qjg n hn;have HCS:Hid (cs.size=n):=hcs;have HR:Hid (RowS w a0 n fun i=>.slice (A i) (L i) (C i)):=hr;have HI:Hid (∀ i,i<n->(∃ b off,A i=some ⟨b,off,none⟩/\Src w (A i) (fE (H i) (L i)))\/(z=false/\A i=none/\L i=0/\C i=0)):=hI;have HL:Hid (∀ i,i<n->L i<=1048576):=hL;clear hr hI hL hcs
 go_enter func76,ntmps76
 go_wp2_with fail
 clear hmk
 go_loopw [3,11] (fun v i wr=>∃ k:Nat,k<=n/\i=.int .i64 k/\Hid ((∃ u,LE z wr (fun b=>w.heap.size<=b/\b<wr.heap.size) v k u L H)/\Bw w wr)) (fun _ i _=>n - (intOf i).toNat)
 case atStart=>exact ⟨0,nD _,rfl,⟨fun _=>.slice none 0 0,LL.made _ _ _ w _ n hn HCS.out _ (by simp) _ _ _⟩,zQ _ _⟩
 case round=>
  obtain ⟨k,hk,rfl,HZ⟩:=hrel;by_cases hlt:k<n
  ·have hlt':(k:Int)<(n:Int):=by omega
   obtain ⟨b,off,rfl,ck⟩:=(HR.bw HZ.2).at hlt;have hbl:b<wr.heap.size:=zJ wr _ ck
   rcases HI.out k hlt with ⟨b2,o2,ea,hsr⟩ | ⟨hz,ea,eL,eC⟩
   ·rw [ea] at hsr ck
    have HS:Hid (Src wr (some (aQ b2 o2)) (fE (H k) (L k))):=hsr.bw HZ.2;have HLk:Hid (L k<=1048576):=HL.out k hlt;have hk2:Hid (k<=2000000):=by show k<=2000000;omega
    obtain ⟨⟨u,oz⟩,bz⟩:=HZ.out;have OZ:Hid (LE z wr (fun b=>w.heap.size<=b/\b<wr.heap.size) u3 k u L H):=oz;have BZ:Hid (Bw w wr):=bz;clear oz bz HZ hsr ea;go_wp2_with fail
    refine (qh7 b2 o2 (L k) (C k) (H k) wr HLk.out HS.out).mono ?_;rintro e w4 ⟨a4,c4,rfl,o4,n4,b4⟩;have F4:Hid (w4.ownsRow wr.heap.size 47 3 (.slice a4 (L k) c4) (L k) (fE (H k) (L k))/\Bw wr w4/\Value.slice a4 (L k) c4≠nS):=⟨o4,b4,n4⟩
    clear o4 b4 n4 ck hbl;go_wp2_with (at_builtin;refine qao qjg w4 rfl rfl _ _ rfl 0 u3 k _ rfl (OZ.bw F4.2.1).row #[.slice a4 (L k) c4] rfl rfl (by intro u hu;simp at hu;subst hu;rfl) hk2.out (nD _) ?_;intro v5 w5 o5 g5 q5 n5;have F5:Hid (LE z w5 (fun b=>w.heap.size<=b/\b<w5.heap.size) v5 (k+1) (fun j=>if j=k then .slice a4 (L k) c4 else u j) L H/\Bw w w5):=⟨OZ.push F4.2.1 F4.1 (fun _=>F4.2.2) o5 g5 q5 (fun j hj _=>⟨hj.1,zL hj.2 (zP F4.2.1.size g5.size)⟩) (fun j hj hj'=>⟨zP BZ.size hj,hj'⟩),Below.grown (BZ.trans (F4.2.1.mono BZ.size)) g5 (zP BZ.size F4.2.1.size) (fun j hj=>(OZ.rb j hj).1)⟩;clear o5 g5 q5 n5)
    go_roundw
    case rel=>exact ⟨k+1,by omega,by go_num,⟨_,F5.1⟩,F5.2⟩
    case measure=>simp [intOf];omega
   ·rw [ea,eL,eC] at ck
    have HNz:Hid (¬ Nz z 47):=fun h=>by
     rcases h with h | h
     ·rw [hz] at h
      cases h
     ·exact absurd h (by decide)
    have hk2:Hid (k<=2000000):=by show k<=2000000;omega
    obtain ⟨⟨u,oz⟩,bz⟩:=HZ.out;have OZ:Hid (LE z wr (fun b=>w.heap.size<=b/\b<wr.heap.size) u3 k u L H):=oz;have BZ:Hid (Bw w wr):=bz;have HE:Hid (L k=0):=eL;clear oz bz HZ ea eL eC hz;go_wp2_with fail
    refine (qhk wr).mono ?_;rintro e w4 ⟨rfl,b4⟩;have F4:Hid (w4.ownsRow wr.heap.size 47 3 nS (L k) (fE (H k) (L k))/\Bw wr w4):=⟨by rw [HE.out];exact World.ownsRow_nil _ _ _ _,b4⟩
    clear b4 ck hbl;go_wp2_with (at_builtin;refine qao qjg w4 rfl rfl _ _ rfl 0 u3 k _ rfl (OZ.bw F4.2).row #[nS] rfl rfl (by intro u hu;simp at hu;subst hu;rfl) hk2.out (nD _) ?_;intro v5 w5 o5 g5 q5 n5;have F5:Hid (LE z w5 (fun b=>w.heap.size<=b/\b<w5.heap.size) v5 (k+1) (fun j=>if j=k then nS else u j) L H/\Bw w w5):=⟨OZ.push F4.2 F4.1 (fun h=>absurd h HNz.out) o5 g5 q5 (fun j hj _=>⟨hj.1,zL hj.2 (zP F4.2.size g5.size)⟩) (fun j hj hj'=>⟨zP BZ.size hj,hj'⟩),Below.grown (BZ.trans (F4.2.mono BZ.size)) g5 (zP BZ.size F4.2.size) (fun j hj=>(OZ.rb j hj).1)⟩;clear o5 g5 q5 n5)
    go_roundw
    case rel=>exact ⟨k+1,by omega,by go_num,⟨_,F5.1⟩,F5.2⟩
    case measure=>simp [intOf];omega
  ·have hkn:k=n:=by omega
   subst hkn;go_wp2;go_ret;obtain ⟨⟨u,oz⟩,bz⟩:=HZ.out;exact ⟨_,u,rfl,oz,bz⟩
variable {z:Bool}
structure SysIn.Nn (x:SysIn) (z:Bool):Prop where
 w:∀ i,i<x.wn->(∃ b off,x.wA i=some ⟨b,off,none⟩)\/(z=false/\x.wA i=none/\x.wL i=0/\x.wC i=0)
 h:∀ i,i<x.hn->(∃ b off,x.hA i=some ⟨b,off,none⟩)\/(z=false/\x.hA i=none/\x.hL i=0/\x.hC i=0)
theorem qh1 (n:Nat) (hn:n<=1048576):∃ cs:Array Value,cs.size=n*4/\∀ w:World,(Instr.makeSlice 25 (iV 0) (iV (n:Int))).run prog w=.ok (sG w.heap.size 0 n) (w.alloc (.cells cs 73)):=by
 obtain ⟨i,z,hi,hz,hs,hb,hzs⟩:=kndS.inf;refine ⟨madeCells z.cells (n*4),size_madeCells _ _,fun w=>?_⟩
 have hby:i.bytes*n<=281474976710656:=by
  rw [hb];omega
 have hby':(i.bytes:Int)*(n:Int)<=281474976710656:=by rw [<- Int.natCast_mul];exact Int.ofNat_le.2 hby
 have h:=run_make (P:=prog) w 25 73 i z kndS.und hi hz .i64 .i64 0 (n:Int) (by omega) (by omega) hby' (by omega);rw [hs,nF] at h;exact h
theorem LS.made (w:World) (cs:Array Value) (n:Nat) (hn:n<=1048576) (hc:cs.size=n*4) (P:Nat->Prop) (hP:P w.heap.size) (vs:Nat->Value) (S:Nat->S4) {N:Nat} (hN:N=w.heap.size):LS (w.alloc (.cells cs 73)) P (sG N 0 n) 0 vs S:=by
 subst hN;exact ⟨World.ownsRow_made (base:=0) (e:=73) (size:=4) w cs n (nD _) (by unfold maxLen;omega) hc,fun i hi=>(by omega),fun k hk=>(by cases hk;exact hP),fun i hi=>(by omega),fun i hi=>(by omega),fun i j hi=>(by omega)⟩
theorem OwnS.four {B m1 m2 m3 m4:Nat} {w1 w2 w3 w4 wf:World} {y:Sy} {vp vs vw vh:Value} {up us uw uh:Nat->Value} (h1:m1<=w1.heap.size) (h2:w1.heap.size<=m2) (h3:w2.heap.size<=m3) (h4:w3.heap.size<=m4) (hB:B<=m1)
  (o1:LS w1 (fun k=>m1<=k/\k<w1.heap.size) vs y.sn us y.sS) (o2:LI z w2 (fun k=>m2<=k/\k<w2.heap.size) vp y.pn up y.pL y.pH) (o3:LT z w3 (fun k=>m3<=k/\k<w3.heap.size) vw y.wn uw y.wL y.wH) (o4:LE z w4 (fun k=>m4<=k/\k<w4.heap.size) vh y.hn uh y.hL y.hH)
  (b2:Bw w1 w2) (b3:Bw w2 w3) (b4:Bw w3 w4) (hf:∀ k,m1<=k->k<w4.heap.size->wf.heap[k]? = w4.heap[k]?):
  ∃ c,OwnS z wf B c y vp vs vw vh up us uw uh:=by
 have z2:=b2.size;have z3:=b3.size;have z4:=b4.size;refine ⟨fun k=>if k<w1.heap.size then 2 else if k<w2.heap.size then 1 else if k<w3.heap.size then 3 else 4,?_,?_,?_,?_⟩
 ·refine (o2.keep (w':=wf) fun k hk hl=>(hf k (by omega) (by omega)).trans ((b4.block k (by omega)).trans (b3.block k hl))).mono fun k hk _=>⟨by omega,?_⟩
  show (if k<w1.heap.size then 2 else if k<w2.heap.size then 1 else if k<w3.heap.size then 3 else 4)=1;rw [nB (by omega),nC (by omega)]
 ·refine (o1.keep (w':=wf) fun k hk hl=>(hf k (by omega) (by omega)).trans ((b4.block k (by omega)).trans ((b3.block k (by omega)).trans (b2.block k hl)))).mono fun k hk _=>⟨by omega,?_⟩
  show (if k<w1.heap.size then 2 else if k<w2.heap.size then 1 else if k<w3.heap.size then 3 else 4)=2;rw [nC (by omega)]
 ·refine (o3.keep (w':=wf) fun k hk hl=>(hf k (by omega) (by omega)).trans (b4.block k hl)).mono fun k hk _=>⟨by omega,?_⟩
  show (if k<w1.heap.size then 2 else if k<w2.heap.size then 1 else if k<w3.heap.size then 3 else 4)=3;rw [nB (by omega),nB (by omega),nC (by omega)]
 ·refine (o4.keep (w':=wf) fun k hk hl=>hf k (by omega) hl).mono fun k hk _=>⟨by omega,?_⟩
  show (if k<w1.heap.size then 2 else if k<w2.heap.size then 1 else if k<w3.heap.size then 3 else 4)=4;rw [nB (by omega),nB (by omega),nB (by omega)]
theorem qmi (x:SysIn) (w:World) (hG:SysG w x) (hL:x.Len) (hN:x.Nn z):
  Calls prog 37 #[x.v] w fun e w'=>∃ v,e=.returned v/\qam z w' w.heap.size x.y v/\Bw w w':=by
 have HG:Hid (SysG w x):=hG;have HL:Hid x.Len:=hL;have hsn':(x.sn:Int)<=1048576:=by have:=hL.s.1;omega
 obtain ⟨cs,hcs,hmk⟩:=qh1 x.sn hL.s.1;have HCS:Hid (cs.size=x.sn*4):=hcs;have BW:Hid (Bw w ((w.alloc (x.oX)).alloc (zQ3))):=(zQ _ _).trans ((zQ _ _).mono (by simp));have NB:Hid (x.bX ((w.alloc (x.oX)).alloc (zQ3)) w.heap.size):=(BoxC.new w _ _ _ _ _).bw (zQ _ _);have RB:Hid (BoxC ((w.alloc (x.oX)).alloc (zQ3)) (w.heap.size+1) nS nS nS nS/\∀ j,((w.alloc (x.oX)).alloc (zQ3)).frozen? ⟨w.heap.size+1,j,none⟩=false):=⟨⟨zW _ _ _ 0 (by simp),zW _ _ _ 1 (by simp),zW _ _ _ 2 (by simp),zW _ _ _ 3 (by simp)⟩,fun j=>yD _ _ _ _ (by simp)⟩
 have hz:((w.alloc (x.oX)).alloc (zQ3)).heap.size=w.heap.size+2:=by simp
 have hl0:w.heap.size<((w.alloc (x.oX)).alloc (zQ3)).heap.size:=by omega
 have hl1:w.heap.size+1<((w.alloc (x.oX)).alloc (zQ3)).heap.size:=by omega
 have Hp : Hid (∀ wx, Below ((w.alloc (oQ4 x.pa x.pn x.pc x.sa x.sn x.sc x.wa x.wn x.wc x.ha x.hn x.hc)).alloc (zQ3)).heap.size ((w.alloc (oQ4 x.pa x.pn x.pc x.sa x.sn x.sc x.wa x.wn x.wc x.ha x.hn x.hc)).alloc (zQ3)) wx → (RowS wx x.pa x.pn fun i => .slice (x.pA i) (x.pL i) (x.pC i)) ∧ ∀ i, i < x.pn → ∃ b off, x.pA i = some ⟨b, off, none⟩ ∧ Src wx (x.pA i) (fI (x.pH i) (x.pL i))) := fun wx hb => ⟨(HG.bw (BW.trans (hb.mono BW.size))).p, fun i hi => by
  obtain ⟨b,e,hlt,hI⟩:=(HG.bw (BW.trans (hb.mono BW.size))).pi i hi
  exact ⟨b,0,e,by rw [e];exact srcI hlt hI⟩⟩
 have Hw : Hid (∀ wx, Below ((w.alloc (oQ4 x.pa x.pn x.pc x.sa x.sn x.sc x.wa x.wn x.wc x.ha x.hn x.hc)).alloc (zQ3)).heap.size ((w.alloc (oQ4 x.pa x.pn x.pc x.sa x.sn x.sc x.wa x.wn x.wc x.ha x.hn x.hc)).alloc (zQ3)) wx → (RowS wx x.wa x.wn fun i => .slice (x.wA i) (x.wL i) (x.wC i)) ∧ ∀ i, i < x.wn → (∃ b off, x.wA i = some ⟨b, off, none⟩ ∧ Src wx (x.wA i) (fT (x.wH i) (x.wL i))) ∨ (z = false ∧ x.wA i = none ∧ x.wL i = 0 ∧ x.wC i = 0)) := fun wx hb => ⟨(HG.bw (BW.trans (hb.mono BW.size))).w, fun i hi => by
  rcases hN.w i hi with ⟨b,off,e⟩ | h
  ·exact .inl ⟨b,off,e,srcT ((HG.bw (BW.trans (hb.mono BW.size))).wi i hi)⟩
  ·exact .inr h⟩
 have Hh : Hid (∀ wx, Below ((w.alloc (oQ4 x.pa x.pn x.pc x.sa x.sn x.sc x.wa x.wn x.wc x.ha x.hn x.hc)).alloc (zQ3)).heap.size ((w.alloc (oQ4 x.pa x.pn x.pc x.sa x.sn x.sc x.wa x.wn x.wc x.ha x.hn x.hc)).alloc (zQ3)) wx → (RowS wx x.ha x.hn fun i => .slice (x.hA i) (x.hL i) (x.hC i)) ∧ ∀ i, i < x.hn → (∃ b off, x.hA i = some ⟨b, off, none⟩ ∧ Src wx (x.hA i) (fE (x.hH i) (x.hL i))) ∨ (z = false ∧ x.hA i = none ∧ x.hL i = 0 ∧ x.hC i = 0)) := fun wx hb => ⟨(HG.bw (BW.trans (hb.mono BW.size))).h, fun i hi => by
  rcases hN.h i hi with ⟨b,off,e⟩ | h
  ·exact .inl ⟨b,off,e,srcE ((HG.bw (BW.trans (hb.mono BW.size))).hi i hi)⟩
  ·exact .inr h⟩
 have HZ2:Hid (((w.alloc (x.oX)).alloc (zQ3)).heap.size=w.heap.size+1+1):=hz;clear hG hL hcs hz
 go_enter func37,ntmps37
 go_wp2_with fail
 clear hmk;generalize hW2:(w.alloc (x.oX)).alloc (zQ3)=W2 at *;clear hW2
 go_loopw [3,13] (fun v i wr=>∃ k:Nat,k<=x.sn/\i=.int .i64 k/\Hid ((∃ us,LS wr (fun b=>W2.heap.size<=b/\b<wr.heap.size) v k us x.sS)/\Bw W2 wr)) (fun _ i _=>x.sn - (intOf i).toNat)
 case atStart=>exact ⟨0,nD _,rfl,⟨fun _=>.slice none 0 0,LS.made W2 cs x.sn HL.s.1 HCS.out (fun b=>W2.heap.size<=b/\b<(W2.alloc (.cells cs 73)).heap.size) ⟨nA _,by simp⟩ _ _ HZ2.symm⟩,zQ _ _⟩
 case round=>
  obtain ⟨k,hk,rfl,HZ⟩:=hrel;by_cases hlt:k<x.sn
  ·have hlt':(k:Int)<(x.sn:Int):=by omega
   obtain ⟨⟨us,oz⟩,bz⟩:=HZ.out;obtain ⟨bs,os,es,s0,s1,s2,s3⟩:=(HG.bw (BW.trans (bz.mono BW.size))).s.at hlt;have hls:=(HG.bw (BW.trans (bz.mono BW.size))).s.lst k hlt;have hbs:bs<wr.heap.size:=zJ wr _ s0;have HLk:=HL.s.2 k hlt;rw [es];have OZ:Hid (LS wr (fun b=>W2.heap.size<=b/\b<wr.heap.size) u3 k us x.sS):=oz;have BZ:Hid (Bw W2 wr):=bz;have LSt:Hid (Sl wr (x.sQ k).ra (x.sQ k).rs/\Sl wr (x.sQ k).oa (x.sQ k).os):=hls;clear oz bz hls HZ es;go_wp2_with fail
   have ba:=zQ wr (oQ1 (x.sQ k).p (x.sQ k).ra (x.sQ k).rs.length (x.sQ k).rc (x.sQ k).oa (x.sQ k).os.length (x.sQ k).oc (x.sQ k).c);refine (qfj _ _ _ _ _ _ (x.sQ k).rs (x.sQ k).os _ HLk.1 HLk.2 (LSt.1.bw ba) (LSt.2.bw ba)).mono ?_;rintro e w1 ⟨v1,rfl,o1,d1⟩;obtain ⟨ra1,rc1,oa1,oc1,rfl,-,-⟩:=o1.read;have q1:Bw wr w1:=ba.trans (d1.mono ba.size);have F1:Hid (qaf w1 wr.heap.size (stV (x.sQ k).p ra1 (x.sQ k).rs.length rc1 oa1 (x.sQ k).os.length oc1 (x.sQ k).c) (x.sQ k).p (x.sQ k).rs (x.sQ k).os (x.sQ k).c/\Bw wr w1):=⟨o1.mono (by simp),q1⟩
   clear o1 d1 q1 ba s0 s1 s2 s3;go_wp2_with (at_builtin;refine qao kndS w1 rfl rfl _ _ rfl 0 u3 k _ rfl (OZ.bw F1.2).row #[.int .i64 (x.sQ k).p,.slice ra1 (x.sQ k).rs.length rc1,.slice oa1 (x.sQ k).os.length oc1,.int .i64 (x.sQ k).c] rfl rfl (by intro u hu;simp at hu;rcases hu with rfl | rfl | rfl | rfl <;> rfl) (by omega) (nD _) ?_;intro v5 w5 o5 g5 q5 n5;have F5:Hid ((∃ us,LS w5 (fun b=>W2.heap.size<=b/\b<w5.heap.size) v5 (k+1) us x.sS)/\Bw W2 w5):=⟨⟨_,OZ.push F1.2 F1.1 o5 g5 q5 (fun j hj _=>⟨hj.1,zL hj.2 (zP F1.2.size g5.size)⟩) (fun j hj hj'=>⟨zP BZ.size hj,hj'⟩)⟩,Below.grown (BZ.trans (F1.2.mono BZ.size)) g5 (zP BZ.size F1.2.size) (fun j hj=>(OZ.rb j hj).1)⟩;clear o5 g5 q5 n5)
   go_roundw
   case rel=>exact ⟨k+1,by omega,by go_num,F5.1,F5.2⟩
   case measure=>simp [intOf];omega
  ·have hkn:k=x.sn:=by omega
   subst hkn;obtain ⟨⟨us,oz⟩,q0⟩:=HZ.out;obtain ⟨sa,sc,rfl⟩:=zU oz.row;have b0:=NB.bw q0;clear HZ;go_wp2_with fail
   refine qah (fun w'=>w'.cell? (aQ w.heap.size 0)=some (.slice x.pa x.pn x.pc)/\w'.cell? (aQ w.heap.size 2)=some (.slice x.wa x.wn x.wc)/\w'.cell? (aQ w.heap.size 3)=some (.slice x.ha x.hn x.hc)) (fun i=>i == 11) (by kernel_rfl) ?_;have hHeld:(fun w'=>w'.cell? (aQ w.heap.size 0)=some (.slice x.pa x.pn x.pc)/\w'.cell? (aQ w.heap.size 2)=some (.slice x.wa x.wn x.wc)/\w'.cell? (aQ w.heap.size 3)=some (.slice x.ha x.hn x.hc)) wr.drew:=⟨b0.1,b0.2.2.1,b0.2.2.2⟩
   have q0:Bw W2 wr.drew:=q0.drew;refine qa0 [0,1,3,4,5,7,8] ?_;iterate 7 (refine qba rfl hHeld ?_)
   refine qav ?_;refine yW 2 rfl fun K hK=>?_;refine qag rfl 48 _ _ rfl #[.slice x.pa x.pn x.pc] (by simp [Act.eval]) (yB func48) (qdz (z:=z) x.pa x.pn x.pc x.pA x.pL x.pC x.pH wr.drew HL.p.1 HL.p.2 (Hp.out _ q0).1 (Hp.out _ q0).2) ?_;rintro e w1 ⟨v1,u1,rfl,o1,d1⟩;obtain ⟨a1,c1,rfl⟩:=zU o1.row;refine ⟨_,rfl,?_⟩;have q1:Bw W2 w1:=q0.trans (d1.mono q0.size);have b1:=NB.bw q1;refine hK.out _ _ (fun _=>⟨b1.1,b1.2.2.1,b1.2.2.2⟩) ?_;clear hHeld;have hHeld:(fun w'=>w'.cell? (aQ w.heap.size 0)=some (.slice x.pa x.pn x.pc)/\w'.cell? (aQ w.heap.size 2)=some (.slice x.wa x.wn x.wc)/\w'.cell? (aQ w.heap.size 3)=some (.slice x.ha x.hn x.hc)) w1:=⟨b1.1,b1.2.2.1,b1.2.2.2⟩
   clear hK K
   (try simp only [Act.put,zD,zE,zF])
   refine yW 6 rfl fun K hK=>?_;refine qag rfl 75 _ _ rfl #[.slice x.wa x.wn x.wc] (by simp [Act.eval]) (yB func75) (qf6 (z:=z) x.wa x.wn x.wc x.wA x.wL x.wC x.wH w1 HL.w.1 HL.w.2 (Hw.out _ q1).1 (Hw.out _ q1).2) ?_;rintro e w2 ⟨v2,u2,rfl,o2,d2⟩;obtain ⟨a2,c2,rfl⟩:=zU o2.row;refine ⟨_,rfl,?_⟩;have q2:Bw W2 w2:=q1.trans (d2.mono q1.size);have b2:=NB.bw q2;refine hK.out _ _ (fun _=>⟨b2.1,b2.2.2.1,b2.2.2.2⟩) ?_;clear hHeld;have hHeld:(fun w'=>w'.cell? (aQ w.heap.size 0)=some (.slice x.pa x.pn x.pc)/\w'.cell? (aQ w.heap.size 2)=some (.slice x.wa x.wn x.wc)/\w'.cell? (aQ w.heap.size 3)=some (.slice x.ha x.hn x.hc)) w2:=⟨b2.1,b2.2.2.1,b2.2.2.2⟩
   clear hK K
   (try simp only [Act.put,zD,zE,zF])
   refine yW 9 rfl fun K hK=>?_;refine qag rfl 76 _ _ rfl #[.slice x.ha x.hn x.hc] (by simp [Act.eval]) (yB func76) (qfi (z:=z) x.ha x.hn x.hc x.hA x.hL x.hC x.hH w2 HL.h.1 HL.h.2 (Hh.out _ q2).1 (Hh.out _ q2).2) ?_;rintro e w3 ⟨v3,u3,rfl,o3,d3⟩;obtain ⟨a3,c3,rfl⟩:=zU o3.row;refine ⟨_,rfl,?_⟩;have q3:Bw W2 w3:=q2.trans (d3.mono q2.size);have b3:=NB.bw q3;refine hK.out _ _ (fun _=>⟨b3.1,b3.2.2.1,b3.2.2.2⟩) ?_;clear hHeld;have hHeld:(fun w'=>w'.cell? (aQ w.heap.size 0)=some (.slice x.pa x.pn x.pc)/\w'.cell? (aQ w.heap.size 2)=some (.slice x.wa x.wn x.wc)/\w'.cell? (aQ w.heap.size 3)=some (.slice x.ha x.hn x.hc)) w3:=⟨b3.1,b3.2.2.1,b3.2.2.2⟩
   clear hK K;refine qbn 10 rfl hHeld ?_;obtain ⟨r0,r1,r2,r3⟩:=RB.1.bw q3;have rf:∀ j,w3.frozen? ⟨w.heap.size+1,j,none⟩=false:=fun j=>((qae q3).2 _ j hl1).trans (RB.2 j);refine yW 11 rfl fun K hK=>?_;go_simp;refine hK.out _ _ (fun h=>?_) ?_
   ·exact absurd h (by decide)
   clear hK K
   (try simp only [Act.put])
   refine yX ?_ _;go_wp2;refine bodyPost_ret (v:=sysV a1 x.pn c1 sa x.sn sc a2 x.wn c2 a3 x.hn c3) (by simp [results,results37,go_sem,r0,r1,r2,r3]) rfl ⟨_,rfl,?_,?_⟩
   ·obtain ⟨cc,hcc⟩:=OwnS.four (B:=w.heap.size) (m1:=W2.heap.size) (wf:=(((w3.setCell ⟨w.heap.size+1,0,none⟩ (.slice a1 x.pn c1)).setCell ⟨w.heap.size+1,1,none⟩ (.slice sa x.sn sc)).setCell ⟨w.heap.size+1,2,none⟩ (.slice a2 x.wn c2)).setCell ⟨w.heap.size+1,3,none⟩ (.slice a3 x.hn c3)) (y:=x.y) (by have:W2.heap.size<=wr.heap.size:=q0.size;omega) (by simp) (nA _) (nA _) (by omega) oz o1 o2 o3 ((nE wr.heap.size wr).drew.trans d1) d2 d3 (fun k h1 h2=>by repeat (rw [zO _ _ _ _ (show k≠w.heap.size+1 by omega)]))
    exact ⟨cc,_,_,_,_,_,_,_,_,rfl,hcc⟩
   ·have h9:=BW.trans (q3.mono BW.size)
    exact (((h9.setCell (show w.heap.size<=w.heap.size+1 by omega) _).setCell (show w.heap.size<=w.heap.size+1 by omega) _).setCell (show w.heap.size<=w.heap.size+1 by omega) _).setCell (show w.heap.size<=w.heap.size+1 by omega) _
section
variable {P:Program} {ops:Array Oper} {Q:Exit->Act->World->Prop} {md:Region.Mode} {S:World->Prop} {G:Nat->Bool}
def notB (b:Bool):Nat:=bif b then 0 else 1
def outI (b:Bool) (i:Nat):List Nat:=bif b then [] else [i]
theorem qdu {b:Bool} {i j:Nat} (h:j ∈ outI b i):b=false/\j=i:=by
 cases b with
 | true=>cases h
 | false=>exact ⟨rfl,List.mem_singleton.1 h⟩
theorem qus (lst:Bool->Bool->Bool->Bool->Bool->Array Bool) (i1 i2 i3 i4 i5:Nat) {o5:Oper} (I:Bool->Bool->Bool->Bool->Act->World->Prop) (J:Bool->Act->World->Prop) {f0:Nat}
  (hrd:∀ a b c d,(a && b && c)=false->Region.ready md ops (lst a b c d false)=outI a i1 ++ (outI b i2 ++ (outI c i3 ++ outI d i4)))
  (s1:∀ b c d,(lst false b c d false).setIfInBounds i1 true=lst true b c d false) (s2:∀ a c d,(lst a false c d false).setIfInBounds i2 true=lst a true c d false) (s3:∀ a b d,(lst a b false d false).setIfInBounds i3 true=lst a b true d false) (s4:∀ a b c e,(lst a b c false e).setIfInBounds i4 true=lst a b c true e) (s5:∀ d,(lst true true true d false).setIfInBounds i5 true=lst true true true d true)
  (e5:ops.toList[i5]? = some o5) (hs:Region.noSelect ops=true) (hf:∀ d,Region.free md ops (lst true true true d false) i5=true) (hr5:∀ d,(Region.ready md ops (lst true true true d false)).contains i5=true) (hrJ:Region.ready md ops (lst true true true false true)=[i4]) (hQ:∀ v c a w,Q (.panic c) (a.put o5.dst v) w->Q (.panic c) a w)
  (h1:∀ b c d x w,I false b c d x w->wpOp P ops Q i1 (fun x' w'=>(S w->G i1=false->S w')/\I true b c d x' w') x w) (h2:∀ a c d x w,I a false c d x w->wpOp P ops Q i2 (fun x' w'=>(S w->G i2=false->S w')/\I a true c d x' w') x w)
  (h3:∀ a b d x w,I a b false d x w->wpOp P ops Q i3 (fun x' w'=>(S w->G i3=false->S w')/\I a b true d x' w') x w) (h4:∀ a b c x w,I a b c false x w->wpOp P ops Q i4 (fun x' w'=>(S w->G i4=false->S w')/\I a b c true x' w') x w)
  (h5:∀ d x w,I true true true d x w->Region.wanted o5 (yielded ops x.tmps)=true/\∃ v,(∀ w,(execOp x.eval o5).run P w=.ok (.value v) w)/\J d (x.put o5.dst v) w)
  (hJ:∀ x w,J false x w->wpOp P ops Q i4 (fun x' w'=>(S w->G i4=false->S w')/\J true x' w') x w)
  (hend:∀ x w,J true x w->wpG P md ops Q S G f0 (lst true true true true true) x w):
  ∀ (m:Nat) (a b c d:Bool) (x:Act) (w:World),notB a+notB b+notB c+notB d=m->I a b c d x w->wpG P md ops Q S G (f0+m+1) (lst a b c d false) x w:=by
 intro m
 induction m with
 | zero=>
  intro a b c d x w hm hI
  obtain ⟨rfl,rfl,rfl,rfl⟩:a=true/\b=true/\c=true/\d=true:=by
   cases a <;> cases b <;> cases c <;> cases d <;> simp [notB] at hm ⊢
  obtain ⟨hw,v,hv,hj⟩:=h5 _ x w hI;exact qdm i5 e5 hs (hf _) (hr5 _) hQ hw ⟨v,hv,by rw [s5];exact hend _ _ hj⟩
 | succ m ih=>
  intro a b c d x w hm hI
  rcases zK (a && b && c) with hT | hne
  ·obtain ⟨rfl,rfl,rfl⟩:a=true/\b=true/\c=true:=by
    cases a <;> cases b <;> cases c <;> simp at hT ⊢
   obtain ⟨rfl,rfl⟩:d=false/\m=0:=by
    cases d <;> simp [notB] at hm ⊢ <;> exact hm
   obtain ⟨hw,v,hv,hj⟩:=h5 _ x w hI;refine qdm i5 e5 hs (hf _) (hr5 _) hQ hw ⟨v,hv,?_⟩;rw [s5];refine ⟨(fun h0=>by rw [hrJ] at h0;cases h0),fun i hi=>?_⟩;rw [hrJ] at hi;obtain rfl:=List.mem_singleton.1 hi;refine wpOp_mono (fun x' w' h=>⟨h.1,?_⟩) (hJ _ _ hj);rw [s4];exact hend _ _ h.2
  have hr:=hrd a b c d hne;refine ⟨fun h0=>?_,fun i hi=>?_⟩
  ·rw [hr] at h0
   cases a <;> cases b <;> cases c <;> cases d <;> simp [outI] at h0 hne
  ·rw [hr,List.mem_append,List.mem_append,List.mem_append] at hi
   rcases hi with hi | hi | hi | hi
   ·obtain ⟨rfl,rfl⟩:=qdu hi
    refine wpOp_mono (fun x' w' h=>⟨h.1,?_⟩) (h1 b c d x w hI);rw [s1];exact ih true b c d x' w' (by simp [notB] at hm ⊢;omega) h.2
   ·obtain ⟨rfl,rfl⟩:=qdu hi
    refine wpOp_mono (fun x' w' h=>⟨h.1,?_⟩) (h2 a c d x w hI);rw [s2];exact ih a true c d x' w' (by simp [notB] at hm ⊢;omega) h.2
   ·obtain ⟨rfl,rfl⟩:=qdu hi
    refine wpOp_mono (fun x' w' h=>⟨h.1,?_⟩) (h3 a b d x w hI);rw [s3];exact ih a b true d x' w' (by simp [notB] at hm ⊢;omega) h.2
   ·obtain ⟨rfl,rfl⟩:=qdu hi
    refine wpOp_mono (fun x' w' h=>⟨h.1,?_⟩) (h4 a b c x w hI);rw [s4];exact ih a b c true x' w' (by simp [notB] at hm ⊢;omega) h.2
end
structure ZL (E:TypeId) (w:World) (P:Nat->Prop) (v:Value) (n:Nat):Prop where
 row:w.ownsRow 0 E 1 v n (List.replicate n nS)
 rb:∀ k,v.ownBlock=some k->P k
section
variable {E:TypeId} {w w':World} {P:Nat->Prop} {v:Value} {n:Nat}
theorem ZL.keep (o:ZL E w P v n) (hb:∀ k,P k->k<w.heap.size->w'.heap[k]? = w.heap[k]?):ZL E w' P v n:=⟨qaw o.row fun k hk=>hb k (o.rb k hk) (o.row.lt k hk).2,o.rb⟩
theorem ZL.bw (o:ZL E w P v n) (hb:Bw w w'):ZL E w' P v n:=o.keep fun k _ hk=>hb.block k hk
theorem ZL.mono (o:ZL E w P v n) {P':Nat->Prop} (h:∀ k,P k->k<w.heap.size->P' k):ZL E w P' v n:=⟨o.row,fun k hk=>h k (o.rb k hk) (o.row.lt k hk).2⟩
theorem ZL.nil (E:TypeId) (w:World) (P:Nat->Prop):ZL E w P nS 0:=⟨World.ownsRow_nil _ _ _ _,fun k hk=>by cases hk⟩
theorem ZL.cell (o:ZL E w P v n) {i:Nat} (hi:i<n):∃ g cap,v=.slice (some (aQ g 0)) n cap/\g<w.heap.size/\w.cell? (aQ g i)=some nS:=by
 rcases o.row.2 with ⟨_,h0⟩ | ⟨g,cap,cur,rfl,hb,hg,hr⟩
 ·omega
 ·refine ⟨g,cap,rfl,(o.row.lt g rfl).2,?_⟩
  rw [o.row.cellAt i (by omega)];simp [hi]
theorem ZL.rowS (o:ZL E w P v n):RowS w (adOf v) n fun _=>.slice none 0 0:=by
 rcases Nat.eq_zero_or_pos n with h | h
 ·exact .inl h
 ·obtain ⟨g,cap,rfl,hg,-⟩:=o.cell h
  refine .inr ⟨g,0,rfl,hg,fun i hi=>?_⟩;obtain ⟨g',cap',ew,-,hc⟩:=o.cell hi;simp only [Value.slice.injEq,nG,Addr.mk.injEq,and_true,true_and] at ew;obtain ⟨rfl,rfl⟩:=ew;rw [nL];exact hc
end
theorem qdw {t e:TypeId} {bytes:Nat} (K:Kind t e 1 bytes) (hz0:(prog.info? e).bind (·.zero)=some nS) (n:Nat) (hn:n<=1048576) (w:World):(Instr.makeSlice t (iV (n:Int)) (iV (n:Int))).run prog w=.ok (sG w.heap.size n n) (w.alloc (.cells (madeCells #[nS] n) e)):=by
 obtain ⟨i,z,hi,hz,hs,hb,hzs⟩:=K.inf
 have hz':z=.slice none 0 0:=by
  rw [hi] at hz0;simp only [Option.bind_some,hz,nG] at hz0;exact hz0
 subst hz'
 have hby:i.bytes*n<=281474976710656:=by
  rw [hb];exact zP (Nat.mul_le_mul K.sml hn) (by omega)
 have hby':(i.bytes:Int)*(n:Int)<=281474976710656:=by rw [<- Int.natCast_mul];exact Int.ofNat_le.2 hby
 have h:=run_make (P:=prog) w t e i nS K.und hi hz .i64 .i64 (n:Int) (n:Int) (by omega) (by omega) hby' (by omega);rw [hs,Nat.mul_one,nF] at h;exact h
theorem ZL.made (E:TypeId) (w:World) (P:Nat->Prop) (hP:P w.heap.size) (n:Nat) (hn:n<=1048576):ZL E (w.alloc (.cells (madeCells #[nS] n) E)) P (sG w.heap.size n n) n:=by
 have hc:(madeCells #[nS] n).toList=List.replicate n nS:=by
  apply List.ext_getElem?;intro i;by_cases h:i<n
  ·simp [madeCells,h,Nat.mod_one]
  ·simp [madeCells,h]
 refine ⟨⟨by simp,.inr ⟨w.heap.size,n,madeCells #[nS] n,rfl,nD _,Array.getElem?_push_size,nA _,by unfold maxLen;omega,by simp [size_madeCells],?_⟩⟩,fun k hk=>by cases hk;exact hP⟩;rw [hc,Nat.mul_one];simp
def nwY (n:Nat) (L:Nat->Nat) (H:Nat->Nat->I5):Sy:=⟨n,L,H,n,fun _=>newS,n*n,fun _=>0,fun _ _=>⟨false,0⟩,n,fun _=>0,fun _ _=>⟨0,0,0⟩⟩
noncomputable def snB (n:Nat) (L:Nat->Nat) (H:Nat->Nat->I5):Bool:=decide (n<=4) && (nwY n L H).okB
structure OwnN (w:World) (c:Nat->Nat) (B n:Nat) (L:Nat->Nat) (H:Nat->Nat->I5) (vp vs vw vh:Value) (up us:Nat->Value):Prop where
 p:LI true w (Cl B c 1) vp n up L H
 s:LS w (Cl B c 2) vs n us fun _=>newS
 t:ZL 92 w (Cl B c 3) vw (n*n)
 h:ZL 48 w (Cl B c 4) vh n
def Own1 (w:World) (B T n:Nat) (L:Nat->Nat) (H:Nat->Nat->I5) (vp vs vw vh:Value):Prop:=∃ c up us,OwnN w c B n L H vp vs vw vh up us/\∀ b,T<=b->c b=0
theorem Own1.bw {w w':World} {B T n:Nat} {L:Nat->Nat} {H:Nat->Nat->I5} {vp vs vw vh:Value} (o:Own1 w B T n L H vp vs vw vh) (hb:Bw w w'):Own1 w' B T n L H vp vs vw vh:=by
 obtain ⟨c,up,us,o,h⟩:=o;exact ⟨c,up,us,⟨o.p.bw hb,o.s.bw hb,o.t.bw hb,o.h.bw hb⟩,h⟩
theorem Own1.touch {w w':World} {B T n:Nat} {L:Nat->Nat} {H:Nat->Nat->I5} {vp vs vw vh:Value} {P:Nat->Prop} (o:Own1 w B T n L H vp vs vw vh) (ht:qap P w w') (hp:∀ b,P b->T<=b\/b<B):Own1 w' B T n L H vp vs vw vh:=by
 obtain ⟨c,up,us,o,h⟩:=o
 have hk:∀ i,i≠0->∀ k,Cl B c i k->k<w.heap.size->w'.heap[k]? = w.heap[k]?:=fun i hi k hk hl=>ht.block k hl fun e=>by
  rcases hp k e with h1 | h1
  ·exact hi (hk.2.symm.trans (h k h1))
  ·have:=hk.1
   omega
 exact ⟨c,up,us,⟨o.p.keep (hk 1 (by decide)),o.s.keep (hk 2 (by decide)),o.t.keep (hk 3 (by decide)),o.h.keep (hk 4 (by decide))⟩,h⟩
theorem Own1.zero (w:World) (B T:Nat) (L:Nat->Nat) (H:Nat->Nat->I5):Own1 w B T 0 L H nS nS nS nS:=
 ⟨fun _=>0,fun _=>.slice none 0 0,fun _=>.slice none 0 0,⟨LL.nil _ _ _ _ _ _ _ _,LS.nil _ _ _ _,ZL.nil _ _ _,ZL.nil _ _ _⟩,fun _ _=>rfl⟩
theorem qoq {P:Program} {ops:Array Oper} {Q:Exit->Act->World->Prop} {md:Region.Mode} {S:World->Prop} {G:Nat->Bool} {fuel:Nat} {l:Array Bool} {a:Act} {w:World} (fuel':Nat) (l':Array Bool) (hf:fuel'=fuel) (hl:l'=l) (h:wpG P md ops Q S G fuel' l' a w):wpG P md ops Q S G fuel l a w:=by
 subst hf;subst hl;exact h
theorem qrm:(prog.info? 92).bind (·.zero)=some nS:=by kernel_rfl
theorem qto:(prog.info? 48).bind (·.zero)=some nS:=by kernel_rfl
structure NwF (W1:World) (n:Nat) (L:Nat->Nat) (H:Nat->Nat->I5) (a b c d:Bool) (v1 v2 v3 v4:Value) (w:World):Prop where
 be:Bw W1 w
 ow:∃ k:Nat->Nat,(a=true->∃ u,LI true w (Cl W1.heap.size k 1) v1 n u L H)/\(b=true->ZL 92 w (Cl W1.heap.size k 3) v2 (n*n))/\(c=true->ZL 48 w (Cl W1.heap.size k 4) v3 n)/\(d=true->∃ N,v4=.pointer (some ⟨N,0,none⟩)/\W1.heap.size<=N/\BoxC w N nS nS nS nS/\(∀ j,w.frozen? ⟨N,j,none⟩=false)/\k N=0)
section
variable {W1:World} {n:Nat} {L:Nat->Nat} {H:Nat->Nat->I5} {a b c d:Bool} {v1 v2 v3 v4:Value} {w w':World}
theorem NwF.keepBox {N:Nat} {k:Nat->Nat} {q:Nat} (h:v4=.pointer (some ⟨N,0,none⟩)/\W1.heap.size<=N/\BoxC w N nS nS nS nS/\(∀ j,w.frozen? ⟨N,j,none⟩=false)/\k N=0) (hb:Bw w w'):v4=.pointer (some ⟨N,0,none⟩)/\W1.heap.size<=N/\BoxC w' N nS nS nS nS/\(∀ j,w'.frozen? ⟨N,j,none⟩=false)/\rcol k w.heap.size q N=0:=by
 have hl:=zJ w _ h.2.2.1.1;exact ⟨h.1,h.2.1,h.2.2.1.bw hb,fun j=>((qae hb).2 _ j hl).trans (h.2.2.2.1 j),(qat hl).trans h.2.2.2.2⟩
theorem NwF.one (h:NwF W1 n L H a b c d v1 v2 v3 v4 w) {v:Value} {u:Nat->Value} (o:LI true w' (fun k=>w.heap.size<=k/\k<w'.heap.size) v n u L H) (hb:Bw w w'):NwF W1 n L H true b c d v v2 v3 v4 w':=by
 obtain ⟨k,-,h2,h3,h4⟩:=h.ow;have hs:=h.be.size
 exact ⟨h.be.trans (hb.mono hs), rcol k w.heap.size 1, fun _ => ⟨u, o.mono fun j hj _ => ⟨Nat.le_trans hs hj.1, qai hj.1⟩⟩, fun e => ((h2 e).mono fun j hj hl => hj.old hl).bw hb, fun e => ((h3 e).mono fun j hj hl => hj.old hl).bw hb, fun e => by
  obtain ⟨N,hN⟩:=h4 e
  exact ⟨N,NwF.keepBox hN hb⟩⟩
theorem NwF.two (h:NwF W1 n L H a b c d v1 v2 v3 v4 w) (hn:n*n<=1048576):NwF W1 n L H a true c d v1 (.slice (some (aQ w.heap.size 0)) (n*n) (n*n)) v3 v4 (w.alloc (.cells (madeCells #[nS] (n*n)) 92)):=by
 obtain ⟨k,h1,-,h3,h4⟩:=h.ow;have hs:=h.be.size;have hb:=zQ w (.cells (madeCells #[nS] (n*n)) 92)
 exact ⟨h.be.trans (hb.mono hs), rcol k w.heap.size 3, fun e => by
  obtain ⟨u,o⟩:=h1 e;exact ⟨u,(o.mono fun j hj hl=>hj.old hl).bw hb⟩,fun _=>ZL.made _ w _ ⟨hs,qai (nA _)⟩ _ hn,fun e=>((h3 e).mono fun j hj hl=>hj.old hl).bw hb,fun e=>by
  obtain ⟨N,hN⟩:=h4 e
  exact ⟨N,NwF.keepBox hN hb⟩⟩
theorem NwF.three (h:NwF W1 n L H a b c d v1 v2 v3 v4 w) (hn:n<=1048576):NwF W1 n L H a b true d v1 v2 (sG w.heap.size n n) v4 (w.alloc (.cells (madeCells #[nS] n) 48)):=by
 obtain ⟨k,h1,h2,-,h4⟩:=h.ow;have hs:=h.be.size;have hb:=zQ w (.cells (madeCells #[nS] n) 48)
 exact ⟨h.be.trans (hb.mono hs), rcol k w.heap.size 4, fun e => by
  obtain ⟨u,o⟩:=h1 e;exact ⟨u,(o.mono fun j hj hl=>hj.old hl).bw hb⟩,fun e=>((h2 e).mono fun j hj hl=>hj.old hl).bw hb,fun _=>ZL.made _ w _ ⟨hs,qai (nA _)⟩ _ hn,fun e=>by
  obtain ⟨N,hN⟩:=h4 e
  exact ⟨N,NwF.keepBox hN hb⟩⟩
theorem NwF.four (h:NwF W1 n L H a b c d v1 v2 v3 v4 w):NwF W1 n L H a b c true v1 v2 v3 (.pointer (some (aQ w.heap.size 0))) (w.alloc (zQ3)):=by
 obtain ⟨k,h1,h2,h3,-⟩:=h.ow;have hs:=h.be.size;have hb:=zQ w (zQ3)
 exact ⟨h.be.trans (hb.mono hs), rcol k w.heap.size 0, fun e => by
  obtain ⟨u,o⟩:=h1 e
  exact ⟨u,(o.mono fun j hj hl=>hj.old hl).bw hb⟩,fun e=>((h2 e).mono fun j hj hl=>hj.old hl).bw hb,fun e=>((h3 e).mono fun j hj hl=>hj.old hl).bw hb,fun _=>⟨_,rfl,hs,BoxC.new w _ _ _ _ _,fun j=>yD _ _ _ _ rfl,qai (nA _)⟩⟩
end
structure NwS (W1:World) (N n:Nat) (L:Nat->Nat) (H:Nat->Nat->I5) (own:Bool) (k:Nat) (w:World) (vp vs vw vh:Value) (c:Nat->Nat) (up us:Nat->Value):Prop where
 be:Bw W1 w
 bx:BoxC w N vp vs vw vh
 fr:∀ j,w.frozen? ⟨N,j,none⟩=false
 bN:W1.heap.size<=N
 cN:c N=0
 p:own=true->LI true w (Cl W1.heap.size c 1) vp n up L H
 s:LS w (Cl W1.heap.size c 2) vs k us fun _=>newS
 t:ZL 92 w (Cl W1.heap.size c 3) vw (n*n)
 h:ZL 48 w (Cl W1.heap.size c 4) vh n
section
variable {W1:World} {N n:Nat} {L:Nat->Nat} {H:Nat->Nat->I5} {own:Bool} {k:Nat} {w:World} {vp vs vw vh:Value} {c:Nat->Nat} {up us:Nat->Value}
theorem NwS.lt (h:NwS W1 N n L H own k w vp vs vw vh c up us):N<w.heap.size:=zJ w _ h.bx.1
theorem NwS.bw {w':World} (h:NwS W1 N n L H own k w vp vs vw vh c up us) (hb:Bw w w'):NwS W1 N n L H own k w' vp vs vw vh c up us:=
 ⟨h.be.trans (hb.mono h.be.size),h.bx.bw hb,fun j=>((qae hb).2 _ j h.lt).trans (h.fr j),h.bN,h.cN,fun e=>(h.p e).bw hb,h.s.bw hb,h.t.bw hb,h.h.bw hb⟩
theorem NwS.start {a:Bool} {v1 v2 v3 v4:Value} (h:NwF W1 n L H own true true true v1 v2 v3 v4 w) (ho:own=a) (_hvp:a=true\/True):∃ N c up us,v4=.pointer (some ⟨N,0,none⟩)/\N<w.heap.size/\BoxC w N nS nS nS nS/\(∀ j,w.frozen? ⟨N,j,none⟩=false)/\NwS W1 N n L H own 0 ((((w.setCell ⟨N,0,none⟩ v1).setCell ⟨N,1,none⟩ nS).setCell ⟨N,2,none⟩ v2).setCell ⟨N,3,none⟩ v3) v1 nS v2 v3 c up us:=by
 obtain ⟨k,h1,h2,h3,h4⟩:=h.ow;obtain ⟨N,e,hN,bx,fr,cN⟩:=h4 rfl;have hl:=zJ w _ bx.1
 have hk:∀ i,i≠0->∀ j,Cl W1.heap.size k i j->j<w.heap.size->((((w.setCell ⟨N,0,none⟩ v1).setCell ⟨N,1,none⟩ nS).setCell ⟨N,2,none⟩ v2).setCell ⟨N,3,none⟩ v3).heap[j]? = w.heap[j]?:=fun i hi j hj _=>by
  have hne:j≠N:=fun e=>hi (by rw [<- hj.2,e,cN]);exact (zO _ _ _ _ hne).trans ((zO _ _ _ _ hne).trans ((zO _ _ _ _ hne).trans (zO _ _ _ _ hne)))
 obtain ⟨u,hu⟩:∃ u,own=true->LI true w (Cl W1.heap.size k 1) v1 n u L H:=by
  cases own with
  | false=>exact ⟨fun _=>.slice none 0 0,fun e=>by cases e⟩
  | true=>obtain ⟨u,o⟩:=h1 rfl;exact ⟨u,fun _=>o⟩
 obtain ⟨g0,g1,g2,g3⟩:=id bx;exact ⟨N,k,u,fun _=>.slice none 0 0,e,hl,bx,fr,(((h.be.setCell hN _).setCell hN _).setCell hN _).setCell hN _,BoxC.set4 ⟨g0,g1,g2,g3⟩ _ _ _ _,fun j=>by simp only [World.frozen?_setCell];exact fr j,hN,cN,fun e=>(hu e).keep (hk 1 (by decide)),LS.nil _ _ _ _,(h2 rfl).keep (hk 3 (by decide)),(h3 rfl).keep (hk 4 (by decide))⟩
theorem NwS.push (h:NwS W1 N n L H own k w vp vs vw vh c up us) {w1 w3:World} {u' v':Value} (b1:Bw w w1) (hu:qaf w1 w.heap.size u' 0 [0,0,0,0] [] 0) (hv:w3.ownsRow 0 73 4 v' (k+1) (flat (fun i=>cellsL (us i)) k ++ cellsL u')) (g:w1.grownBy w3 vs.ownBlock) (hv':∀ j,v'.ownBlock=some j->vs.ownBlock=some j\/w1.heap.size<=j):
  NwS W1 N n L H own (k+1) (w3.setCell (aQ N 1) v') vp v' vw vh (rcol c w.heap.size 2) up (fun j=>if j=k then u' else us j):=by
 have hN:=h.lt;have hB:=h.be.size;have hkeep:∀ j,j<w.heap.size->c j≠2->w3.heap[j]? = w.heap[j]?:=fun j hk hc=>(g.block j (zL hk b1.size) fun e=>hc (h.s.rb j e.symm).2).trans (b1.block j hk);have hset:∀ j,j≠N->(w3.setCell ⟨N,1,none⟩ v').heap[j]? = w3.heap[j]?:=fun j hk=>zO _ _ _ _ hk;have hcN:rcol c w.heap.size 2 N=0:=(qat hN).trans h.cN;have hBN:w3.heap[N]? = w.heap[N]?:=hkeep N hN (by rw [h.cN];decide)
 have hkk:∀ i,i≠2->i≠0->∀ j,Cl W1.heap.size (rcol c w.heap.size 2) i j->j<w.heap.size->(w3.setCell ⟨N,1,none⟩ v').heap[j]? = w.heap[j]?:=fun i h2 h0 j hk hl=>by
  have e:c j=i:=(qat hl).symm.trans hk.2;exact (hset j fun en=>h0 (by rw [<- e,en,h.cN])).trans (hkeep j hl (by rw [e];exact h2))
 have hP:∀ i j,Cl W1.heap.size c i j->j<w.heap.size->Cl W1.heap.size (rcol c w.heap.size 2) i j:=fun i j hk hl=>hk.old hl;have hP':∀ j,w.heap.size<=j->j<w3.heap.size->Cl W1.heap.size (rcol c w.heap.size 2) 2 j:=fun j hk _=>⟨zP hB hk,qai hk⟩
 obtain ⟨x0,x1,x2,x3⟩:=h.bx;have hc:∀ j,w3.cell? ⟨N,j,none⟩=w.cell? ⟨N,j,none⟩:=fun j=>zH hBN
 have hnew:∀ j,Cl W1.heap.size (rcol c w.heap.size 2) 2 j->j<w3.heap.size->(w3.setCell ⟨N,1,none⟩ v').heap[j]? = w3.heap[j]?:=fun j hk _=>hset j fun e=>by
  have e2:=hk.2;rw [e,hcN] at e2;cases e2
 have hbe:Bw W1 w3:=Below.grown (h.be.trans (b1.mono hB)) g (zP hB b1.size) fun j hj=>(h.s.rb j hj).1;refine ⟨hbe.setCell h.bN _,⟨?_,?_,?_,?_⟩,fun j=>?_,h.bN,hcN,fun e=>?_,?_,?_,?_⟩
 ·rw [World.cell?_setCell_other _ _ _ _ (by simp),hc];exact x0
 ·exact World.cell?_setCell_same _ _ _ ((hc 1).trans x1)
 ·rw [World.cell?_setCell_other _ _ _ _ (by simp),hc];exact x2
 ·rw [World.cell?_setCell_other _ _ _ _ (by simp),hc];exact x3
 ·rw [World.frozen?_setCell,zI hBN];exact h.fr j
 ·exact ((h.p e).mono (hP 1)).keep (hkk 1 (by decide) (by decide))
 ·exact (h.s.push b1 hu hv g hv' (hP 2) hP').keep hnew
 ·exact (h.t.mono (hP 3)).keep (hkk 3 (by decide) (by decide))
 ·exact (h.h.mono (hP 4)).keep (hkk 4 (by decide) (by decide))
theorem NwS.own1 (h:NwS W1 N n L H true k w vp vs vw vh c up us) (hk:k=n):Own1 w W1.heap.size w.heap.size n L H vp vs vw vh:=by
 subst hk;exact ⟨rcol c w.heap.size 0,up,us,⟨(h.p rfl).mono fun j hj hl=>hj.old hl,h.s.mono fun j hj hl=>hj.old hl,h.t.mono fun j hj hl=>hj.old hl,h.h.mono fun j hj hl=>hj.old hl⟩,fun b hb=>qai hb⟩
theorem Own1.out4 {B T M:Nat} (o:Own1 w B T n L H vp vs vw vh) (hM:M<B) (a1 a2 a3 a4:Value):Own1 ((((w.setCell (aQ M 0) a1).setCell (aQ M 1) a2).setCell (aQ M 2) a3).setCell (aQ M 3) a4) B T n L H vp vs vw vh:=by
 have t:=(((qap.refl (fun b=>b=M) w).trans (qap.of_set (P:=fun b=>b=M) _ (a:=(aQ M 0)) rfl a1)).trans (qap.of_set (P:=fun b=>b=M) _ (a:=(aQ M 1)) rfl a2)).trans (qap.of_set (P:=fun b=>b=M) _ (a:=(aQ M 2)) rfl a3);exact o.touch (t.trans (qap.of_set (P:=fun b=>b=M) _ (a:=(aQ M 3)) rfl a4)) fun b e=>.inr (by omega)
theorem Own1.base {B B' T T':Nat} (o:Own1 w B T n L H vp vs vw vh) (hB:B'<=B) (hT:T'=T):Own1 w B' T' n L H vp vs vw vh:=by
 subst hT;obtain ⟨c,up,us,o,h⟩:=o;exact ⟨c,up,us,⟨o.p.mono fun j hj _=>⟨zP hB hj.1,hj.2⟩,o.s.mono fun j hj _=>⟨zP hB hj.1,hj.2⟩,o.t.mono fun j hj _=>⟨zP hB hj.1,hj.2⟩,o.h.mono fun j hj _=>⟨zP hB hj.1,hj.2⟩⟩,h⟩
def nwX (pa:Option Addr) (n pc:Nat) (A:Nat->Option Addr) (L C:Nat->Nat) (H:Nat->Nat->I5) (vs vw vh:Value) (us:Nat->Value):SysIn:=
 ⟨pa,n,pc,A,L,C,H,adOf vs,n,cpOf vs,fun i=>⟨0,adOf (fdOf (us i) 1),cpOf (fdOf (us i) 1),[0,0,0,0],adOf (fdOf (us i) 2),cpOf (fdOf (us i) 2),[],0⟩,adOf vw,n*n,cpOf vw,fun _=>none,fun _=>0,fun _=>0,fun _ _=>⟨false,0⟩,adOf vh,n,cpOf vh,fun _=>none,fun _=>0,fun _=>0,fun _ _=>⟨0,0,0⟩⟩
theorem qvu {P1 P3 P4:Nat->Prop} {pa:Option Addr} {pc:Nat} {A:Nat->Option Addr} {C:Nat->Nat} (hs:LS w P1 vs n us fun _=>newS) (ht:ZL 92 w P3 vw (n*n)) (hh:ZL 48 w P4 vh n) (hr:RowS w pa n fun i=>.slice (A i) (L i) (C i)) (hI:∀ i,i<n->∃ b,A i=some ⟨b,0,none⟩/\b<w.heap.size/\qan w b 0 (L i) (H i)):SysG w (nwX pa n pc A L C H vs vw vh us):=by
 refine ⟨hr,hI,⟨?_,fun i hi=>?_⟩,ht.rowS,fun i hi=>.inl rfl,hh.rowS,fun i hi=>.inl rfl⟩
 ·rcases Nat.eq_zero_or_pos n with h0 | h0
  ·exact .inl h0
  ·obtain ⟨g,cap,rfl,-,hg,-,-⟩:=hs.cell h0
   refine .inr ⟨g,0,rfl,hg,fun i hi=>?_⟩;obtain ⟨g',cap',ew,-,-,hc,-⟩:=hs.cell hi;simp only [Value.slice.injEq,nG,Addr.mk.injEq,and_true,true_and] at ew;obtain ⟨rfl,rfl⟩:=ew;obtain ⟨ra,rc,oa,oc,eu,h0,h1,h2,h3⟩:=hc;show w.cell? ⟨g,0+i*4,none⟩=some (iV 0)/\w.cell? ⟨g,0+i*4+1,none⟩=some (.slice (adOf (fdOf (us i) 1)) 4 (cpOf (fdOf (us i) 1)))/\w.cell? ⟨g,0+i*4+2,none⟩=some (.slice (adOf (fdOf (us i) 2)) 0 (cpOf (fdOf (us i) 2)))/\w.cell? ⟨g,0+i*4+3,none⟩=some (iV 0);rw [nL,eu];exact ⟨h0,h1,h2,h3⟩
 ·obtain ⟨g,cap,-,-,-,⟨ra,rc,oa,oc,eu,-⟩,-⟩:=hs.cell hi
  have h4:=hs.own i hi;rw [eu] at h4;show Sl w (adOf (fdOf (us i) 1)) [0,0,0,0]/\Sl w (adOf (fdOf (us i) 2)) [];rw [eu];exact ⟨h4.parts.1.slOf,h4.parts.2.1.slOf⟩
theorem NwS.g {pa:Option Addr} {pc:Nat} {A:Nat->Option Addr} {C:Nat->Nat} (h:NwS W1 N n L H own n w vp vs vw vh c up us) (hr:RowS w pa n fun i=>.slice (A i) (L i) (C i)) (hI:∀ i,i<n->∃ b,A i=some ⟨b,0,none⟩/\b<w.heap.size/\qan w b 0 (L i) (H i)):SysG w (nwX pa n pc A L C H vs vw vh us):=
 qvu h.s h.t h.h hr hI
theorem qvv {pa:Option Addr} {pc:Nat} {A:Nat->Option Addr} {C:Nat->Nat} (hn:n<=4) (hL:∀ i,i<n->L i<=1048576):(nwX pa n pc A L C H vs vw vh us).Len:=by
 have h16:n*n<=16:=zP (Nat.mul_le_mul hn hn) (by omega);exact ⟨⟨by show n<=1048576;omega,hL⟩,⟨by show n<=1048576;omega,fun i _=>⟨by show 4<=1048576;omega,by show 0<=1048576;omega⟩⟩,⟨by show n*n<=1048576;omega,fun i _=>nD _⟩,⟨by show n<=1048576;omega,fun i _=>nD _⟩⟩
end
open Go.Sort
theorem qer {xs ys:List Int} (hl:xs.length=ys.length) (h:∀ j,j<xs.length->zi xs j=zi ys j):xs=ys:=by
 refine List.ext_getElem hl fun i h1 h2=>?_;have:=h i h1;simpa [zi,List.getD_eq_getElem?_getD,List.getElem?_eq_getElem h1,List.getElem?_eq_getElem h2] using this
theorem qfk (a0 a1:Option Addr) (c0 c1:Nat) (xs ys:List Int) (w:World) (hx:xs.length<=1048576) (hy:ys.length<=1048576) (h0:Sl w a0 xs) (h1:Sl w a1 ys):
  Calls prog 63 #[.slice a0 xs.length c0,.slice a1 ys.length c1] w (rB w (.bool (xs == ys))):=by
 have hl':(xs.length:Int)<=1048576:=by omega
 have hl2:(ys.length:Int)<=1048576:=by omega
 by_cases hl:xs.length=ys.length
 ·have H0:Hid (Sl w a0 xs):=h0
  have H1:Hid (Sl w a1 ys):=h1;have HL:Hid (xs.length=ys.length):=hl;rw [<- hl];clear h0 h1 hl hy hl2
  go_enter func63,ntmps63
  go_wp2_with fail
  go_loopw [13] (fun i wr=>∃ k:Nat,k<=xs.length/\i=.int .i64 k/\Bw w wr/\Hid (∀ j,j<k->zi xs j=zi ys j)) (fun i _=>xs.length - (intOf i).toNat)
  case atStart=>exact ⟨0,nD _,rfl,nE _ _,fun j hj=>by omega⟩
  case round=>
   obtain ⟨k,hk,rfl,hbw,HZ⟩:=hrel;by_cases hlt:k<xs.length
   ·have hlt2:k<ys.length:=by have:=HL.out;omega
    obtain ⟨b,off,rfl,hbl,ck⟩:=(H0.bw hbw).at hlt;obtain ⟨b',off',rfl,hbl',ck'⟩:=(H1.bw hbw).at hlt2;have hlt':(k:Int)<(xs.length:Int):=by omega
    clear hlt2
    rcases zK (zi xs k != zi ys k) with t | t
    ·have HN:Hid ((xs == ys)=false):=by
      show (xs == ys)=false;rw [beq_eq_false_iff_ne];intro e;rw [e] at t;simp at t
     go_wp2_with fail
     go_quiet (fail)
     go_wp2;go_ret;rw [HN.out];exact ⟨rfl,yE hbw _⟩
    ·have HZ':Hid (∀ j,j<k+1->zi xs j=zi ys j):=fun j hj=>by
      by_cases e:j=k
      ·subst e
       simpa using t
      ·exact HZ.out j (by omega)
     clear HZ;go_wp2_with fail
     go_quiet (fail)
     go_wp2;go_roundw
     case rel=>exact ⟨k+1,by omega,by go_num,yE hbw _,HZ'.out⟩
     case measure=>simp [intOf];omega
   ·have HE:Hid ((xs == ys)=true):=by
     show (xs == ys)=true;rw [beq_iff_eq];exact qer HL.out fun j hj=>HZ.out j (by omega)
    clear HZ;go_wp2;go_ret;rw [HE.out];exact ⟨rfl,hbw⟩
 ·have hne:((xs.length:Int) != (ys.length:Int))=true:=by simp;omega
  have HN:Hid ((xs == ys)=false):=by
   show (xs == ys)=false;rw [beq_eq_false_iff_ne];intro e;exact hl (by rw [e])
  clear h0 h1 hl
  go_enter func63,ntmps63
  go_wp2;go_ret;rw [HN.out];exact ⟨rfl,nE _ _⟩
def eqS (S T:S4):Bool:=(S.p == T.p) && (S.c == T.c) && (S.rs == T.rs) && (S.os == T.os)
theorem qqg {S T:S4}:eqS S T=true ↔ S=T:=by
 obtain ⟨a,b,c,d⟩:=S;obtain ⟨a',b',c',d'⟩:=T;simp only [eqS,nH,beq_iff_eq,S4.mk.injEq];exact ⟨fun ⟨⟨⟨h1,h2⟩,h3⟩,h4⟩=>⟨h1,h3,h4,h2⟩,fun ⟨h1,h3,h4,h2⟩=>⟨⟨⟨h1,h2⟩,h3⟩,h4⟩⟩
theorem qgc (S T:S4) (ra oa ra' oa':Option Addr) (rc oc rc' oc':Nat) (w:World) (l1:S.rs.length<=1048576) (l2:S.os.length<=1048576) (l3:T.rs.length<=1048576) (l4:T.os.length<=1048576) (h1:Sl w ra S.rs) (h2:Sl w oa S.os) (h3:Sl w ra' T.rs) (h4:Sl w oa' T.os):
  Calls prog 60 #[stV S.p ra S.rs.length rc oa S.os.length oc S.c,stV T.p ra' T.rs.length rc' oa' T.os.length oc' T.c] w (rB w (.bool (eqS S T))):=by
 have H1:Hid (Sl w ra S.rs/\Sl w ra' T.rs):=⟨h1,h3⟩
 have H2:Hid (Sl w oa S.os/\Sl w oa' T.os):=⟨h2,h4⟩
 clear h1 h2 h3 h4
 rcases zK (S.p == T.p) with t1 | t1
 case inr=>
  have HE:Hid (eqS S T=false):=by
   show eqS S T=false;simp [eqS,t1]
  go_enter func60,ntmps60
  go_wp2;go_ret;rw [HE.out];exact ⟨rfl,by go_grown⟩
 rcases zK (S.c == T.c) with t2 | t2
 case inr=>
  have HE:Hid (eqS S T=false):=by
   show eqS S T=false;simp [eqS,t2]
  go_enter func60,ntmps60
  go_wp2;go_ret;rw [HE.out];exact ⟨rfl,by go_grown⟩
 rcases zK (S.rs == T.rs) with t3 | t3
 case inr=>
  have HE:Hid (eqS S T=false):=by
   show eqS S T=false;simp [eqS,t3]
  have T3:Hid ((S.rs == T.rs)=false):=t3;clear t3
  go_enter func60,ntmps60
  go_wp2_with fail
  refine (qfk _ _ _ _ _ _ _ l1 l3 (H1.1.bw (by go_grown)) (H1.2.bw (by go_grown))).mono ?_;rintro e w1 ⟨rfl,b1⟩;rw [T3.out];have B1:Hid (Bw w w1):=qaj (by go_grown) b1 (by simp;omega);clear b1;go_wp2;go_ret;rw [HE.out];exact ⟨rfl,B1.out⟩
 have HE:Hid (eqS S T=(S.os == T.os)):=by
  show eqS S T=(S.os == T.os);simp [eqS,t1,t2,t3]
 have T3:Hid ((S.rs == T.rs)=true):=t3;clear t3
 go_enter func60,ntmps60
 go_wp2_with fail
 refine (qfk _ _ _ _ _ _ _ l1 l3 (H1.1.bw (by go_grown)) (H1.2.bw (by go_grown))).mono ?_;rintro e w1 ⟨rfl,b1⟩;rw [T3.out];have B1:Hid (Bw w w1):=qaj (by go_grown) b1 (by simp;omega);obtain ⟨hc1,hf1⟩:=qae b1;clear b1;go_wp2_with fail
 refine (qfk _ _ _ _ _ _ _ l2 l4 (H2.1.bw B1.out) (H2.2.bw B1.out)).mono ?_;rintro e w2 ⟨rfl,b2⟩;have B2:Hid (Bw w w2):=B1.trans (b2.mono B1.size);clear b2 hc1 hf1;go_wp2;go_ret;rw [HE.out];exact ⟨rfl,B2.out⟩
theorem qpa (m:Bool) (v:Int) (w:World):
  Calls prog 106 #[itV m v] w (rB w (.bool (qci ⟨m,v⟩))):=by
 rcases zK m with rfl | rfl
 ·have HE:Hid (qci ⟨true,v⟩=(v == 0)):=by
   show qci ⟨true,v⟩=(v == 0);simp only [qci,Bool.not_true,Bool.false_or];by_cases e:v=0
   ·subst e
    rfl
   ·have:(v == 0)=false:=by simpa using e
    rw [this,Bool.and_false]
  go_enter func106,ntmps106
  go_wp2;go_ret;rw [HE.out];exact ⟨rfl,by go_grown⟩
 ·have HE:Hid (qci ⟨false,v⟩=inB v (-1000000000) 1000000000):=by
   show qci ⟨false,v⟩=inB v (-1000000000) 1000000000;simp [qci,numB]
  go_enter func106,ntmps106
  go_wp2_with fail
  refine (isNum_any _ _).mono ?_;rintro e w1 ⟨rfl,rfl⟩;go_wp2;go_ret;rw [HE.out];exact ⟨rfl,by go_grown⟩
def qcs (h:Nat->I2) (n:Nat):Bool:=(List.range n).all fun i=>qci (h i)
theorem qep {h:Nat->I2} {n:Nat}:qcs h n=true ↔ ∀ i,i<n->qci (h i)=true:=by
 simp [qcs]
theorem qq3 {h:Nat->I2} {n k:Nat} (hk:k<n) (hf:qci (h k)=false):qcs h n=false:=by
 rcases zK (qcs h n) with t | t
 ·have:=qep.1 t k hk
  rw [hf] at this;cases this
 ·exact t
theorem qsk (a:Option Addr) (len cap:Nat) (h:Nat->I2) (w:World) (hlen:len<=1048576) (hc:ItL w a len h):
  Calls prog 62 #[.slice a len cap] w (rB w (.bool (decide (len<=12) && qcs h len))):=by
 have hl':(len:Int)<=1048576:=by omega
 have HC:Hid (ItL w a len h):=hc;clear hc;by_cases h12:len<=12
 case neg=>
  have h12':(12:Int)<(len:Int):=by omega
  have HE:Hid ((decide (len<=12) && qcs h len)=false):=by
   show (decide (len<=12) && qcs h len)=false;simp [h12]
  go_enter func62,ntmps62
  go_wp2;go_ret;rw [HE.out];exact ⟨rfl,nE _ _⟩
 have h12':¬ (12:Int)<(len:Int):=by omega
 have HE:Hid ((decide (len<=12) && qcs h len)=qcs h len):=by
  show (decide (len<=12) && qcs h len)=qcs h len;simp [h12]
 clear h12
 go_enter func62,ntmps62
 go_wp2_with fail
 go_loopw [10] (fun i wr=>∃ k:Nat,k<=len/\i=.int .i64 k/\Bw w wr/\Hid (∀ j,j<k->qci (h j)=true)) (fun i _=>len - (intOf i).toNat)
 case atStart=>exact ⟨0,nD _,rfl,nE _ _,fun j hj=>by omega⟩
 case round=>
  obtain ⟨k,hk,rfl,hbw,HZ⟩:=hrel;by_cases hlt:k<len
  ·have hlt':(k:Int)<(len:Int):=by omega
   obtain ⟨b,off,rfl,-,c0,c1⟩:=(HC.bw hbw).at hlt;go_wp2_with fail
   refine (qpa _ _ _).mono ?_;rintro e w1 ⟨rfl,b1⟩;have B1:Hid (Bw w w1):=hbw.trans (((zT wr _).trans (b1.mono (by simp))).mono hbw.size);clear b1
   rcases zK (qci (h k)) with t | t
   ·have HZ':Hid (∀ j,j<k+1->qci (h j)=true):=fun j hj=>by
     by_cases e:j=k
     ·subst e
      exact t
     ·exact HZ.out j (by omega)
    rw [show qci { m:=(h k).m,v:=(h k).v }=true from t];clear HZ t;go_wp2;go_roundw
    case rel=>exact ⟨k+1,by omega,by go_num,B1.out,HZ'.out⟩
    case measure=>simp [intOf];omega
   ·have HN:Hid (qcs h len=false):=qq3 hlt t
    rw [show qci { m:=(h k).m,v:=(h k).v }=false from t];clear HZ t;go_wp2;go_ret;rw [HE.out,HN.out];exact ⟨rfl,B1.out⟩
  ·have HN:Hid (qcs h len=true):=qep.2 fun j hj=>HZ.out j (by omega)
   clear HZ;go_wp2;go_ret;rw [HE.out,HN.out];exact ⟨rfl,hbw⟩
noncomputable def pB (p:Prop):Bool:=@decide p (Classical.propDecidable _)
theorem qrv {p:Prop} (h:p):pB p=true:=by simp [pB,h]
theorem qet {p:Prop} (h:¬ p):pB p=false:=by simp [pB,h]
theorem qgh (S T:S4) (ra oa ra' oa':Option Addr) (rc oc rc' oc':Nat) (w:World) (l1:S.rs.length<=1048576) (l2:S.os.length<=1048576) (_l3:T.rs.length<=1048576) (_l4:T.os.length<=1048576) (h1:Sl w ra S.rs) (h2:Sl w oa S.os) (h3:Sl w ra' T.rs) (h4:Sl w oa' T.os):
  Calls prog 101 #[stV S.p ra S.rs.length rc oa S.os.length oc S.c,stV T.p ra' T.rs.length rc' oa' T.os.length oc' T.c] w (rB w (.bool (eqS S T))):=by
 have l1':(S.rs.length:Int)<=1048576:=by omega
 have l2':(S.os.length:Int)<=1048576:=by omega
 have H1:Hid (Sl w ra S.rs/\Sl w ra' T.rs):=⟨h1,h3⟩
 have H2:Hid (Sl w oa S.os/\Sl w oa' T.os):=⟨h2,h4⟩
 clear h1 h2 h3 h4 l1 l2
 rcases zK (S.p != T.p) with t1 | t1
 case inl=>
  have HE:Hid (eqS S T=false):=by
   show eqS S T=false;have:(S.p == T.p)=false:=by simpa using t1
   simp [eqS,this]
  go_enter func101,ntmps101
  go_wp2;go_ret;rw [HE.out];exact ⟨rfl,by go_grown⟩
 rcases zK (S.c != T.c) with t2 | t2
 case inl=>
  have HE:Hid (eqS S T=false):=by
   show eqS S T=false;have:(S.c == T.c)=false:=by simpa using t2
   simp [eqS,this]
  go_enter func101,ntmps101
  go_wp2;go_ret;rw [HE.out];exact ⟨rfl,by go_grown⟩
 rcases zK ((S.rs.length:Int) != (T.rs.length:Int)) with t3 | t3
 case inl=>
  have HE:Hid (eqS S T=false):=by
   show eqS S T=false
   have:(S.rs == T.rs)=false:=by
    rw [beq_eq_false_iff_ne];intro e;rw [e] at t3;simp at t3
   simp [eqS,this]
  go_enter func101,ntmps101
  go_wp2;go_ret;rw [HE.out];exact ⟨rfl,by go_grown⟩
 rcases zK ((S.os.length:Int) != (T.os.length:Int)) with t4 | t4
 case inl=>
  have HE:Hid (eqS S T=false):=by
   show eqS S T=false
   have:(S.os == T.os)=false:=by
    rw [beq_eq_false_iff_ne];intro e;rw [e] at t4;simp at t4
   simp [eqS,this]
  go_enter func101,ntmps101
  go_wp2;go_ret;rw [HE.out];exact ⟨rfl,by go_grown⟩
 have HE:Hid (eqS S T=((S.rs == T.rs) && (S.os == T.os))/\S.rs.length=T.rs.length/\S.os.length=T.os.length):=by
  have e1:(S.p == T.p)=true:=by simpa using t1
  have e2:(S.c == T.c)=true:=by simpa using t2
  have e3:S.rs.length=T.rs.length:=by simp at t3;omega
  have e4:S.os.length=T.os.length:=by simp at t4;omega
  refine ⟨?_,e3,e4⟩;show eqS S T=_;simp [eqS,e1,e2]
 have N1:Hid (BoxC ((w.alloc (oQ1 S.p ra S.rs.length rc oa S.os.length oc S.c)).alloc (oQ1 T.p ra' T.rs.length rc' oa' T.os.length oc' T.c)) w.heap.size (iV S.p) (.slice ra S.rs.length rc) (.slice oa S.os.length oc) (iV S.c)):=(BoxC.new w _ _ _ _ _).bw (zT _ _)
 have N2:Hid (BoxC ((w.alloc (oQ1 S.p ra S.rs.length rc oa S.os.length oc S.c)).alloc (oQ1 T.p ra' T.rs.length rc' oa' T.os.length oc' T.c)) (w.heap.size+1) (iV T.p) (.slice ra' T.rs.length rc') (.slice oa' T.os.length oc') (iV T.c)):=by
  have h:=BoxC.new (w.alloc (oQ1 S.p ra S.rs.length rc oa S.os.length oc S.c)) (iV T.p) (.slice ra' T.rs.length rc') (.slice oa' T.os.length oc') (iV T.c) 73
  (try dsimp only [aW] at h);rw [World.size_alloc] at h
  exact h
 have NB:Hid (Bw w ((w.alloc (oQ1 S.p ra S.rs.length rc oa S.os.length oc S.c)).alloc (oQ1 T.p ra' T.rs.length rc' oa' T.os.length oc' T.c))):=by
  show Below _ _ _
  go_grown
 go_enter func101,ntmps101
 go_wp2_with fail
 generalize (w.alloc (oQ1 S.p ra S.rs.length rc oa S.os.length oc S.c)).alloc (oQ1 T.p ra' T.rs.length rc' oa' T.os.length oc' T.c)=wb at *
 go_loopw [5] (fun i wr=>∃ k:Nat,k<=S.rs.length/\i=.int .i64 k/\Bw wb wr/\Hid (∀ j,j<k->zi S.rs j=zi T.rs j)) (fun i _=>S.rs.length - (intOf i).toNat)
 case atStart=>exact ⟨0,nD _,rfl,nE _ _,fun j hj=>by omega⟩
 case round=>
  obtain ⟨k,hk,rfl,hbw,HZ⟩:=hrel;have hw:Bw w wr:=NB.trans (hbw.mono NB.size);obtain ⟨n0,n1,n2,n3⟩:=N1.bw hbw;obtain ⟨m0,m1,m2,m3⟩:=N2.bw hbw;by_cases hlt:k<S.rs.length
  ·have hlt2:k<T.rs.length:=by have:=HE.out;omega
   obtain ⟨b,off,rfl,hbl,ck⟩:=(H1.1.bw hw).at hlt;obtain ⟨b',off',rfl,hbl',ck'⟩:=(H1.2.bw hw).at hlt2;have hlt':(k:Int)<(S.rs.length:Int):=by omega
   have hlt2':(k:Int)<(T.rs.length:Int):=by omega
   clear hlt2
   rcases zK (zi S.rs k != zi T.rs k) with t | t
   ·have HN:Hid (eqS S T=false):=by
     show eqS S T=false;rw [HE.1]
     have:(S.rs == T.rs)=false:=by
      rw [beq_eq_false_iff_ne];intro e;rw [e] at t;simp at t
     rw [this,Bool.false_and]
    go_wp2_with fail
    go_quiet (fail)
    go_wp2;go_ret;rw [HN.out];exact ⟨rfl,yE hw _⟩
   ·have HZ':Hid (∀ j,j<k+1->zi S.rs j=zi T.rs j):=fun j hj=>by
     by_cases e:j=k
     ·subst e
      simpa using t
     ·exact HZ.out j (by omega)
    clear HZ;go_wp2_with fail
    go_quiet (fail)
    go_wp2;go_roundw
    case rel=>exact ⟨k+1,by omega,by go_num,yE hbw _,HZ'.out⟩
    case measure=>simp [intOf];omega
  ·have HR:Hid ((S.rs == T.rs)=true):=by
    show (S.rs == T.rs)=true;rw [beq_iff_eq];exact qer HE.2.1 fun j hj=>HZ.out j (by omega)
   have hkl:k=S.rs.length:=by omega
   subst hkl;clear HZ hlt hk;go_wp2_with fail
   clear n0 n1 n2 n3 m0 m1 m2 m3
   go_loopw [6] (fun i wr=>∃ k:Nat,k<=S.os.length/\i=.int .i64 k/\Bw wb wr/\Hid (∀ j,j<k->zi S.os j=zi T.os j)) (fun i _=>S.os.length - (intOf i).toNat)
   case atStart=>exact ⟨0,nD _,rfl,hbw,fun j hj=>by omega⟩
   case round=>
    clear hbw hw;obtain ⟨k,hk,rfl,hbw,HZ⟩:=hrel;have hw:Bw w wr:=NB.trans (hbw.mono NB.size);obtain ⟨n0,n1,n2,n3⟩:=N1.bw hbw;obtain ⟨m0,m1,m2,m3⟩:=N2.bw hbw;by_cases hlt:k<S.os.length
    ·have hlt2:k<T.os.length:=by have:=HE.out;omega
     obtain ⟨b,off,rfl,hbl,ck⟩:=(H2.1.bw hw).at hlt;obtain ⟨b',off',rfl,hbl',ck'⟩:=(H2.2.bw hw).at hlt2;have hlt':(k:Int)<(S.os.length:Int):=by omega
     have hlt2':(k:Int)<(T.os.length:Int):=by omega
     clear hlt2
     rcases zK (zi S.os k != zi T.os k) with t | t
     ·have HN:Hid (eqS S T=false):=by
       show eqS S T=false;rw [HE.1]
       have:(S.os == T.os)=false:=by
        rw [beq_eq_false_iff_ne];intro e;rw [e] at t;simp at t
       rw [this,Bool.and_false]
      go_wp2_with fail
      go_quiet (fail)
      go_wp2;go_ret;rw [HN.out];exact ⟨rfl,yE hw _⟩
     ·have HZ':Hid (∀ j,j<k+1->zi S.os j=zi T.os j):=fun j hj=>by
       by_cases e:j=k
       ·subst e
        simpa using t
       ·exact HZ.out j (by omega)
      clear HZ;go_wp2_with fail
      go_quiet (fail)
      go_wp2;go_roundw
      case rel=>exact ⟨k+1,by omega,by go_num,yE hbw _,HZ'.out⟩
      case measure=>simp [intOf];omega
    ·have HN:Hid (eqS S T=true):=by
      show eqS S T=true;rw [HE.1,HR.out,Bool.true_and,beq_iff_eq];exact qer HE.2.2 fun j hj=>HZ.out j (by omega)
     clear HZ;go_wp2;go_ret;rw [HN.out];exact ⟨rfl,hw⟩
structure LWay (h:Nat->I2) (len:Nat) (sent:List Int) (t:Nat):Prop where
 it:∀ i,i<len->qci (h i)=true
 le:len<=12
 ln:sent.length=t+(numL h len).length
 eq:∀ j,j<(numL h len).length->zi (numL h len) j=zi sent (t+j)
theorem qe1 {xs ys:List Int} {j:Nat} (h:j<xs.length):zi (xs ++ ys) j=zi xs j:=by
 simp [zi,List.getD_eq_getElem?_getD,List.getElem?_append_left h]
theorem qek {xs ys:List Int} {j:Nat}:zi (xs ++ ys) (xs.length+j)=zi ys j:=by
 simp [zi,List.getD_eq_getElem?_getD,List.getElem?_append_right]
theorem LWay.iff {h:Nat->I2} {len:Nat} {took sent:List Int}:(LWay h len sent took.length/\∀ i,i<took.length->zi took i=zi sent i) ↔ WayP h len took sent:=by
 refine ⟨fun ⟨a,b⟩=>⟨a.it,a.le,?_⟩,fun a=>⟨⟨a.it,a.le,by rw [<- a.eq,List.length_append],fun j _=>by rw [<- a.eq,qek]⟩,fun i hi=>by rw [<- a.eq,qe1 hi]⟩⟩;refine qer (by rw [List.length_append,a.ln]) fun j hj=>?_;by_cases hl:j<took.length
 ·rw [qe1 hl,b j hl]
 ·rw [List.length_append] at hj
  have e:j=took.length+(j - took.length):=by omega
  rw [e,qek];exact a.eq _ (by omega)
theorem qri (a:Option Addr) (len cap:Nat) (h:Nat->I2) (sa:Option Addr) (sc:Nat) (sent:List Int) (t:Nat) (w:World) (hlen:len<=1048576) (hc:ItL w a len h) (hs:sent.length<=1048576) (hS:Sl w sa sent) (ht:t<=1048576):
  Calls prog 102 #[.slice a len cap,.slice sa sent.length sc,iV t] w (rB w (.bool (pB (LWay h len sent t)))):=by
 have hl':(len:Int)<=1048576:=by omega
 have hs':(sent.length:Int)<=1048576:=by omega
 have ht':(t:Int)<=1048576:=by omega
 have HC:Hid (ItL w a len h):=hc;have HS:Hid (Sl w sa sent):=hS;clear hc hS
 go_enter func102,ntmps102
 go_wp2_with fail
 go_loopw [7] (fun i wr=>∃ k:Nat,k<=len/\i=.int .i64 k/\Bw w wr/\Hid (∀ j,j<k->qci (h j)=true)) (fun i _=>len - (intOf i).toNat)
 case atStart=>exact ⟨0,nD _,rfl,nE _ _,fun j hj=>by omega⟩
 case round=>
  obtain ⟨k,hk,rfl,hbw,HZ⟩:=hrel;by_cases hlt:k<len
  ·have hlt':(k:Int)<(len:Int):=by omega
   obtain ⟨b,off,rfl,-,c0,c1⟩:=(HC.bw hbw).at hlt;have hN:∀ {x:Bool},inB (h k).v (-1000000000) 1000000000=x->numB (h k).v=x:=fun e=>e
   rcases zK (inB (h k).v (-1000000000) 1000000000) with t1 | t1
   ·have go_on:qci (h k)=true->Hid (∀ j,j<k+1->qci (h j)=true):=fun t j hj=>by
     by_cases e:j=k
     ·subst e
      exact t
     ·exact HZ.out j (by omega)
    have stop:qci (h k)=false->Hid (pB (LWay h len sent t)=false):=fun t=>qet fun x=>by
     have:=x.it k hlt;rw [t] at this;cases this
    rcases zK (h k).m with t2 | t2
    ·rcases zK ((h k).v != 0) with t3 | t3
     ·have HN := stop (by
       have:((h k).v == 0)=false:=by simpa using t3
       simp [qci,t2,this])
      rw [t2] at c0;clear go_on stop HZ hN;go_wp2_with fail
      refine (l1Num_any _ _).mono ?_;rintro e w1 ⟨rfl,rfl⟩;rw [t1];go_wp2;go_ret;rw [HN.out];exact ⟨rfl,hbw⟩
     ·have HZ' := go_on (by
       have:((h k).v == 0)=true:=by simpa using t3
       simp [qci,hN t1,this])
      rw [t2] at c0;clear go_on stop HZ hN;go_wp2_with fail
      refine (l1Num_any _ _).mono ?_;rintro e w1 ⟨rfl,rfl⟩;rw [t1];go_wp2;go_roundw
      case rel=>exact ⟨k+1,by omega,by go_num,hbw,HZ'.out⟩
      case measure=>simp [intOf];omega
    ·have HZ':=go_on (by simp [qci,hN t1,t2])
     rw [t2] at c0;clear go_on stop HZ hN;go_wp2_with fail
     refine (l1Num_any _ _).mono ?_;rintro e w1 ⟨rfl,rfl⟩;rw [t1];go_wp2;go_roundw
     case rel=>exact ⟨k+1,by omega,by go_num,hbw,HZ'.out⟩
     case measure=>simp [intOf];omega
   ·have HN:Hid (pB (LWay h len sent t)=false):=qet fun x=>by
     have:=x.it k hlt;simp [qci,hN t1] at this
    clear HZ hN;go_wp2_with fail
    refine (l1Num_any _ _).mono ?_;rintro e w1 ⟨rfl,rfl⟩;rw [t1];go_wp2;go_ret;rw [HN.out];exact ⟨rfl,hbw⟩
  ·have HZ':Hid (∀ j,j<len->qci (h j)=true):=fun j hj=>HZ.out j (by omega)
   have hkl:k=len:=by omega
   subst hkl;clear HZ hlt hk;go_wp2_with fail
   refine (qj5 a k cap h wr hlen (HC.bw hbw)).mono ?_;rintro e w1 ⟨v,rfl,o1,b1⟩;obtain ⟨na,nc,rfl,s1⟩:=o1.form;have B1:Hid (Bw w w1):=hbw.trans (b1.mono hbw.size);have S1:Hid (Sl w1 na (numL h k)):=s1;have hnl:=qe4 h k;have hnl':((numL h k).length:Int)<=1048576:=by omega
   clear o1 b1 s1 hbw;generalize hNU:numL h k=nu at *;have HNU:Hid (numL h k=nu):=hNU;clear hNU hnl;by_cases h12:k<=12
   case neg=>
    have h12':(12:Int)<(k:Int):=by omega
    have HN:Hid (pB (LWay h k sent t)=false):=qet fun x=>h12 x.le;go_wp2;go_ret;rw [HN.out];exact ⟨rfl,B1.out⟩
   have h12':¬ (12:Int)<(k:Int):=by omega
   rcases zK (((sent.length:Int) - (t:Int)) != (nu.length:Int)) with t5 | t5
   ·have HN:Hid (pB (LWay h k sent t)=false):=qet fun x=>by
     have:=x.ln;rw [HNU.out] at this;rw [this] at t5;simp at t5;omega
    go_wp2;go_ret;rw [HN.out];exact ⟨rfl,B1.out⟩
   have HLN:Hid (sent.length=t+nu.length):=by
    show sent.length=t+nu.length;simp at t5;omega
   go_wp2_with fail
   go_loopw [9] (fun i wr=>∃ j:Nat,j<=nu.length/\i=.int .i64 j/\Bw w1 wr/\Hid (∀ i,i<j->zi nu i=zi sent (t+i))) (fun i _=>nu.length - (intOf i).toNat)
   case atStart=>exact ⟨0,nD _,rfl,nE _ _,fun j hj=>by omega⟩
   case round=>
    obtain ⟨j,hj,rfl,hbw,HZ⟩:=hrel;have hw:Bw w wr:=B1.trans (hbw.mono B1.size);by_cases hlt:j<nu.length
    ·have hlt2:t+j<sent.length:=by have:=HLN.out;omega
     obtain ⟨b,off,rfl,hbl,ck⟩:=(S1.bw hbw).at hlt;obtain ⟨b',off',rfl,hbl',ck'⟩:=(HS.bw hw).at hlt2;have hlt':(j:Int)<(nu.length:Int):=by omega
     have hlt2':(t:Int)+(j:Int)<(sent.length:Int):=by omega
     have hq:((t:Int)+(j:Int)).toNat=t+j:=by omega
     clear hlt2
     rcases zK (zi nu j != zi sent (t+j)) with t6 | t6
     ·have HN:Hid (pB (LWay h k sent t)=false):=qet fun x=>by
       have:=x.eq j (by rw [HNU.out];exact hlt);rw [HNU.out] at this;rw [this] at t6;simp at t6
      go_wp2_with fail
      go_quiet (fail)
      go_wp2;go_ret;rw [HN.out];exact ⟨rfl,yE hw _⟩
     ·have HZ2:Hid (∀ i,i<j+1->zi nu i=zi sent (t+i)):=fun i hi=>by
       by_cases e:i=j
       ·subst e
        simpa using t6
       ·exact HZ.out i (by omega)
      clear HZ;go_wp2_with fail
      go_quiet (fail)
      go_wp2;go_roundw
      case rel=>exact ⟨j+1,by omega,by go_num,yE hbw _,HZ2.out⟩
      case measure=>simp [intOf];omega
    ·have HN : Hid (pB (LWay h k sent t) = true) := qrv ⟨HZ'.out, h12, by rw [HNU.out]; exact HLN.out, fun i hi => by
      rw [HNU.out] at hi ⊢
      exact HZ.out i (by omega)⟩
     clear HZ;go_wp2;go_ret;rw [HN.out];exact ⟨rfl,hw⟩
