import Derived.Test.YtkchlgmeinfeaaaGreatDoorMn18
import Derived.RangeFuncNested
import Derived.RangeFuncBound
import Derived.Shelf.Abstract
import Derived.OwnWalkIn
import Derived.TacticsInMore
import Derived.LoopNIn
import Derived.LoopIn
import Derived.Test.YtkchlgmeinfeaaaGreatDoorTie
import Derived.LaidLaws
import Derived.LaidHandle
import Derived.Stop.Joined
namespace Go.Proofs.YtkchlgmeinfeaaaGreatDoor
open Go.Proofs.Tryz
set_option maxRecDepth 100000
set_option maxHeartbeats 2000000
open Go.ChangeShapes Go.WideShapes Go.ChangeAt Go.RowKit Go.Deep
theorem qam.base {z:Bool} {w:World} {B B':Nat} {y:Sy} {v:Value} (o:qam z w B y v) (h:B'<=B):qam z w B' y v:=by
 obtain ⟨c,vp,vs,vw,vh,up,us,uw,uh,e,o⟩:=o;exact ⟨c,vp,vs,vw,vh,up,us,uw,uh,e,o.p.mono fun _ q _=>⟨zP h q.1,q.2⟩,o.s.mono fun _ q _=>⟨zP h q.1,q.2⟩,o.t.mono fun _ q _=>⟨zP h q.1,q.2⟩,o.h.mono fun _ q _=>⟨zP h q.1,q.2⟩⟩
theorem qam.setBelow {z:Bool} {w:World} {B:Nat} {y:Sy} {v:Value} (o:qam z w B y v) {N:Nat} (h:N<B) (j:Nat) (u:Value):qam z (w.setCell (aQ N j) u) B y v:=by
 obtain ⟨c,vp,vs,vw,vh,up,us,uw,uh,e,o⟩:=o
 have hk:∀ i k,Cl B c i k->k<w.heap.size->(w.setCell ⟨N,j,none⟩ u).heap[k]? = w.heap[k]?:=fun i k q _=>zO _ _ _ _ fun e=>by
  have e:k=N:=e;have:=q.1;omega
 exact ⟨c,vp,vs,vw,vh,up,us,uw,uh,e,o.p.keep (hk 1),o.s.keep (hk 2),o.t.keep (hk 3),o.h.keep (hk 4)⟩
theorem qam.zero {z:Bool} (w:World) (B:Nat) (y:Sy):qam z w B { y with pn:=0,sn:=0,wn:=0,hn:=0 } (sysV none 0 0 none 0 0 none 0 0 none 0 0):=
 ⟨fun _=>0,_,_,_,_,fun _=>.slice none 0 0,fun _=>.slice none 0 0,fun _=>.slice none 0 0,fun _=>.slice none 0 0,rfl,LL.nil _ _ _ _ _ _ _ _,LS.nil _ _ _ _,LL.nil _ _ _ _ _ _ _ _,LL.nil _ _ _ _ _ _ _ _⟩
theorem qam.form {z:Bool} {w:World} {B:Nat} {y:Sy} {v:Value} (o:qam z w B y v):∃ pa pc sa sc wa wc ha hc,v=sysV pa y.pn pc sa y.sn sc wa y.wn wc ha y.hn hc:=by
 obtain ⟨c,vp,vs,vw,vh,up,us,uw,uh,rfl,o⟩:=o;obtain ⟨pa,pc,rfl⟩:=zU o.p.row;obtain ⟨sa,sc,rfl⟩:=zU o.s.row;obtain ⟨wa,wc,rfl⟩:=zU o.t.row;obtain ⟨ha,hc,rfl⟩:=zU o.h.row;exact ⟨pa,pc,sa,sc,wa,wc,ha,hc,rfl⟩
theorem qk8 (a b:Int) (w:World):Calls prog 90 #[iV a,iV b] w fun e w'=>∃ z:Int,e=.returned (iV z)/\(a<=z/\b<=z/\(z=a\/z=b))/\w'=w:=by
 by_cases t:b<a
 ·go_enter func90,ntmps90
  go_wp2;go_ret;exact ⟨_,rfl,by omega,rfl⟩
 ·go_enter func90,ntmps90
  go_wp2;go_ret;exact ⟨_,rfl,by omega,rfl⟩
structure AtP (z:Bool) (B N:Nat) (c:Nat->Nat) (y:Sy) (wx:World) (vp vs vw vh:Value) (up us uw uh:Nat->Value):Prop where
 bx:BoxC wx N vp vs vw vh
 fr:∀ j,wx.frozen? ⟨N,j,none⟩=false
 cN:c N=0
 bN:B<=N
 o:OwnS z wx B c y vp vs vw vh up us uw uh
section
variable {z:Bool} {B N:Nat} {c:Nat->Nat} {y:Sy} {wr:World} {vp vs vw vh:Value} {up us uw uh:Nat->Value}
theorem AtP.lt (h:AtP z B N c y wr vp vs vw vh up us uw uh):N<wr.heap.size:=zJ wr _ h.bx.1
theorem AtP.bw (h:AtP z B N c y wr vp vs vw vh up us uw uh) {w':World} (hb:Bw wr w'):AtP z B N c y w' vp vs vw vh up us uw uh:=
 ⟨h.bx.bw hb,fun j=>by rw [zI (hb.block N h.lt)];exact h.fr j,h.cN,h.bN,h.o.bw hb⟩
theorem AtP.state (h:AtP z B N c y wr vp vs vw vh up us uw uh) {w1 w3:World} {u' v':Value} (b1:Bw wr w1) (hu:qaf w1 wr.heap.size u' (y.sS y.sn).p (y.sS y.sn).rs (y.sS y.sn).os (y.sS y.sn).c) (hv:w3.ownsRow 0 73 4 v' (y.sn+1) (flat (fun i=>cellsL (us i)) y.sn ++ cellsL u')) (g:w1.grownBy w3 vs.ownBlock) (hv':∀ j,v'.ownBlock=some j->vs.ownBlock=some j\/w1.heap.size<=j):
  AtP z B N (rcol c wr.heap.size 2) { y with sn:=y.sn+1 } (w3.setCell (aQ N 1) v') vp v' vw vh up (fun j=>if j=y.sn then u' else us j) uw uh:=by
 have hN:=h.lt;have hkeep:∀ k,k<wr.heap.size->c k≠2->w3.heap[k]? = wr.heap[k]?:=fun k hk hc=>(g.block k (zL hk b1.size) fun e=>hc (h.o.s.rb k e.symm).2).trans (b1.block k hk);have hset:∀ k,k≠N->(w3.setCell ⟨N,1,none⟩ v').heap[k]? = w3.heap[k]?:=fun k hk=>zO _ _ _ _ hk;have hcN:rcol c wr.heap.size 2 N=0:=(qat hN).trans h.cN;have hBN:w3.heap[N]? = wr.heap[N]?:=hkeep N hN (by rw [h.cN];decide)
 have hkk:∀ i,i≠2->i≠0->∀ k,Cl B (rcol c wr.heap.size 2) i k->k<wr.heap.size->(w3.setCell ⟨N,1,none⟩ v').heap[k]? = wr.heap[k]?:=fun i h2 h0 k hk hl=>by
  have e:c k=i:=(qat hl).symm.trans hk.2;exact (hset k fun en=>h0 (by rw [<- e,en,h.cN])).trans (hkeep k hl (by rw [e];exact h2))
 have hP:∀ i k,Cl B c i k->k<wr.heap.size->Cl B (rcol c wr.heap.size 2) i k:=fun i k hk hl=>hk.old hl;have hP':∀ k,wr.heap.size<=k->k<w3.heap.size->Cl B (rcol c wr.heap.size 2) 2 k:=fun k hk _=>⟨zP h.bN (zP (nJ hN) hk),qai hk⟩
 obtain ⟨x0,x1,x2,x3⟩:=h.bx;have hc:∀ j,w3.cell? ⟨N,j,none⟩=wr.cell? ⟨N,j,none⟩:=fun j=>zH hBN
 have hnew:∀ k,Cl B (rcol c wr.heap.size 2) 2 k->k<w3.heap.size->(w3.setCell ⟨N,1,none⟩ v').heap[k]? = w3.heap[k]?:=fun k hk _=>hset k fun e=>by
  have e2:=hk.2;rw [e,hcN] at e2;cases e2
 refine ⟨⟨?_,?_,?_,?_⟩,fun j=>?_,hcN,h.bN,⟨?_,?_,?_,?_⟩⟩
 ·rw [World.cell?_setCell_other _ _ _ _ (by simp),hc];exact x0
 ·exact World.cell?_setCell_same _ _ _ ((hc 1).trans x1)
 ·rw [World.cell?_setCell_other _ _ _ _ (by simp),hc];exact x2
 ·rw [World.cell?_setCell_other _ _ _ _ (by simp),hc];exact x3
 ·rw [World.frozen?_setCell,zI hBN];exact h.fr j
 ·exact (h.o.p.mono (hP 1)).keep (hkk 1 (by decide) (by decide))
 ·exact (h.o.s.push b1 hu hv g hv' (hP 2) hP').keep hnew
 ·exact (h.o.t.mono (hP 3)).keep (hkk 3 (by decide) (by decide))
 ·exact (h.o.h.mono (hP 4)).keep (hkk 4 (by decide) (by decide))
theorem AtP.hist (h:AtP z B N c y wr vp vs vw vh up us uw uh) {w1 w3:World} {u' v':Value} (b1:Bw wr w1) (hu:w1.ownsRow wr.heap.size 47 3 u' (y.hL y.hn) (fE (y.hH y.hn) (y.hL y.hn))) (hne:u'≠nS) (hv:w3.ownsRow 0 48 1 v' (y.hn+1) ((List.range y.hn).map uh ++ [u'])) (g:w1.grownBy w3 vh.ownBlock) (hv':∀ j,v'.ownBlock=some j->vh.ownBlock=some j\/w1.heap.size<=j):
  AtP z B N (rcol c wr.heap.size 4) { y with hn:=y.hn+1 } (w3.setCell (aQ N 3) v') vp vs vw v' up us uw (fun j=>if j=y.hn then u' else uh j):=by
 have hN:=h.lt;have hkeep:∀ k,k<wr.heap.size->c k≠4->w3.heap[k]? = wr.heap[k]?:=fun k hk hc=>(g.block k (zL hk b1.size) fun e=>hc (h.o.h.rb k e.symm).2).trans (b1.block k hk);have hset:∀ k,k≠N->(w3.setCell ⟨N,3,none⟩ v').heap[k]? = w3.heap[k]?:=fun k hk=>zO _ _ _ _ hk;have hcN:rcol c wr.heap.size 4 N=0:=(qat hN).trans h.cN;have hBN:w3.heap[N]? = wr.heap[N]?:=hkeep N hN (by rw [h.cN];decide)
 have hkk:∀ i,i≠4->i≠0->∀ k,Cl B (rcol c wr.heap.size 4) i k->k<wr.heap.size->(w3.setCell ⟨N,3,none⟩ v').heap[k]? = wr.heap[k]?:=fun i h2 h0 k hk hl=>by
  have e:c k=i:=(qat hl).symm.trans hk.2;exact (hset k fun en=>h0 (by rw [<- e,en,h.cN])).trans (hkeep k hl (by rw [e];exact h2))
 have hP:∀ i k,Cl B c i k->k<wr.heap.size->Cl B (rcol c wr.heap.size 4) i k:=fun i k hk hl=>hk.old hl;have hP':∀ k,wr.heap.size<=k->k<w3.heap.size->Cl B (rcol c wr.heap.size 4) 4 k:=fun k hk _=>⟨zP h.bN (zP (nJ hN) hk),qai hk⟩
 obtain ⟨x0,x1,x2,x3⟩:=h.bx;have hc:∀ j,w3.cell? ⟨N,j,none⟩=wr.cell? ⟨N,j,none⟩:=fun j=>zH hBN
 have hnew:∀ k,Cl B (rcol c wr.heap.size 4) 4 k->k<w3.heap.size->(w3.setCell ⟨N,3,none⟩ v').heap[k]? = w3.heap[k]?:=fun k hk _=>hset k fun e=>by
  have e2:=hk.2;rw [e,hcN] at e2;cases e2
 refine ⟨⟨?_,?_,?_,?_⟩,fun j=>?_,hcN,h.bN,⟨?_,?_,?_,?_⟩⟩
 ·rw [World.cell?_setCell_other _ _ _ _ (by simp),hc];exact x0
 ·rw [World.cell?_setCell_other _ _ _ _ (by simp),hc];exact x1
 ·rw [World.cell?_setCell_other _ _ _ _ (by simp),hc];exact x2
 ·exact World.cell?_setCell_same _ _ _ ((hc 3).trans x3)
 ·rw [World.frozen?_setCell,zI hBN];exact h.fr j
 ·exact (h.o.p.mono (hP 1)).keep (hkk 1 (by decide) (by decide))
 ·exact (h.o.s.mono (hP 2)).keep (hkk 2 (by decide) (by decide))
 ·exact (h.o.t.mono (hP 3)).keep (hkk 3 (by decide) (by decide))
 ·exact (h.o.h.push b1 hu (fun _=>hne) hv g hv' (hP 4) hP').keep hnew
end
theorem AtP.box {z:Bool} {B N:Nat} {c:Nat->Nat} {y:Sy} {wr w1 w3:World} {vp vs vw vh:Value} {up us uw uh:Nat->Value} (h:AtP z B N c y wr vp vs vw vh up us uw uh) (b1:Bw wr w1) {ob:Option Nat} (g:w1.grownBy w3 ob) (hob:∀ k,ob=some k->c k≠0):BoxC w3 N vp vs vw vh/\∀ j,w3.frozen? ⟨N,j,none⟩=false:=by
 have hN:=h.lt;have e:w3.heap[N]? = wr.heap[N]?:=(g.block N (zL hN b1.size) fun e=>hob N e.symm h.cN).trans (b1.block N hN);obtain ⟨x0,x1,x2,x3⟩:=h.bx;exact ⟨⟨(zH e).trans x0,(zH e).trans x1,(zH e).trans x2,(zH e).trans x3⟩,fun j=>(zI e).trans (h.fr j)⟩
theorem AtP.gS {z:Bool} {B N:Nat} {c:Nat->Nat} {y:Sy} {wr:World} {vp vs vw vh:Value} {up us uw uh:Nat->Value} (h:AtP z B N c y wr vp vs vw vh up us uw uh):∀ k,vs.ownBlock=some k->B<=k/\c k≠0:=fun k hk=>⟨(h.o.s.rb k hk).1,by rw [(h.o.s.rb k hk).2];decide⟩
theorem AtP.gH {z:Bool} {B N:Nat} {c:Nat->Nat} {y:Sy} {wr:World} {vp vs vw vh:Value} {up us uw uh:Nat->Value} (h:AtP z B N c y wr vp vs vw vh up us uw uh):∀ k,vh.ownBlock=some k->B<=k/\c k≠0:=fun k hk=>⟨(h.o.h.rb k hk).1,by rw [(h.o.h.rb k hk).2];decide⟩
theorem qll {t e:TypeId} {size bytes:Nat} (K:Kind t e size bytes) (w:World) (ty:TypeId) (a0:Option Addr) (m c:Nat) (news:List Value) (hl:news.length=m*size) (hsrc:Src w a0 news) (h1:∀ u ∈ news,u.oneCell'=true) (cs:Array Value) (hz:cs.size=m*size):
  (Builtin.copy_ #[t,t] ty #[.slice (some (aQ w.heap.size 0)) m m,.slice a0 m c]).run prog (w.alloc (.cells cs e))=.ok (goInt m) (w.alloc (.cells news.toArray e)):=by
 obtain ⟨i,z,hi,-,hs,-,-⟩:=K.inf;have hg:(w.alloc (.cells cs e)).heap[w.heap.size]? = some (.cells cs e (0,0)):=heap_alloc_new w _;have hst:=run_storeCells_at prog w.heap.size 0 e news 0 cs (w.alloc (.cells cs e)) hg (by rw [hl,hz];omega) h1;have hmin:Nat.min m m=m:=Nat.min_self m;cases a0 with
 | none=>
  have hn0:news=[]:=by
   rcases hsrc with h | ⟨b,off,e,_⟩
   ·exact h
   ·cases e
  subst hn0
  have hm:m=0:=by
   simp only [List.length_nil] at hl
   rcases Nat.eq_zero_or_pos m with h | h
   ·exact h
   ·have:=Nat.mul_pos h K.pos
    omega
  subst hm
  have hc:cs=#[]:=by
   have:cs.size=0:=by omega
   exact Array.eq_empty_of_size_eq_zero this
  subst hc;simp [Builtin.copy_,run_underlying K.und,Builtin.lenOf,Builtin.firstCells,sizeOf,typeInfo,hi,storeCells]
 | some a=>
  have hnews:∀ j u,news[j]? = some u->(w.alloc (.cells cs e)).cell? (a.add j)=some u:=by
   rcases hsrc with h0 | ⟨b,off,e,hlt,hc⟩
   ·subst h0
    intro j u hj;simp at hj
   ·cases e
    intro j u hj;have ha:Addr.add ⟨b,off,none⟩ j=⟨b,off+j,none⟩:=by unfold Addr.add;split <;> simp_all
    rw [ha];exact ((zQ w _).cell (p:=⟨b,off+j,none⟩) hlt).trans (hc j u hj)
  have hld:=run_loadCells_list (P:=prog) (w.alloc (.cells cs e)) a news hnews;rw [hl] at hld;simp only [List.take_zero,List.nil_append,nL] at hst;rw [List.drop_of_length_le (by simp [hl,hz]),List.append_nil,qgz] at hst;simp [Builtin.copy_,run_underlying K.und,Builtin.lenOf,Builtin.firstCells,sizeOf,typeInfo,hi,hs,hld,hst]
theorem qj1 {t e:TypeId} {size bytes:Nat} (K:Kind t e size bytes) (n:Nat) (hn:n<=1048576):∃ cs:Array Value,cs.size=n*size/\∀ w:World,(Instr.makeSlice t (iV (n:Int)) (iV (n:Int))).run prog w=.ok (sG w.heap.size n n) (w.alloc (.cells cs e)):=by
 obtain ⟨i,z,hi,hz,hs,hb,hzs⟩:=K.inf;refine ⟨madeCells z.cells (n*size),size_madeCells _ _,fun w=>?_⟩
 have hby:i.bytes*n<=281474976710656:=by
  rw [hb];exact zP (Nat.mul_le_mul K.sml hn) (by omega)
 have hby':(i.bytes:Int)*(n:Int)<=281474976710656:=by rw [<- Int.natCast_mul];exact Int.ofNat_le.2 hby
 have h:=run_make (P:=prog) w t e i z K.und hi hz .i64 .i64 (n:Int) (n:Int) (by omega) (by omega) hby' (by omega);rw [hs,nF] at h;exact h
theorem qhn (ea:Option Addr) (n cap:Nat) (H:Nat->E3) (w:World) (hn:n<=1048576) (hS:Src w ea (fE H n)):
  Calls prog 50 #[.slice ea n cap] w fun e w'=>∃ a1 c1,e=.returned (.slice a1 n c1)/\w'.ownsRow w.heap.size 47 3 (.slice a1 n c1) n (fE H n)/\Value.slice a1 n c1≠nS/\Bw w w':=by
 have hn':(n:Int)<=1048576:=by omega
 obtain ⟨cs,hcs,hmk⟩:=qj1 kndE n hn;have hcp:=qll kndE w 3 ea n cap (fE H n) (qin _ _) hS (qkz _ _) cs hcs
 have HO:Hid ((w.alloc (.cells (fE H n).toArray 47)).ownsRow w.heap.size 47 3 (sG w.heap.size n n) n (fE H n)/\Bw w (w.alloc (.cells (fE H n).toArray 47))):=by
  refine ⟨?_,zQ _ _⟩;have:=World.ownsRow_lit (base:=w.heap.size) (e:=47) (size:=3) w (fE H n).toArray n (nA _) (by unfold maxLen;omega) (by simp [qin]);exact this
 clear hS hcs
 go_enter func50,ntmps50
 go_wp2;go_ret;exact ⟨_,_,rfl,HO.1,by simp,HO.2⟩
section
variable {z:Bool} {e:TypeId} {sz:Nat} {E:TypeId} {w:World} {P:Nat->Prop} {v:Value} {n:Nat} {u:Nat->Value} {L:Nat->Nat} {c:Nat->List Value}
theorem LL.pushP (o:LL z e sz E w P v n u L c) {w1 w2:World} {u' v':Value} (hsz:w.heap.size<=w1.heap.size) (hb:∀ k,P k->k<w.heap.size->w1.heap[k]? = w.heap[k]?) (hu:w1.ownsRow w.heap.size e sz u' (L n) (c n)) (hne:Nz z e->u'≠nS) (hv:w2.ownsRow 0 E 1 v' (n+1) ((List.range n).map u ++ [u'])) (g:w1.grownBy w2 v.ownBlock)
  (hv':∀ j,v'.ownBlock=some j->v.ownBlock=some j\/w1.heap.size<=j) {P':Nat->Prop} (hP:∀ k,P k->k<w.heap.size->P' k) (hPu:∀ k,u'.ownBlock=some k->P' k) (hPv:∀ k,w1.heap.size<=k->v'.ownBlock=some k->P' k):LL z e sz E w2 P' v' (n+1) (fun j=>if j=n then u' else u j) L c:=by
 have hvlt:∀ k,v.ownBlock=some k->k<w.heap.size:=fun k hk=>(o.row.lt k hk).2
 have hu2 : w2.ownsRow w.heap.size e sz u' (L n) (c n) := hu.kept g (by
  cases hk:u'.ownBlock with
  | none=>exact .inl rfl
  | some k=>
   refine .inr fun e=>?_;have q1:=(hu.lt k hk).1;have q2:=hvlt k e.symm
   omega)
 have ho2:∀ i,i<n->w2.ownsRow 0 e sz (u i) (L i) (c i):=fun i hi=>qaw (o.own i hi) fun k hk=>(g.block k (zL ((o.own i hi).lt k hk).2 hsz) fun e=>o.ra i hi k hk e.symm).trans (hb k (o.ob i hi k hk) ((o.own i hi).lt k hk).2);have lts:∀ i,i<n->∀ k,(u i).ownBlock=some k->k<w.heap.size:=fun i hi k hk=>((o.own i hi).lt k hk).2;refine ⟨?_,fun i hi=>?_,fun k hk=>?_,fun i hi k hk=>?_,fun i hi k hk=>?_,fun i j hi hj hij k hk=>?_,fun hz i hi=>?_⟩
 ·have e:(List.range (n+1)).map (fun j=>if j=n then u' else u j)=(List.range n).map u ++ [u']:=by
   rw [List.range_succ,List.map_append];simp only [List.map_cons,List.map_nil,if_true]
   congr 1
   exact List.map_congr_left fun j hj=>by
    rw [nB];have:=List.mem_range.1 hj;omega
  rw [e];exact hv
 ·by_cases ei:i=n
  ·subst ei
   rw [nC rfl];exact qb4 hu2
  ·rw [nB ei]
   exact ho2 i (by omega)
 ·rcases hv' k hk with h | h
  ·exact hP k (o.rb k h) (hvlt k h)
  ·exact hPv k h hk
 ·by_cases ei:i=n
  ·simp only [nC ei] at hk
   exact hPu k hk
  ·simp only [nB ei] at hk
   exact hP k (o.ob i (by omega) k hk) (lts i (by omega) k hk)
 ·intro hvk
  by_cases ei:i=n
  ·simp only [nC ei] at hk
   rcases hv' k hvk with h | h
   ·have:=hvlt k h
    have:=(hu.lt k hk).1;omega
   ·have:=(hu.lt k hk).2
    omega
  ·simp only [nB ei] at hk
   rcases hv' k hvk with h | h
   ·exact o.ra i (by omega) k hk h
   ·have:=lts i (by omega) k hk
    omega
 ·intro hjk
  by_cases ei:i=n
  ·have ej:j≠n:=fun e=>hij (by omega)
   simp only [nC ei] at hk;simp only [nB ej] at hjk;have:=lts j (by omega) k hjk;have:=(hu.lt k hk).1;omega
  ·simp only [nB ei] at hk
   by_cases ej:j=n
   ·simp only [nC ej] at hjk
    have:=lts i (by omega) k hk;have:=(hu.lt k hjk).1;omega
   ·simp only [nB ej] at hjk
    exact o.oa i j (by omega) (by omega) hij k hk hjk
 ·by_cases ei:i=n
  ·rw [nC ei]
   exact hne hz
  ·rw [nB ei]
   exact o.nn hz i (by omega)
end
section
variable {w:World} {P:Nat->Prop} {v:Value} {n:Nat} {vs:Nat->Value} {S:Nat->S4}
theorem LS.pushP (o:LS w P v n vs S) {w1 w2:World} {u' v':Value} (hsz:w.heap.size<=w1.heap.size) (hb:∀ k,P k->k<w.heap.size->w1.heap[k]? = w.heap[k]?) (hu:qaf w1 w.heap.size u' (S n).p (S n).rs (S n).os (S n).c) (hv:w2.ownsRow 0 73 4 v' (n+1) (flat (fun i=>cellsL (vs i)) n ++ cellsL u')) (g:w1.grownBy w2 v.ownBlock)
  (hv':∀ j,v'.ownBlock=some j->v.ownBlock=some j\/w1.heap.size<=j) {P':Nat->Prop} (hP:∀ k,P k->k<w.heap.size->P' k) (hPu:∀ k,qal u' k->P' k) (hPv:∀ k,w1.heap.size<=k->v'.ownBlock=some k->P' k):LS w2 P' v' (n+1) (fun j=>if j=n then u' else vs j) S:=by
 have hvlt:∀ k,v.ownBlock=some k->k<w.heap.size:=fun k hk=>(o.row.lt k hk).2;have lts:∀ i,i<n->∀ k,qal (vs i) k->k<w.heap.size:=fun i hi k hk=>((o.own i hi).lt hk).2
 have hu2:qaf w2 w.heap.size u' (S n).p (S n).rs (S n).os (S n).c:=hu.blk fun k hk=>g.block k (hu.lt hk).2 fun e=>by
  have q1:=(hu.lt hk).1;have q2:=hvlt k e.symm;omega
 have ho2:∀ i,i<n->qaf w2 0 (vs i) (S i).p (S i).rs (S i).os (S i).c:=fun i hi=>(o.own i hi).blk fun k hk=>(g.block k (zL (lts i hi k hk) hsz) fun e=>o.ra i hi k hk e.symm).trans (hb k (o.ob i hi k hk) (lts i hi k hk));refine ⟨?_,fun i hi=>?_,fun k hk=>?_,fun i hi k hk=>?_,fun i hi k hk=>?_,fun i j hi hj hij k hk=>?_⟩
 ·have e:flat (fun i=>cellsL (if i=n then u' else vs i)) (n+1)=flat (fun i=>cellsL (vs i)) n ++ cellsL u':=by
   rw [flat,nC rfl]
   congr 1
   exact qcc fun i hi=>by rw [nB (by omega)]
  rw [e];exact hv
 ·by_cases ei:i=n
  ·subst ei
   simp only [if_true];exact hu2.mono (nD _)
  ·simp only [nB ei]
   exact ho2 i (by omega)
 ·rcases hv' k hk with h | h
  ·exact hP k (o.rb k h) (hvlt k h)
  ·exact hPv k h hk
 ·by_cases ei:i=n
  ·simp only [nC ei] at hk
   exact hPu k hk
  ·simp only [nB ei] at hk
   exact hP k (o.ob i (by omega) k hk) (lts i (by omega) k hk)
 ·intro hvk
  by_cases ei:i=n
  ·simp only [nC ei] at hk
   rcases hv' k hvk with h | h
   ·have:=hvlt k h
    have:=(hu.lt hk).1;omega
   ·have:=(hu.lt hk).2
    omega
  ·simp only [nB ei] at hk
   rcases hv' k hvk with h | h
   ·exact o.ra i (by omega) k hk h
   ·have:=lts i (by omega) k hk
    omega
 ·intro hjk
  by_cases ei:i=n
  ·have ej:j≠n:=fun e=>hij (by omega)
   simp only [nC ei] at hk;simp only [nB ej] at hjk;have:=lts j (by omega) k hjk;have:=(hu.lt hk).1;omega
  ·simp only [nB ei] at hk
   by_cases ej:j=n
   ·simp only [nC ej] at hjk
    have:=lts i (by omega) k hk;have:=(hu.lt hjk).1;omega
   ·simp only [nB ej] at hjk
    exact o.oa i j (by omega) (by omega) hij k hk hjk
end
section
variable {z:Bool} {B N:Nat} {c:Nat->Nat} {y:Sy} {wr:World} {vp vs vw vh:Value} {up us uw uh:Nat->Value}
theorem AtP.both (h:AtP z B N c y wr vp vs vw vh up us uw uh) {w1 w2 w3 w4:World} {ue ust v3 v4:Value} (b1:Bw wr w1) (hue:w1.ownsRow wr.heap.size 47 3 ue (y.hL y.hn) (fE (y.hH y.hn) (y.hL y.hn))) (hne:ue≠nS) (b2:Bw w1 w2) (hst:qaf w2 w1.heap.size ust (y.sS y.sn).p (y.sS y.sn).rs (y.sS y.sn).os (y.sS y.sn).c)
  (hv3:w3.ownsRow 0 48 1 v3 (y.hn+1) ((List.range y.hn).map uh ++ [ue])) (g3:w2.grownBy w3 vh.ownBlock) (hv3':∀ j,v3.ownBlock=some j->vh.ownBlock=some j\/w2.heap.size<=j)
  (hv4:w4.ownsRow 0 73 4 v4 (y.sn+1) (flat (fun i=>cellsL (us i)) y.sn ++ cellsL ust)) (g4:(w3.setCell ⟨N,3,none⟩ v3).grownBy w4 vs.ownBlock) (hv4':∀ j,v4.ownBlock=some j->vs.ownBlock=some j\/(w3.setCell ⟨N,3,none⟩ v3).heap.size<=j):
  ∃ c',AtP z B N c' { y with sn:=y.sn+1,hn:=y.hn+1 } (w4.setCell (aQ N 1) v4) vp v4 vw v3 up (fun j=>if j=y.sn then ust else us j) uw (fun j=>if j=y.hn then ue else uh j):=by
 have hN:=h.lt;have hBN:=h.bN;have s1:=b1.size;have s2:=b2.size;have s3:=g3.size;have s4:=g4.size;have s3':(w3.setCell (aQ N 3) v3).heap.size=w3.heap.size:=by simp
 rw [s3'] at s4;obtain ⟨q,hq⟩:∃ q:Nat->Nat,q=fun k=>if k<wr.heap.size then c k else if k<w1.heap.size then 4 else if k<w2.heap.size then 2 else if k<w3.heap.size then 4 else 2:=⟨_,rfl⟩
 have q0:∀ k,k<wr.heap.size->q k=c k:=fun k hk=>by rw [hq];exact nC hk
 have q1:∀ k,wr.heap.size<=k->k<w1.heap.size->q k=4:=fun k h1 h2=>by rw [hq];dsimp only;rw [nB (by omega),nC h2]
 have q2:∀ k,w1.heap.size<=k->k<w2.heap.size->q k=2:=fun k h1 h2=>by rw [hq];dsimp only;rw [nB (by omega),nB (by omega),nC h2]
 have q3:∀ k,w2.heap.size<=k->k<w3.heap.size->q k=4:=fun k h1 h2=>by rw [hq];dsimp only;rw [nB (by omega),nB (by omega),nB (by omega),nC h2]
 have q4:∀ k,w3.heap.size<=k->q k=2:=fun k h1=>by rw [hq];dsimp only;rw [nB (by omega),nB (by omega),nB (by omega),nB (by omega)]
 clear hq;have qN:q N=0:=(q0 N hN).trans h.cN;have vhc:∀ k,vh.ownBlock=some k->k<wr.heap.size/\c k=4:=fun k hk=>⟨(h.o.h.row.lt k hk).2,(h.o.h.rb k hk).2⟩
 have vsc:∀ k,vs.ownBlock=some k->k<wr.heap.size/\c k=2:=fun k hk=>⟨(h.o.s.row.lt k hk).2,(h.o.s.rb k hk).2⟩
 have e12:∀ k,k<wr.heap.size->w2.heap[k]? = wr.heap[k]?:=fun k hk=>(b2.block k (by omega)).trans (b1.block k hk);have e3:∀ k,k<w2.heap.size->q k≠4->k≠N->(w3.setCell ⟨N,3,none⟩ v3).heap[k]? = w2.heap[k]?:=fun k hk hc hn=>(zO _ _ _ _ hn).trans (g3.block k hk fun e=>hc (by rw [q0 k (vhc k e.symm).1];exact (vhc k e.symm).2));have e4:∀ k,k<w3.heap.size->q k≠2->k≠N->(w4.setCell ⟨N,1,none⟩ v4).heap[k]? = (w3.setCell ⟨N,3,none⟩ v3).heap[k]?:=fun k hk hc hn=>(zO _ _ _ _ hn).trans (g4.block k (by rw [s3'];exact hk) fun e=>hc (by rw [q0 k (vsc k e.symm).1];exact (vsc k e.symm).2));have hP:∀ i k,Cl B c i k->k<wr.heap.size->Cl B q i k:=fun i k hk hl=>⟨hk.1,(q0 k hl).trans hk.2⟩
 have hnN:∀ i k,i≠0->Cl B q i k->k≠N:=fun i k hi hk e=>hi (by rw [<- hk.2,e,qN]);have eN2:w2.heap[N]? = wr.heap[N]?:=e12 N hN
 have eN3 : w3.heap[N]? = wr.heap[N]? := (g3.block N (by omega) fun e => by
  have:=(vhc N e.symm).2;rw [h.cN] at this
  cases this).trans eN2
 have eN4:w4.heap[N]? = (w3.setCell (aQ N 3) v3).heap[N]?:=g4.block N (by rw [s3'];omega) fun e=>by
  have:=(vsc N e.symm).2;rw [h.cN] at this;cases this
 obtain ⟨x0,x1,x2,x3⟩:=h.bx;have c3:∀ j,w3.cell? ⟨N,j,none⟩=wr.cell? ⟨N,j,none⟩:=fun j=>zH eN3;have c4:∀ j,w4.cell? ⟨N,j,none⟩=(w3.setCell ⟨N,3,none⟩ v3).cell? ⟨N,j,none⟩:=fun j=>zH eN4;have hkk:∀ i,i≠0->i≠2->i≠4->∀ k,Cl B q i k->k<wr.heap.size->(w4.setCell ⟨N,1,none⟩ v4).heap[k]? = wr.heap[k]?:=fun i h0 h2 h4 k hk hl=>((e4 k (by omega) (by rw [hk.2];exact h2) (hnN i k h0 hk)).trans (e3 k (by omega) (by rw [hk.2];exact h4) (hnN i k h0 hk))).trans (e12 k hl);refine ⟨q,⟨?_,?_,?_,?_⟩,fun j=>?_,qN,hBN,⟨?_,?_,?_,?_⟩⟩
 ·rw [World.cell?_setCell_other _ _ _ _ (by simp),c4,World.cell?_setCell_other _ _ _ _ (by simp),c3];exact x0
 ·exact World.cell?_setCell_same _ _ _ (((c4 1).trans ((World.cell?_setCell_other _ _ _ _ (by simp)).trans (c3 1))).trans x1)
 ·rw [World.cell?_setCell_other _ _ _ _ (by simp),c4,World.cell?_setCell_other _ _ _ _ (by simp),c3];exact x2
 ·rw [World.cell?_setCell_other _ _ _ _ (by simp),c4];exact World.cell?_setCell_same _ _ _ ((c3 3).trans x3)
 ·rw [World.frozen?_setCell,zI eN4,World.frozen?_setCell,zI eN3];exact h.fr j
 ·exact (h.o.p.mono (hP 1)).keep (hkk 1 (by decide) (by decide) (by decide))
 ·have hs':qaf (w3.setCell (aQ N 3) v3) wr.heap.size ust (y.sS y.sn).p (y.sS y.sn).rs (y.sS y.sn).os (y.sS y.sn).c:=(hst.mono s1).blk fun k hk=>by
   have hl:=hst.lt hk;exact e3 k hl.2 (by rw [q2 k hl.1 hl.2];decide) (by omega)
  refine (h.o.s.pushP (w1:=w3.setCell (aQ N 3) v3) (w2:=w4) (P':=Cl B q 2) (by omega) (fun k hk hl=>?_) hs' hv4 g4 hv4' (hP 2) (fun k hk=>?_) (fun k h1 hk=>?_)).keep fun k hk _=>zO _ _ _ _ (hnN 2 k (by decide) hk)
  ·exact (e3 k (by omega) (by rw [(hP 2 k hk hl).2];decide) (hnN 2 k (by decide) (hP 2 k hk hl))).trans (e12 k hl)
  ·have hl:=hst.lt hk
   exact ⟨by omega,q2 k hl.1 hl.2⟩
  ·exact ⟨by omega,q4 k (by omega)⟩
 ·exact (h.o.t.mono (hP 3)).keep (hkk 3 (by decide) (by decide) (by decide))
 ·have hue2:w2.ownsRow wr.heap.size 47 3 ue (y.hL y.hn) (fE (y.hH y.hn) (y.hL y.hn)):=qaw hue fun k hk=>b2.block k (hue.lt k hk).2
  refine (h.o.h.pushP (w1:=w2) (w2:=w3) (P':=Cl B q 4) (by omega) (fun k _ hl=>e12 k hl) hue2 (fun _=>hne) hv3 g3 hv3' (hP 4) (fun k hk=>?_) (fun k h1 hk=>?_)).keep fun k hk hl=>(e4 k hl (by rw [hk.2];decide) (hnN 4 k (by decide) hk)).trans (zO _ _ _ _ (hnN 4 k (by decide) hk))
  ·have hl:=hue.lt k hk
   exact ⟨by omega,q1 k hl.1 hl.2⟩
  ·exact ⟨by omega,q3 k h1 (hv3.lt k hk).2⟩
theorem AtP.putW {g cap:Nat} (h:AtP z B N c y wr vp vs (sG g y.wn cap) vh up us uw uh) {i:Nat} (hi:i<y.wn) {w1:World} {u':Value} {m:Nat} {H':Nat->I2} (hs:wr.heap.size<=w1.heap.size) (g1:∀ k,k<wr.heap.size->(uw i).ownBlock≠some k->w1.heap[k]? = wr.heap[k]?)
  (hu:w1.ownsRow 0 94 2 u' m (fT H' m)) (hne:u'≠nS) (hb:∀ k,u'.ownBlock=some k->(uw i).ownBlock=some k\/wr.heap.size<=k):
  AtP z B N (rcol c wr.heap.size 3) (y.setW i m H') (w1.setCell (aQ g i) u') vp vs (sG g y.wn cap) vh up us (fun j=>if j=i then u' else uw j) uh:=by
 have hN:=h.lt;have hgc:c g=3:=(h.o.t.rb g rfl).2;have hgN:N≠g:=fun e=>by rw [<- e,h.cN] at hgc;cases hgc
 have eN : (w1.setCell ⟨g, i, none⟩ u').heap[N]? = wr.heap[N]? := (Below.heap_setCell _ _ _ _ hgN).trans (g1 N hN fun e => by
  have:=(h.o.t.ob i hi N e).2;rw [h.cN] at this
  cases this)
 obtain ⟨x0,x1,x2,x3⟩:=h.bx;exact ⟨⟨(zH eN).trans x0,(zH eN).trans x1,(zH eN).trans x2,(zH eN).trans x3⟩,fun j=>(zI eN).trans (h.fr j),(qat hN).trans h.cN,h.bN,h.o.putW hi (zP h.bN (nJ hN)) hs g1 hu hne hb⟩
end
theorem BoxC.blkA {w w':World} {N:Nat} {p vr vo code:Value} (h:BoxC w N p vr vo code) (hb:w'.heap[N]? = w.heap[N]?):BoxC w' N p vr vo code:=by
 obtain ⟨h0,h1,h2,h3⟩:=h;exact ⟨(zH hb).trans h0,(zH hb).trans h1,(zH hb).trans h2,(zH hb).trans h3⟩
theorem AtP.startM {W1 w:World} {n:Nat} {L:Nat->Nat} {H:Nat->Nat->I5} {v1 v2 v3 v4:Value} (h:NwF W1 n L H true true false true v1 v2 v3 v4 w) (S:Nat->S4) (wH:Nat->Nat->I2) (d:Nat->Nat) (hH:Nat->Nat->E3):
  ∃ N c up,v4=.pointer (some ⟨N,0,none⟩)/\N<w.heap.size/\BoxC w N nS nS nS nS/\(∀ j,w.frozen? ⟨N,j,none⟩=false)/\W1.heap.size<=N/\AtP false W1.heap.size N c ⟨n,L,H,0,S,n*n,fun _=>0,wH,0,d,hH⟩ ((((w.setCell ⟨N,0,none⟩ v1).setCell ⟨N,1,none⟩ nS).setCell ⟨N,2,none⟩ v2).setCell ⟨N,3,none⟩ nS) v1 nS v2 nS up (fun _=>.slice none 0 0) (fun _=>.slice none 0 0) (fun _=>.slice none 0 0):=by
 obtain ⟨k,h1,h2,-,h4⟩:=h.ow;obtain ⟨N,e,hN,bx,fr,cN⟩:=h4 rfl;obtain ⟨u,o⟩:=h1 rfl;have hl:=zJ w _ bx.1
 have hk:∀ i,i≠0->∀ j,Cl W1.heap.size k i j->j<w.heap.size->((((w.setCell ⟨N,0,none⟩ v1).setCell ⟨N,1,none⟩ nS).setCell ⟨N,2,none⟩ v2).setCell ⟨N,3,none⟩ nS).heap[j]? = w.heap[j]?:=fun i hi j hj _=>by
  have hne:j≠N:=fun e=>hi (by rw [<- hj.2,e,cN]);exact (zO _ _ _ _ hne).trans ((zO _ _ _ _ hne).trans ((zO _ _ _ _ hne).trans (zO _ _ _ _ hne)))
 obtain ⟨g0,g1,g2,g3⟩:=id bx;exact ⟨N,k,u,e,hl,bx,fr,hN,BoxC.set4 ⟨g0,g1,g2,g3⟩ _ _ _ _,fun j=>by simp only [World.frozen?_setCell];exact fr j,cN,hN,⟨(o.keep (hk 1 (by decide))).weak,LS.nil _ _ _ _,((h2 rfl).keep (hk 3 (by decide))).ll (by decide) _ (fun _=>rfl),LL.nil _ _ _ _ _ _ _ _⟩⟩
section
variable {P:Program} {ops:Array Oper} {Q:Exit->Act->World->Prop} {md:Region.Mode} {S:World->Prop} {G:Nat->Bool}
theorem qso (lst:Bool->Bool->Bool->Bool->Array Bool) (i2 i3 i4 i5:Nat) {o5:Oper} (I:Bool->Bool->Bool->Act->World->Prop) (J:Bool->Act->World->Prop) {f0:Nat}
  (hrd:∀ b c d,(b && c)=false->Region.ready md ops (lst b c d false)=outI b i2 ++ (outI c i3 ++ outI d i4))
  (s2:∀ c d,(lst false c d false).setIfInBounds i2 true=lst true c d false) (s3:∀ b d,(lst b false d false).setIfInBounds i3 true=lst b true d false) (s4:∀ b c e,(lst b c false e).setIfInBounds i4 true=lst b c true e) (s5:∀ d,(lst true true d false).setIfInBounds i5 true=lst true true d true)
  (e5:ops.toList[i5]? = some o5) (hs:Region.noSelect ops=true) (hf:∀ d,Region.free md ops (lst true true d false) i5=true) (hr5:∀ d,(Region.ready md ops (lst true true d false)).contains i5=true) (hrJ:Region.ready md ops (lst true true false true)=[i4]) (hQ:∀ v c a w,Q (.panic c) (a.put o5.dst v) w->Q (.panic c) a w)
  (h2:∀ c d x w,I false c d x w->wpOp P ops Q i2 (fun x' w'=>(S w->G i2=false->S w')/\I true c d x' w') x w)
  (h3:∀ b d x w,I b false d x w->wpOp P ops Q i3 (fun x' w'=>(S w->G i3=false->S w')/\I b true d x' w') x w) (h4:∀ b c x w,I b c false x w->wpOp P ops Q i4 (fun x' w'=>(S w->G i4=false->S w')/\I b c true x' w') x w)
  (h5:∀ d x w,I true true d x w->Region.wanted o5 (yielded ops x.tmps)=true/\∃ v,(∀ w,(execOp x.eval o5).run P w=.ok (.value v) w)/\J d (x.put o5.dst v) w)
  (hJ:∀ x w,J false x w->wpOp P ops Q i4 (fun x' w'=>(S w->G i4=false->S w')/\J true x' w') x w)
  (hend:∀ x w,J true x w->wpG P md ops Q S G f0 (lst true true true true) x w):
  ∀ (m:Nat) (b c d:Bool) (x:Act) (w:World),notB b+notB c+notB d=m->I b c d x w->wpG P md ops Q S G (f0+m+1) (lst b c d false) x w:=by
 intro m
 induction m with
 | zero=>
  intro b c d x w hm hI
  obtain ⟨rfl,rfl,rfl⟩:b=true/\c=true/\d=true:=by
   cases b <;> cases c <;> cases d <;> simp [notB] at hm ⊢
  obtain ⟨hw,v,hv,hj⟩:=h5 _ x w hI;exact qdm i5 e5 hs (hf _) (hr5 _) hQ hw ⟨v,hv,by rw [s5];exact hend _ _ hj⟩
 | succ m ih=>
  intro b c d x w hm hI
  rcases zK (b && c) with hT | hne
  ·obtain ⟨rfl,rfl⟩:b=true/\c=true:=by
    cases b <;> cases c <;> simp at hT ⊢
   obtain ⟨rfl,rfl⟩:d=false/\m=0:=by
    cases d <;> simp [notB] at hm ⊢ <;> exact hm
   obtain ⟨hw,v,hv,hj⟩:=h5 _ x w hI;refine qdm i5 e5 hs (hf _) (hr5 _) hQ hw ⟨v,hv,?_⟩;rw [s5];refine ⟨(fun h0=>by rw [hrJ] at h0;cases h0),fun i hi=>?_⟩;rw [hrJ] at hi;obtain rfl:=List.mem_singleton.1 hi;refine wpOp_mono (fun x' w' h=>⟨h.1,?_⟩) (hJ _ _ hj);rw [s4];exact hend _ _ h.2
  have hr:=hrd b c d hne;refine ⟨fun h0=>?_,fun i hi=>?_⟩
  ·rw [hr] at h0
   cases b <;> cases c <;> cases d <;> simp [outI] at h0 hne
  ·rw [hr,List.mem_append,List.mem_append] at hi
   rcases hi with hi | hi | hi
   ·obtain ⟨rfl,rfl⟩:=qdu hi
    refine wpOp_mono (fun x' w' h=>⟨h.1,?_⟩) (h2 c d x w hI);rw [s2];exact ih true c d x' w' (by simp [notB] at hm ⊢;omega) h.2
   ·obtain ⟨rfl,rfl⟩:=qdu hi
    refine wpOp_mono (fun x' w' h=>⟨h.1,?_⟩) (h3 b d x w hI);rw [s3];exact ih b true d x' w' (by simp [notB] at hm ⊢;omega) h.2
   ·obtain ⟨rfl,rfl⟩:=qdu hi
    refine wpOp_mono (fun x' w' h=>⟨h.1,?_⟩) (h4 b c x w hI);rw [s4];exact ih b c true x' w' (by simp [notB] at hm ⊢;omega) h.2
end
open Go.Shelf
def gnL (n:Nat) (d:Nat->Nat):(k:Nat)->k<=n->List (Fin n × Nat)
 | 0,_=>[]
 | k+1,h=>if 0<d k then gnL n d k (Nat.le_of_succ_le h) ++ [(⟨k,h⟩,d k)] else gnL n d k (Nat.le_of_succ_le h)
theorem qqt (n:Nat) (d:Nat->Nat):∀ (k:Nat) (h:k<=n),(gnL n d k h).length<=k
 | 0,_=>nA _
 | k+1,h=>by
  have:=qqt n d k (Nat.le_of_succ_le h);rw [gnL]
  split
  ·simp;omega
  ·omega
theorem qmp {n:Nat} {d:Nat->Nat} {k:Nat} (h:k<n) (hd:0<d k):gnL n d (k+1) h=gnL n d k (nJ h) ++ [(⟨k,h⟩,d k)]:=by rw [gnL,nC hd]
theorem qn1 {n:Nat} {d:Nat->Nat} {k:Nat} (h:k<n) (hd:¬ 0<d k):gnL n d (k+1) h=gnL n d k (nJ h):=by rw [gnL,nB hd]
structure Kq (m c:Nat) (W W':World):Prop where
 lo:Below c W W'
 hi:∀ b,c<b->b<m->W'.heap[b]? = W.heap[b]?
theorem Kq.refl (m c:Nat) (W:World):Kq m c W W:=⟨nE _ _,fun _ _ _=>rfl⟩
theorem Kq.trans {m c:Nat} {A B C:World} (h:Kq m c A B) (k:Kq m c B C):Kq m c A C:=⟨h.lo.trans k.lo,fun b h1 h2=>(k.hi b h1 h2).trans (h.hi b h1 h2)⟩
theorem Kq.of {m c:Nat} {A B:World} (h:Bw A B) (hm:m<=A.heap.size) (hc:c<=m):Kq m c A B:=⟨h.mono (zP hc hm),fun b _ h1=>h.block b (zL h1 hm)⟩
theorem Kq.b {m c:Nat} {w:World} (hm:m<=w.heap.size) (hc:c<=m) (W:World) (l:Nat) (o o':Obj) (hl:w.heap.size<=l) (h:W.heap[l]? = some o) (h1:o.isCells=false) (h2:o.isWalk=false):Kq m c W (W.putObj l o'):=
 ⟨belowK_b (zP hc hm) W l o o' hl h h1 h2,fun b _ hb=>(belowK_b hm W l o o' hl h h1 h2).block b hb⟩
theorem Al.ex (g h:Nat->E3):∀ m:Nat,∃ r,Al g h m r
 | 0=>⟨0,nA _,fun _ hi=>absurd hi (Nat.not_lt_zero _),fun h=>absurd h (Nat.not_lt_zero _)⟩
 | m+1=>by
  obtain ⟨r,a⟩:=Al.ex g h m;by_cases hr:r<m
  ·exact ⟨r,by omega,a.eq,fun _=>a.ne hr⟩
  ·obtain rfl:r=m:=by have:=a.le;omega
   by_cases e:g r=h r
   ·exact ⟨r + 1, nA _, fun i hi => by
     by_cases e':i=r
     ·rw [e'];exact e
     ·exact a.eq i (by omega),fun h'=>absurd h' (Nat.lt_irrefl _)⟩
   ·exact ⟨r,by omega,a.eq,fun _=>e⟩
structure Hv where
 a:Option Addr
 n:Nat
 c:Nat
 A:Nat->Option Addr
 L:Nat->Nat
 C:Nat->Nat
 g:Nat->Nat->E3
structure Hv.In (h:Hv) (W:World) (B:Nat):Prop where
 b:W.cell? (aQ B 3)=some (.slice h.a h.n h.c)
 r:RowS W h.a h.n fun i=>.slice (h.A i) (h.L i) (h.C i)
 e:∀ i,i<h.n->EvL W (h.A i) (h.L i) (h.g i)
theorem qs6 (dp:Nat) (hdp:1<=dp) (l Bs Bo m c:Nat) (x y:Hv) (hxy:x.n<=y.n) (hn:x.n<=1048576) (hl:∀ i,i<x.n->x.L i<=1048576/\y.L i<=1048576) (d:Nat->Nat)
  (hd:∀ i,i<x.n->∀ r,Al (x.g i) (y.g i) (min (x.L i) (y.L i)) r->x.L i - r=d i) (W:World) (hm:m<=W.heap.size) (hcm:c<=m) (hF:∀ W',Kq m c W W'->x.In W' Bs/\y.In W' Bo)
  (J Jx:List (Fin x.n × Nat)->World->Prop) (hJ:AbidesFrom W.heap.size J)
  (hY : ∀ pre z W1, J pre W1 → pre.length < x.n → YieldAt Fence.wide (dp - 1) prog l #[iV (z.1.val : Nat), iV (z.2 : Nat)] W1 fun e W' =>
   (e=.returned (.bool true)/\J (pre ++ [z]) W'/\Kq m c W1 W')\/(e=.returned (.bool false)/\Jx (pre ++ [z]) W'))
  (h0:J [] W):
  CallsIn Fence.wide dp prog 71 #[.func (.yield l) #[] #[],.pointer (some (aQ Bs 0)),.pointer (some (aQ Bo 0))] W fun e W'=>(∃ v,e=.returned v)/\
   ((∃ ys,ys=gnL x.n d x.n (nA _)/\J ys W')\/(∃ pre,(∃ k,∃ h:k<x.n,0<d k/\pre=gnL x.n d (k+1) h)/\Jx pre W')):=by
 obtain ⟨xa,xn,xc,xA,xL,xC,xg⟩:=x;obtain ⟨ya,yn,yc,yA,yL,yC,yg⟩:=y;dsimp only at *;have HF:Hid (∀ W',Kq m c W W'->Hv.In ⟨xa,xn,xc,xA,xL,xC,xg⟩ W' Bs/\Hv.In ⟨ya,yn,yc,yA,yL,yC,yg⟩ W' Bo):=hF;have bs:=(hF W (Kq.refl _ _ _)).1.b;have HD:Hid (∀ i,i<xn->∀ r,Al (xg i) (yg i) (min (xL i) (yL i)) r->xL i - r=d i):=hd;have hn':(xn:Int)<=1048576:=by omega
 clear hF hd;refine callsIn_of_wp func71 rfl trivial ?_ rfl;simp only [ntmps71,List.size_toArray,List.length_cons,List.length_nil,Nat.reduceAdd,Nat.reduceSub,Array.replicate_succ,Array.replicate_zero,List.push_toArray,List.append_toArray,List.nil_append,List.cons_append]
 gi_wp2
 gi_loopw [10] (fun i wr=>∃ k:Nat,∃ h:k<=xn,i=iV k/\J (gnL xn d k h) wr/\Kq m c W wr) (fun i _=>xn - (intOf i).toNat)
 case atStart=>exact ⟨0,nD _,rfl,h0,Kq.refl _ _ _⟩
 case round=>
  obtain ⟨k,hk,rfl,hJs,hq⟩:=hrel;by_cases hlt:k<xn
  ·have hlt':(k:Int)<(xn:Int):=by omega
   obtain ⟨hxI,hyI⟩:=HF.out wr hq;obtain ⟨b,o,eb,cb⟩:=hxI.r.at hlt;obtain ⟨b',o',eb',cb'⟩:=hyI.r.at (zL hlt hxy);have hex:=hxI.e k hlt;have hey:=hyI.e k (zL hlt hxy);have bo:=hyI.b;dsimp only at eb eb' cb cb' hex hey bo;subst eb eb';have hly:(k:Int)<(yn:Int):=by omega
   obtain ⟨hl1,hl2⟩:=hl k hlt
   have HA:Hid (Calls prog 72 #[.slice (xA k) (xL k) (xC k),.slice (yA k) (yL k) (yC k)] wr fun e w'=>∃ r:Nat,e=.returned (iV r)/\(xL k:Int) - (r:Int)=(d k:Int)/\Bw wr w'):=
    (qp9 (xA k) (yA k) (xL k) (yL k) (xC k) (yC k) (xg k) (yg k) wr hl1 hl2 hex hey).mono fun e w' ⟨r,e1,a1,b1⟩=>⟨r,e1,by have h1:=HD.out k hlt r a1;have h2:=a1.le;omega,b1⟩
   have hdl:d k<=xL k:=by
    obtain ⟨r,hr⟩:=Al.ex (xg k) (yg k) (min (xL k) (yL k));have:=HD.out k hlt r hr;omega
   have hdk:(d k:Int)<=1048576:=by omega
   have BQ:∀ w1,Bw wr w1->J (gnL xn d k hk) w1/\Kq m c W w1:=fun w1 b1=>⟨hJ _ _ _ none hJs (zZ b1) (fun r e=>by cases e),hq.trans (Kq.of b1 (zP hm hq.lo.size) hcm)⟩
   clear hxI hyI hex hey hl1 hl2 hl hJs;by_cases hp:0<d k
   ·have hp':(0:Int)<(d k:Int):=by omega
    gi_wp2_with (refine ⟨trivial,?_⟩;gi_at_call 72;refine (callsIn_wide.2 HA.out).mono ?_;clear HA;rintro e w1 ⟨r,rfl,hr,b1⟩;obtain ⟨fn,tmps,assign,body,hy,hR⟩:=hY (gnL xn d k hk) (⟨k,hlt⟩,d k) w1 (BQ w1 b1).1 (Nat.lt_of_le_of_lt (qqt _ _ _ _) hlt);dsimp only at hy)
    refine hR.mono ?_;rintro e W3 (⟨rfl,hJ3,hk3⟩ | ⟨rfl,hJx3⟩)
    ·gi_wp2
     go_roundw
     case rel=>exact ⟨k+1,hlt,by go_num,by rw [qmp hlt hp];exact hJ3,(BQ w1 b1).2.trans hk3⟩
     case measure=>simp [intOf];omega
    ·gi_wp2
     refine bodyPost_ret (results_none rfl _ _ _) rfl ?_;exact ⟨⟨_,rfl⟩,.inr ⟨_,⟨k,hlt,hp,(qmp hlt hp).symm⟩,hJx3⟩⟩
   ·have hp':(d k:Int)=0:=by omega
    gi_wp2_with (refine ⟨trivial,?_⟩;gi_at_call 72;refine (callsIn_wide.2 HA.out).mono ?_;clear HA;rintro e w1 ⟨r,rfl,hr,b1⟩)
    refine ⟨fun _ h=>(by cases h),?_⟩
    gi_wp2
    go_roundw
    case rel=>exact ⟨k+1,hlt,by go_num,by rw [qn1 hlt hp];exact (BQ w1 b1).1,(BQ w1 b1).2⟩
    case measure=>simp [intOf];omega
  ·obtain rfl:k=xn:=by omega
   gi_wp2
   go_end0
   exact ⟨⟨_,rfl⟩,.inl ⟨_,rfl,hJs⟩⟩
variable {z:Bool}
theorem qlj (b n cap:Nat) (lim:Int) (H:Nat->I2) (w:World) (h0:0<n) (hn:n<=1000) (hc:n<=cap) (hcm:cap<=maxLen) (hb:b<w.heap.size) (hI:ItAt w b 0 n H):
  Calls prog 87 #[.agg #[.slice (some (aQ b 0)) n cap,iV lim]] w fun e w'=>∃ a c,e=.returned (.slice a (n - 1) c)/\w'.ownsRow w.heap.size 94 2 (.slice a (n - 1) c) (n - 1) (fT (fun i=>H (i+1)) (n - 1))/\Value.slice a (n - 1) c≠nS/\Bw w w':=by
 have hn':(1:Int)<=(n:Int):=by omega
 have hnc:(n:Int)<=(cap:Int):=by omega
 have hl1:(n:Int) - 1=((n - 1:Nat):Int):=by omega
 have BA:Hid (Bw w (w.alloc (.cells #[.slice (some (aQ b 0)) n cap,iV lim] 119))):=zQ _ _
 have SR:Hid (Src w (some (aQ b 2)) (fT (fun i=>H (i+1)) (n - 1))):=by
  refine qpz (sz:=2) hb (by omega) (fun _ _=>rfl) fun i hi j hj=>?_;obtain ⟨q0,q1⟩:=hI (i+1) (by omega)
  match j,hj with
  | 0,_=>rw [show 2+(i*2+0)=0+(i+1)*2 by omega];exact q0
  | 1,_=>rw [show 2+(i*2+1)=0+(i+1)*2+1 by omega];exact q1
 have HN:Hid (0<n/\n<=1000/\n<=cap):=⟨h0,hn,hc⟩
 clear hI;by_cases hcb:cap=1
 ·subst hcb
  have hn1:n=1:=by omega
  subst hn1;clear hl1 hnc hn' h0 hn hc
  go_enter func87,ntmps87
  go_wp2_with fail
  refine (qdq _ _ 0 _ (fun i=>H (i+1)) _ (by omega) (.inl rfl)).mono ?_;rintro e w5 ⟨a5,c5,rfl,o5,n5,b5⟩;have F5:Hid (w5.ownsRow w.heap.size 94 2 (.slice a5 0 c5) 0 (fT (fun i=>H (i+1)) 0)/\Value.slice a5 0 c5≠nS/\Bw w w5):=⟨o5.mono (by simp),n5,BA.trans (b5.mono BA.size)⟩
  clear o5 n5 b5;go_wp2;go_ret;exact ⟨_,_,rfl,F5.out⟩
 ·go_enter func87,ntmps87
  go_wp2_with fail
  refine (qdq b 2 (n - 1) _ (fun i=>H (i+1)) _ (by have:=HN.out;omega) (SR.bw BA.out)).mono ?_;rintro e w5 ⟨a5,c5,rfl,o5,n5,b5⟩;have F5:Hid (w5.ownsRow w.heap.size 94 2 (.slice a5 (n - 1) c5) (n - 1) (fT (fun i=>H (i+1)) (n - 1))/\Value.slice a5 (n - 1) c5≠nS/\Bw w w5):=⟨o5.mono (by simp),n5,BA.trans (b5.mono BA.size)⟩
  clear o5 n5 b5;go_wp2;go_ret;exact ⟨_,_,rfl,F5.out⟩
theorem Tryz.et : prog.globalNamed "errors.errorType" = some 0 := by kernel_rfl
theorem Tryz.rt : (prog.cutTypes.find? (·.1 == "internal/reflectlite.rtype")).map (·.2) = some 221 := by kernel_rfl
theorem Tryz.oneRow:((List.range 269).filter fun t=>prog.rowNamed t [101,114,114,111,114])=[132]:=by kernel_rfl
theorem Tryz.tsize:prog.types.size=269:=by kernel_rfl
theorem qia {W : World} (h : laidMetH prog [("errors.errorType", Rows.laid_errors_errorType)] W) : W.cell? (aQ 0 0) = some vT := by
 have h' : laidMet prog [] W /\ handlesMet prog [("errors.errorType", Rows.laid_errors_errorType)] W := h
 obtain ⟨name,u,ty,e1,e2,e3,e4,e5⟩:=h'.2 _ (List.mem_singleton.2 rfl);have en:name=[101,114,114,111,114]:=(Option.some.inj e1).symm;subst en;obtain rfl:=Option.some.inj (Tryz.rt.symm.trans e2);have hm:ty ∈ (List.range 269).filter fun t=>prog.rowNamed t [101,114,114,111,114]:=List.mem_filter.2 ⟨List.mem_range.2 (by rw [<- Tryz.tsize];exact e3),e4⟩;rw [Tryz.oneRow] at hm;obtain rfl:=List.mem_singleton.1 hm;have hh:typeHandle prog 132=.pointer (some (aQ 1 132)):=by kernel_rfl
 rw [hh] at e5;simpa using World.var?_cell Tryz.et e5 0
noncomputable def qla (os:Os):World:=
 let w0:=World.holding prog os ⟨#[],#[],[]⟩
 { w0 with heap := w0.heap.modify 0 fun
   | .cells _ t frozen=>.cells #[.iface 221 (.agg #[.pointer (some (aQ 1 132))])] t frozen
   | o=>o }
theorem qjo (os : Os) (args : Array Value) : laidMetH prog [("errors.errorType", Rows.laid_errors_errorType)] ((qla os).forCall (fun _ _ => 0) ⟨#[], args, []⟩).memory :=
 laidMetH_of_parts (laidMet_nil _ _) (by kernel_rfl)
