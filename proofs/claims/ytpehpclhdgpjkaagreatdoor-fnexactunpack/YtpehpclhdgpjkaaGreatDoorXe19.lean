import Derived.Test.YtpehpclhdgpjkaaGreatDoorXe0
import Derived.Test.YtpehpclhdgpjkaaGreatDoorXe11
import Derived.Lib.QuietBelow
import Derived.Test.YtpehpclhdgpjkaaGreatDoorXe12
import Derived.BigRegion
import Derived.BigQuiet
import Derived.Test.YtpehpclhdgpjkaaGreatDoorXe8
import Derived.Defers
import Derived.Deep.LoopGhost
import Derived.Deep.Cut
import Derived.Deep.MidRow
import Derived.Laws.EntriesVeiled
namespace Go.Proofs.YtpehpclhdgpjkaaGreatDoor
set_option maxRecDepth 100000
set_option maxHeartbeats 2000000
open Go.ChangeShapes Go.WideShapes Go.ChangeAt Go.RowKit Go.Deep Go.Sort
theorem list_of_zi {xs ys:List Int} (hl:xs.length=ys.length) (h:∀ j,j<xs.length->zi xs j=zi ys j):xs=ys:=by
 refine List.ext_getElem hl fun i h1 h2=>?_
 have:=h i h1
 simpa [zi,List.getD_eq_getElem?_getD,List.getElem?_eq_getElem h1,List.getElem?_eq_getElem h2] using this
theorem equal_any (a0 a1:Option Addr) (c0 c1:Nat) (xs ys:List Int) (w:World) (hx:xs.length<=1048576) (hy:ys.length<=1048576) (h0:Sl w a0 xs) (h1:Sl w a1 ys):
  Calls Tryz.prog 88 #[.slice a0 xs.length c0,.slice a1 ys.length c1] w fun e w'=>e=.returned (.bool (xs == ys))/\Below w.heap.size w w':=by
 have hl':(xs.length:Int)<=1048576:=by omega
 have hl2:(ys.length:Int)<=1048576:=by omega
 by_cases hl:xs.length=ys.length
 ·have H0:Hid (Sl w a0 xs):=h0
  have H1:Hid (Sl w a1 ys):=h1
  have HL:Hid (xs.length=ys.length):=hl
  rw [<- hl]
  clear h0 h1 hl hy hl2
  go_enter Tryz.func88,Tryz.ntmps88
  go_wp2_with fail
  go_loopw [13] (fun i wr=>∃ k:Nat,k<=xs.length/\i=.int .i64 k/\Below w.heap.size w wr/\Hid (∀ j,j<k->zi xs j=zi ys j)) (fun i _=>xs.length - (intOf i).toNat)
  case atStart=>exact ⟨0,Nat.zero_le _,rfl,Below.refl _ _,fun j hj=>by omega⟩
  case round=>
   obtain ⟨k,hk,rfl,hbw,HZ⟩:=hrel
   by_cases hlt:k<xs.length
   ·have hlt2:k<ys.length:=by have:=HL.out;omega
    obtain ⟨b,off,rfl,hbl,ck⟩:=(H0.out.below hbw).at hlt
    obtain ⟨b',off',rfl,hbl',ck'⟩:=(H1.out.below hbw).at hlt2
    have hlt':(k:Int)<(xs.length:Int):=by omega
    clear hlt2
    rcases zK (zi xs k != zi ys k) with t | t
    ·have HN:Hid ((xs == ys)=false):=by
      show (xs == ys)=false
      rw [beq_eq_false_iff_ne]
      intro e
      rw [e] at t
      simp at t
     go_wp2_with fail
     go_quiet (fail)
     go_wp2
     go_ret
     rw [HN.out]
     exact ⟨rfl,yB hbw _⟩
    ·have HZ':Hid (∀ j,j<k+1->zi xs j=zi ys j):=fun j hj=>by
      by_cases e:j=k
      ·subst e
       simpa using t
      ·exact HZ.out j (by omega)
     clear HZ
     go_wp2_with fail
     go_quiet (fail)
     go_wp2
     go_roundw
     case rel=>exact ⟨k+1,by omega,by go_num,yB hbw _,HZ'.out⟩
     case measure=>simp [intOf];omega
   ·have HE:Hid ((xs == ys)=true):=by
     show (xs == ys)=true
     rw [beq_iff_eq]
     exact list_of_zi HL.out fun j hj=>HZ.out j (by omega)
    clear HZ
    go_wp2
    go_ret
    rw [HE.out]
    exact ⟨rfl,hbw⟩
 ·have hne:((xs.length:Int) != (ys.length:Int))=true:=by simp;omega
  have HN:Hid ((xs == ys)=false):=by
   show (xs == ys)=false
   rw [beq_eq_false_iff_ne]
   intro e
   exact hl (by rw [e])
  clear h0 h1 hl
  go_enter Tryz.func88,Tryz.ntmps88
  go_wp2
  go_ret
  rw [HN.out]
  exact ⟨rfl,Below.refl _ _⟩
def eqS (S T:S4):Bool:=(S.p == T.p) && (S.c == T.c) && (S.rs == T.rs) && (S.os == T.os)
theorem eqS_iff {S T:S4}:eqS S T=true ↔ S=T:=by
 obtain ⟨a,b,c,d⟩:=S
 obtain ⟨a',b',c',d'⟩:=T
 simp only [eqS,Bool.and_eq_true,beq_iff_eq,S4.mk.injEq]
 exact ⟨fun ⟨⟨⟨h1,h2⟩,h3⟩,h4⟩=>⟨h1,h3,h4,h2⟩,fun ⟨h1,h3,h4,h2⟩=>⟨⟨⟨h1,h2⟩,h3⟩,h4⟩⟩
theorem implSameState_any (S T:S4) (ra oa ra' oa':Option Addr) (rc oc rc' oc':Nat) (w:World) (l1:S.rs.length<=1048576) (l2:S.os.length<=1048576) (l3:T.rs.length<=1048576) (l4:T.os.length<=1048576) (h1:Sl w ra S.rs) (h2:Sl w oa S.os) (h3:Sl w ra' T.rs) (h4:Sl w oa' T.os):
  Calls Tryz.prog 85 #[stV S.p ra S.rs.length rc oa S.os.length oc S.c,stV T.p ra' T.rs.length rc' oa' T.os.length oc' T.c] w fun e w'=>e=.returned (.bool (eqS S T))/\Below w.heap.size w w':=by
 have H1:Hid (Sl w ra S.rs/\Sl w ra' T.rs):=⟨h1,h3⟩
 have H2:Hid (Sl w oa S.os/\Sl w oa' T.os):=⟨h2,h4⟩
 clear h1 h2 h3 h4
 rcases zK (S.p == T.p) with t1 | t1
 case inr=>
  have HE:Hid (eqS S T=false):=by
   show eqS S T=false
   simp [eqS,t1]
  go_enter Tryz.func85,Tryz.ntmps85
  go_wp2
  go_ret
  rw [HE.out]
  exact ⟨rfl,by go_grown⟩
 rcases zK (S.c == T.c) with t2 | t2
 case inr=>
  have HE:Hid (eqS S T=false):=by
   show eqS S T=false
   simp [eqS,t2]
  go_enter Tryz.func85,Tryz.ntmps85
  go_wp2
  go_ret
  rw [HE.out]
  exact ⟨rfl,by go_grown⟩
 rcases zK (S.rs == T.rs) with t3 | t3
 case inr=>
  have HE:Hid (eqS S T=false):=by
   show eqS S T=false
   simp [eqS,t3]
  have T3:Hid ((S.rs == T.rs)=false):=t3
  clear t3
  go_enter Tryz.func85,Tryz.ntmps85
  go_wp2_with fail
  refine (equal_any _ _ _ _ _ _ _ l1 l3 (H1.out.1.below (by go_grown)) (H1.out.2.below (by go_grown))).mono ?_
  rintro e w1 ⟨rfl,b1⟩
  rw [T3.out]
  have B1:Hid (Below w.heap.size w w1):=below_up (by go_grown) b1 (by simp;omega)
  clear b1
  go_wp2
  go_ret
  rw [HE.out]
  exact ⟨rfl,B1.out⟩
 have HE:Hid (eqS S T=(S.os == T.os)):=by
  show eqS S T=(S.os == T.os)
  simp [eqS,t1,t2,t3]
 have T3:Hid ((S.rs == T.rs)=true):=t3
 clear t3
 go_enter Tryz.func85,Tryz.ntmps85
 go_wp2_with fail
 refine (equal_any _ _ _ _ _ _ _ l1 l3 (H1.out.1.below (by go_grown)) (H1.out.2.below (by go_grown))).mono ?_
 rintro e w1 ⟨rfl,b1⟩
 rw [T3.out]
 have B1:Hid (Below w.heap.size w w1):=below_up (by go_grown) b1 (by simp;omega)
 obtain ⟨hc1,hf1⟩:=bcell b1
 clear b1
 go_wp2_with fail
 refine (equal_any _ _ _ _ _ _ _ l2 l4 (H2.out.1.below B1.out) (H2.out.2.below B1.out)).mono ?_
 rintro e w2 ⟨rfl,b2⟩
 have B2:Hid (Below w.heap.size w w2):=B1.out.trans (b2.mono B1.out.size)
 clear b2 hc1 hf1
 go_wp2
 go_ret
 rw [HE.out]
 exact ⟨rfl,B2.out⟩
noncomputable def qB (p:Prop):Bool:=@decide p (Classical.propDecidable _)
theorem qB_true {p:Prop} (h:p):qB p=true:=by simp [qB,h]
theorem qB_false {p:Prop} (h:¬ p):qB p=false:=by simp [qB,h]
theorem qB_iff {p:Prop}:qB p=true ↔ p:=by simp [qB]
structure HisE (w:World) (ha:Option Addr) (hA:Nat->Option Addr) (hC:Nat->Nat) (y:Hs):Prop where
 row:RowS w ha y.n fun i=>.slice (hA i) (y.l i) (hC i)
 ev:∀ i,i<y.n->EvL w (hA i) (y.l i) (y.e i)
theorem HisE.below {w w':World} {ha:Option Addr} {hA:Nat->Option Addr} {hC:Nat->Nat} {y:Hs} (h:HisE w ha hA hC y) (hb:Below w.heap.size w w'):HisE w' ha hA hC y:=⟨h.row.below hb,fun i hi=>(h.ev i hi).below hb⟩
structure HisP (w:World) (X:Nat) (ha:Option Addr) (hc:Nat) (y:Hs) (d:Nat->Nat):Prop where
 c4:w.cell? ⟨X,4,none⟩=some (.slice ha y.n hc)
 pt:∀ i,i<4->w.cell? ⟨X,5+i,none⟩=some (.int .i64 (d i))
 op:∀ a b,a<4->b<4->w.cell? ⟨X,9+a*4+b,none⟩=some (.int .i64 (y.opn d a b))
 fr:∀ j,w.frozen? ⟨X,j,none⟩=false
theorem HisP.lt {w:World} {X:Nat} {ha:Option Addr} {hc:Nat} {y:Hs} {d:Nat->Nat} (h:HisP w X ha hc y d):X<w.heap.size:=zJ w _ h.c4
theorem HisP.blk {w w':World} {X:Nat} {ha:Option Addr} {hc:Nat} {y:Hs} {d:Nat->Nat} (h:HisP w X ha hc y d) (hb:w'.heap[X]? = w.heap[X]?):HisP w' X ha hc y d:=
 ⟨(zH hb).trans h.c4,fun i hi=>(zH hb).trans (h.pt i hi),fun a b h1 h2=>(zH hb).trans (h.op a b h1 h2),fun j=>(zI hb).trans (h.fr j)⟩
theorem HisP.below {w w':World} {X:Nat} {ha:Option Addr} {hc:Nat} {y:Hs} {d:Nat->Nat} (h:HisP w X ha hc y d) (hb:Below w.heap.size w w'):HisP w' X ha hc y d:=h.blk (hb.block X h.lt)
theorem cell_allocs {w:World} {a:Addr} {v:Value} (h:w.cell? a=some v) (o:Obj):(w.alloc o).cell? a=some v:=(World.cell?_alloc_lt w o a (zJ w _ h)).trans h
theorem canPut_any (X:Nat) (ha:Option Addr) (hc:Nat) (hA:Nat->Option Addr) (hC:Nat->Nat) (y:Hs) (d:Nat->Nat) (k:Nat) (w:World) (hE:HisE w ha hA hC y) (hP:HisP w X ha hc y d) (h4:y.n<=4) (hk:k<y.n) (hp:y.Peers) (hl:∀ i,i<y.n->y.l i<=200) (hd:∀ i,d i<=y.l i):
  Calls Tryz.prog 119 #[.pointer (some ⟨X,4,none⟩),.int .i64 k] w fun e w'=>e=.returned (.bool (qB (y.Can d k)))/\Below w.heap.size w w':=by
 have HE:Hid (HisE w ha hA hC y):=hE
 have HP:Hid (HisP w X ha hc y d):=hP
 have HCan:Hid (y.Can d k ↔ d k<y.l k/\((y.e k (d k)).k=3->0<y.opn d (y.e k (d k)).q.toNat k)):=Hs.can_iff hp hk
 have hk4:(k:Int)<4:=by omega
 have hk':(k:Int)<(y.n:Int):=by omega
 have hl200:(y.l k:Int)<=200:=by have:=hl k hk;omega
 have hdk:(d k:Int)<=(y.l k:Int):=by have:=hd k;omega
 obtain ⟨bh,oh,eh,ch⟩:=hE.row.at hk
 obtain ⟨c4,pt,op,-⟩:=hP
 have pk:=pt k (by omega)
 rw [eh] at c4
 clear hE
 by_cases he:d k=y.l k
 ·have HN:Hid (qB (y.Can d k)=false):=qB_false fun h=>by have:=h.1;omega
  rw [he] at pk
  clear op pt
  go_enter Tryz.func119,Tryz.ntmps119
  go_wp2_with fail
  go_quiet (fail)
  go_wp2
  go_ret
  rw [HN.out]
  exact ⟨rfl,yB (Below.refl _ _) _⟩
 ·have hlt:d k<y.l k:=by have:=hd k;omega
  have hlt':(d k:Int)<(y.l k:Int):=by omega
  have hne:((d k:Int) == (y.l k:Int))=false:=by
   have:¬ (d k:Int)=(y.l k:Int):=by omega
   simpa using this
  obtain ⟨b,off,ea,zb,e0,e1,e2⟩:=(HE.out.ev k hk).at hlt
  rw [ea] at ch
  have n1:w.heap.size≠X:=by have:=HP.out.lt;omega
  have n2:w.heap.size≠b:=by omega
  have n3:w.heap.size≠bh:=by have:=zJ w _ ch;simp at this;omega
  clear zb
  have hq:=hp k hk (d k) hlt
  obtain ⟨q,hqe⟩:∃ q:Nat,(y.e k (d k)).q=(q:Int):=⟨(y.e k (d k)).q.toNat,by omega⟩
  have hq4:(q:Int)<4:=by omega
  have oq:=op q k (by omega) (by omega)
  rw [hqe] at e1
  rcases zK ((y.e k (d k)).k != 3) with t | t
  ·have HN:Hid (qB (y.Can d k)=true):=qB_true (HCan.out.2 ⟨hlt,fun h=>by rw [h] at t;cases t⟩)
   clear op pt hq hqe oq HCan
   generalize (y.e k (d k)).k=kd at *
   generalize (y.e k (d k)).v=vd at *
   go_enter Tryz.func119,Tryz.ntmps119
   go_wp2_with fail
   go_quiet (fail)
   go_wp2_with fail
   have BD:Hid (Below w.heap.size w (w.drewN nq)):=yB (Below.refl _ _) _
   replace n1:(w.drewN nq).heap.size≠X:=n1
   replace n2:(w.drewN nq).heap.size≠b:=n2
   replace n3:(w.drewN nq).heap.size≠bh:=n3
   replace c4:(w.drewN nq).cell? ⟨X,4,none⟩=_:=c4
   replace pk:(w.drewN nq).cell? ⟨X,5+k,none⟩=_:=pk
   replace ch:(w.drewN nq).cell? ⟨bh,oh+k,none⟩=_:=ch
   replace e0:(w.drewN nq).cell? ⟨b,off+d k*3,none⟩=_:=e0
   replace e1:(w.drewN nq).cell? ⟨b,off+d k*3+1,none⟩=_:=e1
   replace e2:(w.drewN nq).cell? ⟨b,off+d k*3+2,none⟩=_:=e2
   generalize w.drewN nq=wd at *
   have c4':=cell_allocs c4
   have pk':=cell_allocs pk
   have ch':=cell_allocs ch
   have e0':=cell_allocs e0
   have e1':=cell_allocs e1
   have e2':=cell_allocs e2
   go_region
   all_goals
    go_wp2_with fail
    go_quiet (fail)
    go_wp2
    go_ret
    rw [HN.out]
    exact ⟨rfl,yB (BD.out.trans ((zS _ _).mono BD.out.size)).drew _⟩
  ·have hk3:(y.e k (d k)).k=3:=by simpa using t
   have HN:Hid (qB (y.Can d k)=decide (0<y.opn d q k)):=by
    show qB (y.Can d k)=decide (0<y.opn d q k)
    have e:(y.e k (d k)).q.toNat=q:=by omega
    by_cases h0:0<y.opn d q k
    ·rw [decide_eq_true h0]
     exact qB_true (HCan.out.2 ⟨hlt,fun _=>by rw [e];exact h0⟩)
    ·rw [decide_eq_false h0]
     refine qB_false fun h=>h0 ?_
     have:=(HCan.out.1 h).2 hk3
     rwa [e] at this
   rw [hk3] at e0
   clear op pt hq hqe HCan t hk3
   generalize (y.e k (d k)).v=vd at *
   generalize y.opn d q k=on at *
   go_enter Tryz.func119,Tryz.ntmps119
   go_wp2_with fail
   go_quiet (fail)
   go_wp2_with fail
   have BD:Hid (Below w.heap.size w (w.drewN nq)):=yB (Below.refl _ _) _
   replace n1:(w.drewN nq).heap.size≠X:=n1
   replace n2:(w.drewN nq).heap.size≠b:=n2
   replace n3:(w.drewN nq).heap.size≠bh:=n3
   replace c4:(w.drewN nq).cell? ⟨X,4,none⟩=_:=c4
   replace pk:(w.drewN nq).cell? ⟨X,5+k,none⟩=_:=pk
   replace ch:(w.drewN nq).cell? ⟨bh,oh+k,none⟩=_:=ch
   replace e0:(w.drewN nq).cell? ⟨b,off+d k*3,none⟩=_:=e0
   replace e1:(w.drewN nq).cell? ⟨b,off+d k*3+1,none⟩=_:=e1
   replace e2:(w.drewN nq).cell? ⟨b,off+d k*3+2,none⟩=_:=e2
   replace oq:(w.drewN nq).cell? ⟨X,9+q*4+k,none⟩=_:=oq
   generalize w.drewN nq=wd at *
   have c4':=cell_allocs c4
   have pk':=cell_allocs pk
   have ch':=cell_allocs ch
   have e0':=cell_allocs e0
   have e1':=cell_allocs e1
   have e2':=cell_allocs e2
   have oq':=cell_allocs oq
   go_region
   all_goals
    go_wp2_with fail
    go_quiet (fail)
    go_wp2
    go_ret
    rw [HN.out]
    exact ⟨rfl,yB (BD.out.trans ((zS _ _).mono BD.out.size)).drew _⟩
theorem HisP.put {w w':World} {X:Nat} {ha:Option Addr} {hc:Nat} {y:Hs} {d:Nat->Nat} {k:Nat} (h:HisP w X ha hc y d) (c4:w'.cell? ⟨X,4,none⟩=w.cell? ⟨X,4,none⟩) (pt:∀ i,i<4->w'.cell? ⟨X,5+i,none⟩=if i=k then some (.int .i64 (d k+1:Nat)) else w.cell? ⟨X,5+i,none⟩)
  (op:∀ a b,a<4->b<4->w'.cell? ⟨X,9+a*4+b,none⟩=some (.int .i64 (y.opn (up d k) a b))) (fr:∀ j,w'.frozen? ⟨X,j,none⟩=false):HisP w' X ha hc y (up d k):=by
 refine ⟨c4.trans h.c4,fun i hi=>?_,op,fr⟩
 rw [pt i hi]
 by_cases e:i=k
 ·subst e
  rw [if_pos rfl,up_same]
 ·rw [if_neg e,up_other e]
  exact h.pt i hi
theorem Hs.opn_le {y:Hs} {d:Nat->Nat} (hd:∀ i,d i<=y.l i) (hl:∀ i,i<y.n->y.l i<=200) {a b:Nat} (ha:a<y.n) (hb:b<y.n):-200<=y.opn d a b/\y.opn d a b<=200:=by
 have h1:=cnt_le (y.e a) 2 b (d a)
 have h2:=cnt_le (y.e b) 3 a (d b)
 have h3:=hd a
 have h4:=hd b
 have h5:=hl a ha
 have h6:=hl b hb
 unfold Hs.opn
 omega
theorem cell_set2 {w:World} {X i j m:Nat} {u v:Value} {o:Obj} (h1:m≠i) (h2:m≠j) (hX:X<w.heap.size):(((w.setCell ⟨X,i,none⟩ u).setCell ⟨X,j,none⟩ v).alloc o).cell? ⟨X,m,none⟩=w.cell? ⟨X,m,none⟩:=by
 rw [World.cell?_alloc_lt _ _ _ (by simpa [World.setCell] using hX),World.cell?_setCell_other _ _ _ _ (by intro e;injection e with _ e;exact h2 e.symm),World.cell?_setCell_other _ _ _ _ (by intro e;injection e with _ e;exact h1 e.symm)]
theorem cell_set2a {w:World} {X i j:Nat} {u v:Value} {o:Obj} (h1:i≠j) (hc:(w.cell? ⟨X,i,none⟩).isSome=true) (hX:X<w.heap.size):(((w.setCell ⟨X,i,none⟩ u).setCell ⟨X,j,none⟩ v).alloc o).cell? ⟨X,i,none⟩=some u:=by
 rw [World.cell?_alloc_lt _ _ _ (by simpa [World.setCell] using hX),World.cell?_setCell_other _ _ _ _ (by intro e;injection e with _ e;exact h1 e.symm),World.cell?_setCell_same' _ _ _ hc]
theorem cell_set2b {w:World} {X i j:Nat} {u v:Value} {o:Obj} (h1:i≠j) (hc:(w.cell? ⟨X,j,none⟩).isSome=true) (hX:X<w.heap.size):(((w.setCell ⟨X,i,none⟩ u).setCell ⟨X,j,none⟩ v).alloc o).cell? ⟨X,j,none⟩=some v:=by
 rw [World.cell?_alloc_lt _ _ _ (by simpa [World.setCell] using hX),World.cell?_setCell_same']
 rw [World.cell?_setCell_other _ _ _ _ (by intro e;injection e with _ e;exact h1 e)]
 exact hc
theorem frozen_alloc_lt {w:World} {o:Obj} {X j:Nat} (hX:X<w.heap.size):(w.alloc o).frozen? ⟨X,j,none⟩=w.frozen? ⟨X,j,none⟩:=(zS w o).frozen (p:=⟨X,j,none⟩) hX
theorem HisP.put2 {w:World} {X:Nat} {ha:Option Addr} {hc:Nat} {y:Hs} {d:Nat->Nat} {k i0 j0:Nat} {on:Int} {o:Obj} (h:HisP w X ha hc y d) (hk:k<4) (hi:i0<4) (hj:j0<4) (HO:∀ a b,y.opn (up d k) a b=if a=i0/\b=j0 then on else y.opn d a b):
  HisP (((w.setCell ⟨X,9+i0*4+j0,none⟩ (.int .i64 on)).setCell ⟨X,5+k,none⟩ (.int .i64 ((d k:Int)+1))).alloc o) X ha hc y (up d k)/\Touch (fun b=>b=X) w (((w.setCell ⟨X,9+i0*4+j0,none⟩ (.int .i64 on)).setCell ⟨X,5+k,none⟩ (.int .i64 ((d k:Int)+1))).alloc o):=by
 have hX:=h.lt
 refine ⟨h.put (k:=k) (cell_set2 (by omega) (by omega) hX) (fun i hi'=>?_) (fun a b ha' hb'=>?_) (fun j=>?_),?_⟩
 ·by_cases e:i=k
  ·subst e
   rw [if_pos rfl,cell_set2b (by omega) (by rw [h.pt i hi'];rfl) hX]
   rfl
  ·rw [if_neg e]
   exact cell_set2 (by omega) (by omega) hX
 ·rw [HO]
  by_cases e:a=i0/\b=j0
  ·obtain ⟨rfl,rfl⟩:=e
   rw [if_pos ⟨rfl,rfl⟩]
   exact cell_set2a (by omega) (by rw [h.op a b ha' hb'];rfl) hX
  ·rw [if_neg e,<- h.op a b ha' hb']
   exact cell_set2 (by omega) (by omega) hX
 ·rw [frozen_alloc_lt (by simpa [World.setCell] using hX),World.frozen?_setCell,World.frozen?_setCell]
  exact h.fr j
 ·exact ((Touch.of_set (P:=fun b=>b=X) w (a:=⟨X,_,none⟩) rfl _).trans (Touch.of_set (P:=fun b=>b=X) _ (a:=⟨X,_,none⟩) rfl _)).trans (Touch.of_below (zS _ _))
theorem HisP.put1 {w:World} {X:Nat} {ha:Option Addr} {hc:Nat} {y:Hs} {d:Nat->Nat} {k:Nat} {o:Obj} (h:HisP w X ha hc y d) (hk:k<4) (HO:∀ a b,y.opn (up d k) a b=y.opn d a b):
  HisP ((w.setCell ⟨X,5+k,none⟩ (.int .i64 ((d k:Int)+1))).alloc o) X ha hc y (up d k)/\Touch (fun b=>b=X) w ((w.setCell ⟨X,5+k,none⟩ (.int .i64 ((d k:Int)+1))).alloc o):=by
 have hX:=h.lt
 have ho:∀ m,m≠5+k->((w.setCell ⟨X,5+k,none⟩ (.int .i64 ((d k:Int)+1))).alloc o).cell? ⟨X,m,none⟩=w.cell? ⟨X,m,none⟩:=fun m hm=>by
  rw [World.cell?_alloc_lt _ _ _ (by simpa [World.setCell] using hX),World.cell?_setCell_other _ _ _ _ (by intro e;injection e with _ e;exact hm e.symm)]
 refine ⟨h.put (k:=k) (ho 4 (by omega)) (fun i hi'=>?_) (fun a b ha' hb'=>?_) (fun j=>?_),?_⟩
 ·by_cases e:i=k
  ·subst e
   rw [if_pos rfl,World.cell?_alloc_lt _ _ _ (by simpa [World.setCell] using hX),World.cell?_setCell_same' _ _ _ (by rw [h.pt i hi'];rfl)]
   rfl
  ·rw [if_neg e]
   exact ho _ (by omega)
 ·rw [HO,<- h.op a b ha' hb']
  exact ho _ (by omega)
 ·rw [frozen_alloc_lt (by simpa [World.setCell] using hX),World.frozen?_setCell]
  exact h.fr j
 ·exact (Touch.of_set (P:=fun b=>b=X) w (a:=⟨X,_,none⟩) rfl _).trans (Touch.of_below (zS _ _))
theorem HisP.dr {w:World} {X:Nat} {ha:Option Addr} {hc:Nat} {y:Hs} {d:Nat->Nat} (h:HisP w X ha hc y d):HisP w.drew X ha hc y d:=⟨h.c4,h.pt,h.op,h.fr⟩
theorem Touch.dr {P:Nat->Prop} {w w':World} (h:Touch P w w'):Touch P w w'.drew:=⟨h.os,h.tape,h.output,h.size,h.block⟩
theorem putOne_any (X:Nat) (ha:Option Addr) (hc:Nat) (hA:Nat->Option Addr) (hC:Nat->Nat) (y:Hs) (d:Nat->Nat) (k:Nat) (w:World) (hE:HisE w ha hA hC y) (hP:HisP w X ha hc y d) (h4:y.n<=4) (hk:k<y.n) (hp:y.Peers) (hl:∀ i,i<y.n->y.l i<=200) (hd:∀ i,d i<=y.l i) (hlt:d k<y.l k):
  Calls Tryz.prog 94 #[.pointer (some ⟨X,4,none⟩),.int .i64 k] w fun e w'=>e=.returned (.tuple #[])/\HisP w' X ha hc y (up d k)/\Touch (fun b=>b=X) w w':=by
 have HP:Hid (HisP w X ha hc y d):=hP
 have hk4:(k:Int)<4:=by omega
 have hk':(k:Int)<(y.n:Int):=by omega
 have hl200:(y.l k:Int)<=200:=by have:=hl k hk;omega
 have hlt':(d k:Int)<(y.l k:Int):=by omega
 obtain ⟨bh,oh,eh,ch⟩:=hE.row.at hk
 obtain ⟨c4,pt,op,fr⟩:=hP
 have pk:=pt k (by omega)
 rw [eh] at c4
 obtain ⟨b,off,ea,zb,e0,e1,e2⟩:=(hE.ev k hk).at hlt
 rw [ea] at ch
 have n1:w.heap.size≠X:=by have:=HP.out.lt;omega
 have n2:w.heap.size≠b:=by omega
 have n3:w.heap.size≠bh:=by have:=zJ w _ ch;simp at this;omega
 have zX:X<w.heap.size:=HP.out.lt
 have hq:=hp k hk (d k) hlt
 obtain ⟨q,hqe⟩:∃ q:Nat,(y.e k (d k)).q=(q:Int):=⟨(y.e k (d k)).q.toNat,by omega⟩
 have hq4:(q:Int)<4:=by omega
 have hqn:q<y.n:=by omega
 rw [hqe] at e1
 have c4':=cell_allocs c4
 have pk':=cell_allocs pk
 have ch':=cell_allocs ch
 have e0':=cell_allocs e0
 have e1':=cell_allocs e1
 have e2':=cell_allocs e2
 have fr':∀ j,w.frozen? ⟨X,j,none⟩=false:=fr
 rcases zK ((y.e k (d k)).k == 2) with t | t
 ·have hk2:(y.e k (d k)).k=2:=by simpa using t
  have oq:=op k q (by omega) (by omega)
  obtain ⟨o1,o2⟩:=Hs.opn_le hd hl hk hqn
  have oq':=cell_allocs oq
  rw [hk2] at e0 e0'
  have HO:Hid (∀ a b,y.opn (up d k) a b=if a=k/\b=q then y.opn d k q+1 else y.opn d a b):=fun a b=>by
   rw [Hs.opn_up,hk2,hqe]
   by_cases e:a=k/\b=q
   ·obtain ⟨rfl,rfl⟩:=e
    simp
   ·rw [if_neg e,if_neg (fun h=>e ⟨h.1,by omega⟩),if_neg (fun h=>absurd h.2.1 (by decide))]
    omega
  clear op pt t hk2 hq hqe hp hE eh ea
  generalize (y.e k (d k)).v=vd at *
  generalize y.opn d k q=on at *
  go_enter Tryz.func94,Tryz.ntmps94
  go_wp2_with fail
  go_region
  all_goals
   go_wp2_with fail
   go_region
   all_goals
    go_wp2_with fail
    go_region
    all_goals
     go_wp2_with fail
     go_end0
     have hz:=HP.out.put2 (o:=oQ0 2 q vd) (show k<4 by omega) (show k<4 by omega) (show q<4 by omega) HO.out
     exact ⟨rfl,hz.1.dr.dr.dr,hz.2.dr.dr.dr⟩
 rcases zK ((y.e k (d k)).k == 3) with t3 | t3
 ·have hk3:(y.e k (d k)).k=3:=by simpa using t3
  have oq:=op q k (by omega) (by omega)
  obtain ⟨o1,o2⟩:=Hs.opn_le hd hl hqn hk
  have oq':=cell_allocs oq
  rw [hk3] at e0 e0'
  have HO:Hid (∀ a b,y.opn (up d k) a b=if a=q/\b=k then y.opn d q k - 1 else y.opn d a b):=fun a b=>by
   rw [Hs.opn_up,hk3,hqe]
   by_cases e:a=q/\b=k
   ·obtain ⟨rfl,rfl⟩:=e
    simp
   ·rw [if_neg e,if_neg (fun h=>absurd h.2.1 (by decide)),if_neg (fun h=>e ⟨by omega,h.1⟩)]
    omega
  clear op pt t t3 hk3 hq hqe hp hE eh ea
  generalize (y.e k (d k)).v=vd at *
  generalize y.opn d q k=on at *
  go_enter Tryz.func94,Tryz.ntmps94
  go_wp2_with fail
  go_region
  all_goals
   go_wp2_with fail
   go_region
   all_goals
    go_wp2_with fail
    go_region
    all_goals
     go_wp2_with fail
     go_end0
     have hz:=HP.out.put2 (o:=oQ0 3 q vd) (show k<4 by omega) (show q<4 by omega) (show k<4 by omega) HO.out
     exact ⟨rfl,hz.1.dr.dr.dr,hz.2.dr.dr.dr⟩
 ·have HO:Hid (∀ a b,y.opn (up d k) a b=y.opn d a b):=fun a b=>by
   have t2:(y.e k (d k)).k≠2:=by simpa using t
   have t3':(y.e k (d k)).k≠3:=by simpa using t3
   rw [Hs.opn_up,if_neg (fun h=>t2 h.2.1),if_neg (fun h=>t3' h.2.1)]
   omega
  clear op pt hq hqe hp hE eh ea
  generalize (y.e k (d k)).v=vd at *
  generalize (y.e k (d k)).k=kd at *
  go_enter Tryz.func94,Tryz.ntmps94
  go_wp2_with fail
  go_region
  all_goals
   go_wp2_with fail
   go_region
   all_goals
    go_wp2_with fail
    go_end0
    have hz:=HP.out.put1 (o:=oQ0 kd q vd) (show k<4 by omega) HO.out
    exact ⟨rfl,hz.1.dr.dr,hz.2.dr.dr⟩
def NxtR (w:World) (y:Hs) (d:Nat->Nat) (e:Ending) (w':World):Prop:=
 Below w.heap.size w w'/\((∃ k,k<y.n/\y.Can d k/\e=.returned (.int .i64 (k:Nat)))\/(e=.returned (.int .i64 (-1))/\∀ p,p<y.n->¬ y.Can d p))
theorem next_any (X:Nat) (ha:Option Addr) (hc:Nat) (hA:Nat->Option Addr) (hC:Nat->Nat) (y:Hs) (d:Nat->Nat) (w:World) (hE:HisE w ha hA hC y) (hP:HisP w X ha hc y d) (h4:y.n<=4) (hp:y.Peers) (hl:∀ i,i<y.n->y.l i<=200) (hd:∀ i,d i<=y.l i):
  Calls Tryz.prog 93 #[.pointer (some ⟨X,4,none⟩)] w (NxtR w y d):=by
 have HE:Hid (HisE w ha hA hC y):=hE
 have HP:Hid (HisP w X ha hc y d):=hP
 have HH:Hid (y.Peers/\(∀ i,i<y.n->y.l i<=200)/\∀ i,d i<=y.l i):=⟨hp,hl,hd⟩
 have hn:(y.n:Int)<=4:=by omega
 obtain ⟨c4,-,-,-⟩:=hP
 clear hE hp hl hd
 go_enter Tryz.func93,Tryz.ntmps93
 go_wp2_with fail
 clear c4
 go_loopw [9] (fun i wr=>∃ k:Nat,k<=y.n/\i=.int .i64 k/\Below w.heap.size w wr/\Hid (∀ j,j<k->¬ y.Can d j)) (fun i _=>y.n - (intOf i).toNat)
 case atStart=>exact ⟨0,Nat.zero_le _,rfl,Below.refl _ _,fun j hj=>by omega⟩
 case round=>
  obtain ⟨k,hk,rfl,hbw,HZ⟩:=hrel
  by_cases hlt:k<y.n
  ·have hlt':(k:Int)<(y.n:Int):=by omega
   go_wp2_with fail
   refine (canPut_any X ha hc hA hC y d k wr (HE.out.below hbw) (HP.out.below hbw) h4 hlt HH.out.1 HH.out.2.1 HH.out.2.2).mono ?_
   rintro e w1 ⟨rfl,b1⟩
   have B1:Hid (Below w.heap.size w w1):=hbw.trans (b1.mono hbw.size)
   clear b1 hbw
   by_cases hc':y.Can d k
   ·have HF:Hid (NxtR w y d (.returned (.int .i64 k)) w1):=⟨B1.out,.inl ⟨k,hlt,hc',rfl⟩⟩
    rw [qB_true hc']
    clear hc' B1
    go_wp2
    go_ret
    exact HF.out
   ·have HZ':Hid (∀ j,j<k+1->¬ y.Can d j):=fun j hj=>by
     by_cases e:j=k
     ·subst e
      exact hc'
     ·exact HZ.out j (by omega)
    rw [qB_false hc']
    clear hc' HZ
    go_wp2
    go_roundw
    case rel=>exact ⟨k+1,by omega,by go_num,B1.out,HZ'.out⟩
    case measure=>simp [intOf];omega
  ·have HF:Hid (NxtR w y d (.returned (.int .i64 (-1))) wr):=⟨hbw,.inr ⟨rfl,fun p hp=>HZ.out p (by omega)⟩⟩
   clear HZ hbw
   go_wp2
   go_ret
   exact HF.out
theorem allPut_any (X:Nat) (ha:Option Addr) (hc:Nat) (hA:Nat->Option Addr) (hC:Nat->Nat) (y:Hs) (d:Nat->Nat) (w:World) (hE:HisE w ha hA hC y) (hP:HisP w X ha hc y d) (h4:y.n<=4) (hl:∀ i,i<y.n->y.l i<=200) (hd:∀ i,d i<=y.l i):
  Calls Tryz.prog 95 #[.pointer (some ⟨X,4,none⟩)] w fun e w'=>e=.returned (.bool (qB (y.All d)))/\Below w.heap.size w w':=by
 have HE:Hid (HisE w ha hA hC y):=hE
 have HP:Hid (HisP w X ha hc y d):=hP
 have HH:Hid ((∀ i,i<y.n->y.l i<=200)/\∀ i,d i<=y.l i):=⟨hl,hd⟩
 have hn:(y.n:Int)<=4:=by omega
 obtain ⟨c4,-,-,-⟩:=hP
 clear hE hl hd
 go_enter Tryz.func95,Tryz.ntmps95
 go_wp2_with fail
 clear c4
 go_loopw [10] (fun i wr=>∃ k:Nat,k<=y.n/\i=.int .i64 k/\Below w.heap.size w wr/\Hid (∀ j,j<k->d j=y.l j)) (fun i _=>y.n - (intOf i).toNat)
 case atStart=>exact ⟨0,Nat.zero_le _,rfl,Below.refl _ _,fun j hj=>by omega⟩
 case round=>
  obtain ⟨k,hk,rfl,hbw,HZ⟩:=hrel
  by_cases hlt:k<y.n
  ·have hlt':(k:Int)<(y.n:Int):=by omega
   have hk4:(k:Int)<4:=by omega
   obtain ⟨bh,oh,eh,ch⟩:=(HE.out.below hbw).row.at hlt
   have pk:=(HP.out.below hbw).pt k (by omega)
   have hd':(d k:Int)<=(y.l k:Int):=by have:=HH.out.2 k;omega
   rw [eh]
   by_cases hs:d k<y.l k
   ·have hs':(d k:Int)<(y.l k:Int):=by omega
    have HN:Hid (qB (y.All d)=false):=qB_false fun h=>by have:=h k hlt;omega
    clear HZ
    go_wp2
    go_ret
    rw [HN.out]
    exact ⟨rfl,hbw⟩
   ·have hs':¬ (d k:Int)<(y.l k:Int):=by omega
    have HZ':Hid (∀ j,j<k+1->d j=y.l j):=fun j hj=>by
     by_cases e:j=k
     ·subst e
      omega
     ·exact HZ.out j (by omega)
    clear HZ
    go_wp2
    go_roundw
    case rel=>exact ⟨k+1,by omega,by go_num,hbw,HZ'.out⟩
    case measure=>simp [intOf];omega
  ·have HN:Hid (qB (y.All d)=true):=qB_true fun p hp=>HZ.out p (by omega)
   clear HZ
   go_wp2
   go_ret
   rw [HN.out]
   exact ⟨rfl,hbw⟩
theorem Touch.set {P:Nat->Prop} {w w':World} (h:Touch P w w') {a:Addr} (ha:P a.block) (u:Value):Touch P w (w'.setCell a u):=h.trans (Touch.of_set w' ha u)
theorem Touch.sets {P:Nat->Prop} {b:Nat} (hb:P b):∀ (vs:List Value) (o:Nat) {w w':World},Touch P w w'->Touch P w (w'.setCells b o vs)
 | [],_,_,_,h=>h
 | v :: r,o,_,_,h=>Touch.sets hb r (o+1) (h.set (a:=⟨b,o,none⟩) hb v)
theorem infoHis:(Tryz.prog.info? 59).map (·.size)=some 21:=by kernel_rfl
theorem rowBack (X Bf Hb:Nat) (w:World) (cs:List Value) (hl:cs.length=21) (h1:∀ v ∈ cs,v.oneCell'=true) (hB:w.rangeAt Bf 0 cs) (hT:w.there X 4 21) (hH:w.cell? ⟨Hb,0,none⟩=some (.pointer (some ⟨X,4,none⟩))) (u:FrameMode):
  CallsD Tryz.prog 92 #[.pointer (some ⟨Bf,0,none⟩),.pointer (some ⟨Hb,0,none⟩)] u w fun e u' w'=>u'=u/\(e=.returned (.tuple #[])/\Touch (fun b=>b=X) w w'):=by
 have HB:Hid (w.rangeAt Bf 0 cs):=hB
 have HT:Hid (w.there X 4 cs.toArray.size):=by rw [show cs.toArray.size=21 by simp [hl]];exact hT
 have HI:Hid ((Tryz.prog.info? 59).map (·.size)=some cs.length):=by rw [hl];exact infoHis
 have HO:Hid (cs.toArray.all (·.oneCell')=true):=all_oneCell_toArray h1
 clear hB hT h1 hl
 go_enter_d Tryz.func92,Tryz.ntmps92
 go_wp2_with (first|(refine wpList_load_mid rfl 59 (.tmp 0) rfl Bf 0 rfl cs _ HB.out Tryz.underlying59 rfl HI.out ?_)|(refine wpList_store_mid rfl 59 (.tmp 4) (.tmp 3) rfl X 4 cs.toArray rfl rfl HT.out (by simpa using HI.out) HO.out ?_))
 go_end0
 exact ⟨rfl,Touch.sets (P:=fun b=>b=X) rfl _ _ (Touch.refl _ _)⟩
def hisL (ha:Option Addr) (hc:Nat) (y:Hs) (d:Nat->Nat):List Value:=
 [.slice ha y.n hc, .int .i64 (d 0), .int .i64 (d 1), .int .i64 (d 2), .int .i64 (d 3),
  .int .i64 (y.opn d 0 0),.int .i64 (y.opn d 0 1),.int .i64 (y.opn d 0 2),.int .i64 (y.opn d 0 3),.int .i64 (y.opn d 1 0),.int .i64 (y.opn d 1 1),.int .i64 (y.opn d 1 2),.int .i64 (y.opn d 1 3),
  .int .i64 (y.opn d 2 0),.int .i64 (y.opn d 2 1),.int .i64 (y.opn d 2 2),.int .i64 (y.opn d 2 3),.int .i64 (y.opn d 3 0),.int .i64 (y.opn d 3 1),.int .i64 (y.opn d 3 2),.int .i64 (y.opn d 3 3)]
theorem HisP.range {w:World} {X:Nat} {ha:Option Addr} {hc:Nat} {y:Hs} {d:Nat->Nat} (h:HisP w X ha hc y d):w.rangeAt X 4 (hisL ha hc y d):=by
 intro j v hj
 have hl:j<21:=by
  have:=(List.getElem?_eq_some_iff.1 hj).1
  simpa [hisL] using this
 match j,hl,hj with
 | 0,_,hj=>rw [<- hj];exact h.c4
 | 1,_,hj=>rw [<- hj];exact h.pt 0 (by omega)
 | 2,_,hj=>rw [<- hj];exact h.pt 1 (by omega)
 | 3,_,hj=>rw [<- hj];exact h.pt 2 (by omega)
 | 4,_,hj=>rw [<- hj];exact h.pt 3 (by omega)
 | 5,_,hj=>rw [<- hj];exact h.op 0 0 (by omega) (by omega)
 | 6,_,hj=>rw [<- hj];exact h.op 0 1 (by omega) (by omega)
 | 7,_,hj=>rw [<- hj];exact h.op 0 2 (by omega) (by omega)
 | 8,_,hj=>rw [<- hj];exact h.op 0 3 (by omega) (by omega)
 | 9,_,hj=>rw [<- hj];exact h.op 1 0 (by omega) (by omega)
 | 10,_,hj=>rw [<- hj];exact h.op 1 1 (by omega) (by omega)
 | 11,_,hj=>rw [<- hj];exact h.op 1 2 (by omega) (by omega)
 | 12,_,hj=>rw [<- hj];exact h.op 1 3 (by omega) (by omega)
 | 13,_,hj=>rw [<- hj];exact h.op 2 0 (by omega) (by omega)
 | 14,_,hj=>rw [<- hj];exact h.op 2 1 (by omega) (by omega)
 | 15,_,hj=>rw [<- hj];exact h.op 2 2 (by omega) (by omega)
 | 16,_,hj=>rw [<- hj];exact h.op 2 3 (by omega) (by omega)
 | 17,_,hj=>rw [<- hj];exact h.op 3 0 (by omega) (by omega)
 | 18,_,hj=>rw [<- hj];exact h.op 3 1 (by omega) (by omega)
 | 19,_,hj=>rw [<- hj];exact h.op 3 2 (by omega) (by omega)
 | 20,_,hj=>rw [<- hj];exact h.op 3 3 (by omega) (by omega)
theorem hisL_one {ha:Option Addr} {hc:Nat} {y:Hs} {d:Nat->Nat}:∀ v ∈ hisL ha hc y d,v.oneCell'=true:=by
 intro v hv
 simp only [hisL,List.mem_cons,List.not_mem_nil,or_false] at hv
 rcases hv with rfl | rfl | rfl | rfl | rfl | rfl | rfl | rfl | rfl | rfl | rfl | rfl | rfl | rfl | rfl | rfl | rfl | rfl | rfl | rfl | rfl <;> rfl
theorem HisP.thereX {w:World} {X:Nat} {ha:Option Addr} {hc:Nat} {y:Hs} {d:Nat->Nat} (h:HisP w X ha hc y d):w.there X 4 21:=fun j hj=>⟨h.range.isSome j (by simpa [hisL] using hj),h.fr _⟩
theorem sumL_same {d e:Nat->Nat}:∀ {n:Nat},(∀ i,i<n->d i=e i)->sumL d n=sumL e n
 | 0,_=>rfl
 | n+1,h=>by
  show sumL d n+d n=sumL e n+e n
  rw [sumL_same fun i hi=>h i (by omega),h n (by omega)]
theorem sumL_zero:∀ n,sumL (fun _=>0) n=0
 | 0=>rfl
 | n+1=>sumL_zero n
theorem sumL_up {d:Nat->Nat} {k:Nat}:∀ {n:Nat},k<n->sumL (up d k) n=sumL d n+1
 | 0,h=>by omega
 | n+1,h=>by
  show sumL (up d k) n+up d k n=sumL d n+d n+1
  by_cases e:k=n
  ·subst e
   rw [up_same]
   have:sumL (up d k) k=sumL d k:=sumL_same fun i hi=>up_other (by omega)
   omega
  ·rw [sumL_up (by omega),up_other (by omega)]
   omega
theorem sumL_le {d l:Nat->Nat} (h:∀ i,d i<=l i):∀ n,sumL d n<=sumL l n
 | 0=>Nat.le_refl _
 | n+1=>by
  have:=sumL_le h n
  have:=h n
  show sumL d n+d n<=sumL l n+l n
  omega
structure Rw (w0 W wr:World) (X Bf Hb:Nat) (ha:Option Addr) (hc:Nat) (y:Hs) (cs:List Value) (d:Nat->Nat):Prop where
 pu:y.Put d
 hp:HisP wr X ha hc y d
 be:Below w0.heap.size w0 wr
 hb:wr.cell? ⟨Hb,0,none⟩=some (.pointer (some ⟨X,4,none⟩))
 bf:wr.rangeAt Bf 0 cs
theorem rangeAt_touch {P:Nat->Prop} {w w':World} {b o:Nat} {cs:List Value} (h:w.rangeAt b o cs) (t:Touch P w w') (hb:¬ P b):w'.rangeAt b o cs:=fun j v hv=>by
 have:=h j v hv
 rw [t.cell (zJ w _ this) hb]
 exact this
theorem Rw.touch {w0 W wr w':World} {X Bf Hb:Nat} {ha:Option Addr} {hc:Nat} {y:Hs} {cs:List Value} {d d':Nat->Nat} (h:Rw w0 W wr X Bf Hb ha hc y cs d) (t:Touch (fun b=>b=X) wr w') (hX:w0.heap.size<=X) (hB:Bf≠X) (hH:Hb≠X) (pu:y.Put d') (hp:HisP w' X ha hc y d'):Rw w0 W w' X Bf Hb ha hc y cs d':=
 ⟨pu,hp,h.be.trans (t.below h.be.size fun b e=>by omega),(t.cell (zJ wr _ h.hb) hH 0).trans h.hb,rangeAt_touch h.bf t hB⟩
theorem canRow_any (X:Nat) (ha:Option Addr) (hc:Nat) (hA:Nat->Option Addr) (hC:Nat->Nat) (y:Hs) (w0 w:World) (hE:HisE w0 ha hA hC y) (hb:Below w0.heap.size w0 w) (hX:w0.heap.size<=X) (hP:HisP w X ha hc y (fun _=>0)) (h4:y.n<=4) (hp:y.Peers) (hl:∀ i,i<y.n->y.l i<=200):
  Calls Tryz.prog 55 #[.pointer (some ⟨X,4,none⟩)] w fun e w'=>e=.returned (.bool (qB y.Row))/\Below w0.heap.size w0 w':=by
 have HE:Hid (HisE w0 ha hA hC y):=hE
 have HH:Hid (y.Peers/\(∀ i,i<y.n->y.l i<=200)/\w0.heap.size<=X):=⟨hp,hl,hX⟩
 have zX:=hP.lt
 obtain ⟨cs,hcs,hlen,hone⟩:∃ cs,w.rangeAt X 4 cs/\cs.length=21/\∀ v ∈ cs,v.oneCell'=true:=⟨_,hP.range,rfl,hisL_one⟩
 have hsz:cs.toArray.size=21:=by simpa using hlen
 have HL21:Hid (cs.length=21/\∀ v ∈ cs,v.oneCell'=true):=⟨hlen,hone⟩
 have HI:Hid ((Tryz.prog.info? 59).map (·.size)=some cs.length):=by rw [hlen];exact infoHis
 have HR:Hid ((w.alloc (.cells #[.pointer (some ⟨X,4,none⟩)] 91)).rangeAt X 4 cs):=World.rangeAt_alloc hcs _
 have HO:Hid (cs.toArray.all (·.oneCell')=true):=all_oneCell_toArray hone
 have hmf:∀ (fn:Fn) (first cap:Array Value) (w:World),(Instr.makeFunc fn first cap).run Tryz.prog w=.ok (.func fn first cap) w:=fun _ _ _ _=>rfl
 have HT:Hid (((w.alloc (.cells #[.pointer (some ⟨X,4,none⟩)] 91)).alloc (zQ2)).there (w.heap.size+1) 0 cs.toArray.size):=fun j hj=>by
  have hj':j<21:=by rw [<- hsz];exact hj
  refine ⟨?_,yA _ _ _ _ (by simp)⟩
  rw [Nat.zero_add,zV _ _ _ j (by simp),Array.getElem?_eq_getElem (by simpa using hj')]
  rfl
 have tw:Touch (fun b=>b=w.heap.size+1) w (((w.alloc (.cells #[.pointer (some ⟨X,4,none⟩)] 91)).alloc (zQ2)).setCells (w.heap.size+1) 0 cs):=Touch.sets (P:=fun b=>b=w.heap.size+1) rfl _ _ (Touch.of_below ((zS _ _).trans ((zS _ _).mono (by simp))))
 have HRw:Hid (Rw w0 w (((w.alloc (.cells #[.pointer (some ⟨X,4,none⟩)] 91)).alloc (zQ2)).setCells (w.heap.size+1) 0 cs) X (w.heap.size+1) w.heap.size ha hc y cs (fun _=>0)):=by
  refine ⟨.start,hP.blk (tw.block X zX (by omega)),hb.trans (tw.below hb.size fun b e=>by have:=hb.size;omega),?_,World.rangeAt_setCells_same _ _ _ _ (by simpa using HT.out)⟩
  rw [World.cell?_setCells_out _ _ _ _ _ (fun e=>absurd e (by simp)),World.cell?_alloc_lt _ _ _ (by simp)]
  exact zV _ _ _ 0 rfl
 have HX:Hid (X<w.heap.size):=zX
 clear hE hp hl hX tw hb hP zX hlen hsz hcs hone
 go_enter_defers Tryz.func55,Tryz.ntmps55
 have h0:=HRw.out.hb
 go_wp2_with (first|(refine wpList_load_mid rfl 59 (.tmp 6) rfl X 4 rfl cs _ HR.out Tryz.underlying59 rfl HI.out ?_)|(refine wpList_store_mid rfl 59 (.tmp 3) (.tmp 7) rfl (w.heap.size+1) 0 cs.toArray rfl rfl HT.out (by simpa using HI.out) HO.out ?_))
 clear HR HT HI HO
 generalize ((w.alloc (.cells #[.pointer (some ⟨X,4,none⟩)] 91)).alloc (zQ2)).setCells (w.heap.size+1) 0 cs=W1 at *
 have nX:Hid (w.heap.size+1≠X/\w.heap.size≠X):=by
  have:=HX.out
  exact ⟨by omega,by omega⟩
 refine (next_any X ha hc hA hC y (fun _=>0) W1 (HE.out.below HRw.out.be) HRw.out.hp h4 HH.out.1 HH.out.2.1 HRw.out.pu.le).mono ?_
 rintro e w1 ⟨q1,hor⟩
 have HNx:Hid (Rw w0 w w1 X (w.heap.size+1) w.heap.size ha hc y cs (fun _=>0)):=HRw.out.touch (Touch.of_below q1) HH.out.2.2 nX.out.1 nX.out.2 HRw.out.pu (HRw.out.hp.below q1)
 obtain ⟨z,rfl,HOr⟩:∃ z:Int,e=.returned (.int .i64 z)/\Hid ((∃ k,k<y.n/\y.Can (fun _=>0) k/\z=(k:Nat))\/(z = -1/\∀ p,p<y.n->¬ y.Can (fun _=>0) p)):=by
  rcases hor with ⟨k,hk,hcan,rfl⟩ | ⟨rfl,hn⟩
  ·exact ⟨_,rfl,.inl ⟨k,hk,hcan,rfl⟩⟩
  ·exact ⟨_,rfl,.inr ⟨rfl,hn⟩⟩
 clear hor q1 h0 HRw
 go_wp2_with fail
 go_loopg [4] (sumL y.l y.n) (fun k p wr=>∃ d z,k=sumL y.l y.n - sumL d y.n/\p=.int .i64 z/\Rw w0 w wr X (w.heap.size+1) w.heap.size ha hc y cs d/\Hid ((∃ k,k<y.n/\y.Can d k/\z=(k:Nat))\/(z = -1/\∀ p,p<y.n->¬ y.Can d p)))
 case atStart=>exact ⟨_,z,by simp [sumL_zero],rfl,HNx.out,HOr.out⟩
 case round=>
  clear HNx HOr
  obtain ⟨d,zz,hgk,rfl,rw0,HOr⟩:=hrel
  have HRr:Hid (Rw w0 w wr X (w.heap.size+1) w.heap.size ha hc y cs d):=rw0
  have h1:=rw0.hb
  have HG:Hid (gk=sumL y.l y.n - sumL d y.n):=hgk
  clear rw0 hgk
  rcases HOr.out with ⟨k,hk,hcan,rfl⟩ | ⟨rfl,hst⟩
  ·have HCn:Hid (y.Can d k):=hcan
   have hz:¬ (k:Int) = -1:=by omega
   have hz':((k:Int) == -1)=false:=by simp
   clear HOr hcan
   go_wp2_with fail
   refine (putOne_any X ha hc hA hC y d k wr (HE.out.below HRr.out.be) HRr.out.hp h4 hk HH.out.1 HH.out.2.1 HRr.out.pu.le HCn.out.1).mono ?_
   rintro e w1 ⟨rfl,hp1,t1⟩
   have hpu:y.Put (up d k):=.next HRr.out.pu hk HCn.out
   have HN:Hid (Rw w0 w w1 X (w.heap.size+1) w.heap.size ha hc y cs (up d k)):=HRr.out.touch t1 HH.out.2.2 nX.out.1 nX.out.2 hpu hp1
   have HM:Hid (sumL y.l y.n - sumL (up d k) y.n<gk):=by
    have h2:=sumL_up (d:=d) hk
    have h3:=sumL_le hpu.le y.n
    have h4:=HG.out
    show sumL y.l y.n - sumL (up d k) y.n<gk
    omega
   clear hp1 t1 hpu h1 HRr HG hz hz'
   generalize up d k=d2 at *
   have h1:=HN.out.hb
   go_wp2_with fail
   refine (next_any X ha hc hA hC y d2 w1 (HE.out.below HN.out.be) HN.out.hp h4 HH.out.1 HH.out.2.1 HN.out.pu.le).mono ?_
   rintro e w2 ⟨q2,hor⟩
   have HN2:Hid (Rw w0 w w2 X (w.heap.size+1) w.heap.size ha hc y cs d2):=HN.out.touch (Touch.of_below q2) HH.out.2.2 nX.out.1 nX.out.2 HN.out.pu (HN.out.hp.below q2)
   obtain ⟨z,rfl,HOr⟩:∃ z:Int,e=.returned (.int .i64 z)/\Hid ((∃ k,k<y.n/\y.Can d2 k/\z=(k:Nat))\/(z = -1/\∀ p,p<y.n->¬ y.Can d2 p)):=by
    rcases hor with ⟨k,hk,hcan,rfl⟩ | ⟨rfl,hn⟩
    ·exact ⟨_,rfl,.inl ⟨k,hk,hcan,rfl⟩⟩
    ·exact ⟨_,rfl,.inr ⟨rfl,hn⟩⟩
   clear hor q2 h1 HN
   go_wp2
   go_roundg (sumL y.l y.n - sumL d2 y.n)
   case measure=>exact HM.out
   case rel=>exact ⟨d2,z,rfl,rfl,HN2.out,HOr.out⟩
  ·have HRow:Hid (qB (y.All d)=qB y.Row):=by
    show qB (y.All d)=qB y.Row
    have hi:=Hs.row_iff HRr.out.pu HH.out.1 hst
    by_cases hr:y.Row
    ·rw [qB_true hr,qB_true (hi.1 hr)]
    ·rw [qB_false hr,qB_false (fun h=>hr (hi.2 h))]
   have HN:Hid (Rw w0 w wr X (w.heap.size+1) w.heap.size ha hc y cs d):=HRr.out
   clear hst HG HOr HRr
   go_wp2_with fail
   refine (allPut_any X ha hc hA hC y d wr (HE.out.below HN.out.be) HN.out.hp h4 HH.out.2.1 HN.out.pu.le).mono ?_
   rintro e w2 ⟨rfl,b2⟩
   rw [HRow.out]
   have B2:Hid (Below wr.heap.size wr w2):=b2
   clear b2 h1
   have HB2:Hid (Below w0.heap.size w0 w2/\w2.rangeAt (w.heap.size+1) 0 cs/\w2.there X 4 21/\w2.cell? ⟨w.heap.size,0,none⟩=some (.pointer (some ⟨X,4,none⟩))):=
    ⟨HN.out.be.trans (B2.out.mono HN.out.be.size),rangeAt_touch (P:=fun _=>False) HN.out.bf (Touch.of_below B2.out) (fun h=>h),(HN.out.hp.below B2.out).thereX,(B2.out.cell (p:=⟨w.heap.size,0,none⟩) (zJ wr _ HN.out.hb)).trans HN.out.hb⟩
   go_wp2
   refine leaves_cons (f:=92) (args:=#[.pointer (some ⟨w.heap.size+1,0,none⟩),.pointer (some ⟨w.heap.size,0,none⟩)]) (by simp) (by simp [go_sem]) ?_
   refine (rowBack X (w.heap.size+1) w.heap.size w2 cs HL21.out.1 HL21.out.2 HB2.out.2.1 HB2.out.2.2.1 HB2.out.2.2.2 .returning).mono ?_
   rintro e u' w3 ⟨rfl,rfl,t3⟩
   exact ⟨_,results_tmp rfl _ _ _,rfl,HB2.out.1.trans (t3.below HB2.out.1.size fun b e=>by have:=HH.out.2.2;omega)⟩
theorem implNth_l (ea:Option Addr) (len cap:Nat) (eh:Nat->E3) (kd pr n:Int) (w:World) (hlen:len<=1048576) (hc:EvL w ea len eh):
  Calls Tryz.prog 109 #[.slice ea len cap,.int .i64 kd,.int .i64 pr,.int .i64 n] w fun e w'=>e=.returned (.int .i64 (nthV eh kd pr len n))/\Below w.heap.size w w':=by
 have HC:Hid (EvL w ea len eh):=hc
 clear hc
 generalize hV:nthV eh kd pr len n=V
 have HV:Hid (nthV eh kd pr len n=V):=hV
 clear hV
 have hpl:=plI_le eh kd pr len
 go_enter Tryz.func109,Tryz.ntmps109
 go_wp2_with fail
 refine (placesOf_l ea len cap eh kd pr w hlen HC.out).mono ?_
 rintro e w1 ⟨v,rfl,o1,b1⟩
 obtain ⟨a0,cp,rfl,s1⟩:=o1.form
 have HS:Hid (Sl w1 a0 (plI eh kd pr len)):=s1
 clear o1 s1
 rcases zK (belB n ((plI eh kd pr len).length:Nat)) with t | t
 ·have hn:0<=n/\n<((plI eh kd pr len).length:Int):=by simpa [belB] using t
  obtain ⟨m,rfl⟩:∃ m:Nat,n=m:=⟨n.toNat,by omega⟩
  have hv:=HV.out
  unfold nthV at hv
  rw [if_pos t,Int.toNat_natCast] at hv
  have hm:m<(plI eh kd pr len).length:=by omega
  have hm':(m:Int)<((plI eh kd pr len).length:Int):=by omega
  obtain ⟨b0,o0,rfl,hlt,hcell⟩:=HS.out.at hm
  rw [hv] at hcell
  clear hn hv HS
  go_wp2_with fail
  refine (isBelow_any _ _ _).mono ?_
  rintro e w2 ⟨rfl,rfl⟩
  go_wp2
  go_ret
  exact ⟨rfl,b1⟩
 ·have hv:=HV.out
  unfold nthV at hv
  rw [if_neg (by rw [t];decide)] at hv
  subst hv
  go_wp2_with fail
  refine (isBelow_any _ _ _).mono ?_
  rintro e w2 ⟨rfl,rfl⟩
  go_wp2
  go_ret
  exact ⟨rfl,b1⟩
