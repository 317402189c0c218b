import Derived.Test.YtlpckaoldaijlaaGreatDoorSe0
import Derived.Test.YtlpckaoldaijlaaGreatDoorSe12
import Derived.Test.YtlpckaoldaijlaaGreatDoorSe13
import Derived.Test.YtlpckaoldaijlaaGreatDoorSe8
import Derived.Test.YtlpckaoldaijlaaGreatDoorSe2
import Derived.Lib.QuietBelow
import Derived.BigRegion
import Derived.BigQuiet
namespace Go.Proofs.YtlpckaoldaijlaaGreatDoor
set_option maxRecDepth 100000
set_option maxHeartbeats 2000000
open Go.ChangeShapes Go.WideShapes Go.ChangeAt Go.RowKit Go.Deep
def sumL (ls:Nat->Nat):Nat->Nat
 | 0=>0
 | n+1=>sumL ls n+ls n
theorem sumL_mono (ls:Nat->Nat) {k n:Nat} (h:k<=n):sumL ls k<=sumL ls n:=by
 induction n with
 | zero=>
  have:k=0:=by omega
  subst this
  exact Nat.le_refl _
 | succ n ih=>
  by_cases hk:k=n+1
  ·subst hk
   exact Nat.le_refl _
  ·have:=ih (by omega)
   show sumL ls k<=sumL ls n+ls n
   omega
theorem sumL_at (ls:Nat->Nat) {k n:Nat} (h:k<n):sumL ls k+ls k<=sumL ls n:=sumL_mono ls (k:=k+1) h
def RowS (w:World) (a0:Option Addr) (n:Nat) (f:Nat->Value):Prop:=
 n=0\/∃ b off,a0=some ⟨b,off,none⟩/\b<w.heap.size/\∀ i,i<n->w.cell? ⟨b,off+i,none⟩=some (f i)
theorem RowS.below {w w':World} {a0:Option Addr} {n:Nat} {f:Nat->Value} (h:RowS w a0 n f) (hb:Below w.heap.size w w'):RowS w' a0 n f:=by
 rcases h with h | ⟨b,off,e,hlt,hc⟩
 ·exact .inl h
 ·exact .inr ⟨b,off,e,zL hlt hb.size,fun i hi=>(hb.cell (p:=⟨b,off+i,none⟩) hlt).trans (hc i hi)⟩
theorem RowS.at {w:World} {a0:Option Addr} {n:Nat} {f:Nat->Value} (h:RowS w a0 n f) {k:Nat} (hk:k<n):∃ b off,a0=some ⟨b,off,none⟩/\w.cell? ⟨b,off+k,none⟩=some (f k):=by
 rcases h with rfl | ⟨b,off,e,-,hc⟩
 ·omega
 ·exact ⟨b,off,e,hc k hk⟩
structure Touch (P:Nat->Prop) (w w':World):Prop where
 os:w'.os=w.os
 tape:w'.tape=w.tape
 output:w'.output=w.output
 size:w.heap.size<=w'.heap.size
 block:∀ k,k<w.heap.size->¬ P k->w'.heap[k]? = w.heap[k]?
theorem Touch.refl (P:Nat->Prop) (w:World):Touch P w w:=⟨rfl,rfl,rfl,Nat.le_refl _,fun _ _ _=>rfl⟩
theorem Touch.trans {P:Nat->Prop} {a b c:World} (h:Touch P a b) (k:Touch P b c):Touch P a c:=
 ⟨k.os.trans h.os,k.tape.trans h.tape,k.output.trans h.output,zP h.size k.size,fun i hi hn=>(k.block i (zL hi h.size) hn).trans (h.block i hi hn)⟩
theorem Touch.mono {P Q:Nat->Prop} {w w':World} (h:Touch P w w') (hq:∀ k,P k->Q k):Touch Q w w':=
 ⟨h.os,h.tape,h.output,h.size,fun k hk hn=>h.block k hk fun hp=>hn (hq k hp)⟩
theorem Touch.of_below {P:Nat->Prop} {w w':World} (h:Below w.heap.size w w'):Touch P w w':=
 ⟨h.os,h.tape,h.output,h.size,fun k hk _=>h.block k hk⟩
theorem Touch.of_set {P:Nat->Prop} (w:World) {a:Addr} (ha:P a.block) (u:Value):Touch P w (w.setCell a u):=
 ⟨rfl,rfl,rfl,by simp [World.setCell],fun k _ hn=>zO _ _ _ _ fun e=>hn (e ▸ ha)⟩
theorem Touch.below {P:Nat->Prop} {w w':World} {B:Nat} (h:Touch P w w') (hB:B<=w.heap.size) (hp:∀ k,P k->B<=k):Below B w w':=
 ⟨h.os,h.tape,h.output,h.size,fun k hk=>h.block k (by omega) fun e=>by have:=hp k e;omega⟩
theorem Touch.cell {P:Nat->Prop} {w w':World} (h:Touch P w w') {b:Nat} (hb:b<w.heap.size) (hp:¬ P b) (j:Nat):w'.cell? ⟨b,j,none⟩=w.cell? ⟨b,j,none⟩:=zH (h.block b hb hp)
theorem Touch.frozen {P:Nat->Prop} {w w':World} (h:Touch P w w') {b:Nat} (hb:b<w.heap.size) (hp:¬ P b) (j:Nat):w'.frozen? ⟨b,j,none⟩=w.frozen? ⟨b,j,none⟩:=zI (h.block b hb hp)
theorem open_rows {H:Type} {enc:TypeId × Value->H} {w:World} {spare:Nat->Bool} {held:Bool} {base:Nat} {a0:Option Addr} {len cap:Nat} {d:DataW H} {p:List MemPlace} {t el:TypeId} (hu:Tryz.prog.underlying t=some (.slice el)) (h1:Tryz.prog.cellsOf el=1)
  (h:DataW.Trod enc Tryz.prog w base spare held t (.slice a0 len cap) d p):
  len<=maxLen/\∃ f:Nat->Value,RowS w a0 len f/\∀ i,i<len->∃ m x,DataW.trod enc Tryz.prog w base spare held m el [f i]=some x:=by
 obtain ⟨fuel,hf⟩:=h
 rcases Go.Deep.open_slice hu hf with ⟨hcs,_⟩ | ⟨a,len',cap',m,n,D,Pl,hcs,_,hl,hm,hmm,_,hx⟩
 ·simp [Value.cells] at hcs
  obtain ⟨_,rfl,_⟩:=hcs
  exact ⟨Nat.zero_le _,fun _=>.int .i64 0,.inl rfl,fun i hi=>by omega⟩
 ·simp [Value.cells] at hcs
  obtain ⟨rfl,rfl,rfl⟩:=hcs
  refine ⟨zP hl hm,?_⟩
  have hle:len<=m:=by rw [hmm];split <;> omega
  rw [h1] at hx
  obtain ⟨b,off,spot⟩:=a
  have hcell:∀ i,i<len->∃ c:Value,w.cell? (Addr.add (Addr.add ⟨b,off,spot⟩ (i*1)) 0)=some c/\∃ m x,DataW.trod enc Tryz.prog w base spare held m el [c]=some x:=by
   intro i hi
   obtain ⟨cs',h1,h2⟩:=hx i (by omega)
   obtain ⟨_,hlen,hc⟩:=World.cells?_some h1
   match cs',hlen with
   | [c0],_=>exact ⟨c0,hc 0 (by omega),_,_,h2⟩
  have inh:Inhabited Value:=⟨.int .i64 0⟩
  obtain ⟨g,hg⟩:=Go.Deep.choose_lt (α:=Value) hcell
  refine ⟨g,?_,fun i hi=>(hg i hi).2⟩
  by_cases h0:len=0
  ·exact .inl h0
  have hspot:spot=none:=by
   have hx0:=(hg 0 (by omega)).1
   simpa [Addr.add] using World.cell?_spot hx0
  subst hspot
  have hI:∀ i,i<len->w.cell? ⟨b,off+i,none⟩=some (g i):=by
   intro i hi
   have q0:=(hg i hi).1
   rw [addr_addO,addr_addO,Nat.mul_one] at q0
   exact q0
  exact .inr ⟨b,off,rfl,cell_lt (hI 0 (by omega)),hI⟩
theorem szInsS_smallL (a0:Option Addr) (len cap:Nat) (L:Int) (w:World) (h:(len:Int)<=L) (hL:L<=1048576):
  Calls Tryz.prog 108 #[.slice a0 len cap,.int .i64 L] w fun e w'=>e=.returned (.int .i64 (L - (len:Int)))/\w'=w:=by
 have h1:(len:Int)<=1048576:=by omega
 have h2:0<=L:=by omega
 have h3:¬ (L - (len:Int)<0):=by omega
 go_enter Tryz.func108,Tryz.ntmps108
 go_wp2
 go_ret
 exact ⟨rfl,rfl⟩
theorem szInsS_greatL (a0:Option Addr) (len cap:Nat) (L:Int) (w:World) (h:L<(len:Int)) (h0:0<=L) (hL:L<=1048576) (hm:len<=maxLen):
  Calls Tryz.prog 108 #[.slice a0 len cap,.int .i64 L] w fun e w'=>e=.returned (.int .i64 (-1))/\w'=w:=by
 unfold maxLen at hm
 have h2:(len:Int)<=9223372036854775807:=by omega
 have h3:L - (len:Int)<0:=by omega
 go_enter Tryz.func108,Tryz.ntmps108
 go_wp2
 go_ret
 exact ⟨rfl,rfl⟩
structure OutIns (w:World) (D hi n:Nat) (ls:Nat->Nat) (bs:Nat->Nat) (h:Nat->Nat->I5):Prop where
 cel:∀ i,i<n->w.cell? ⟨D,i,none⟩=some (.slice (some ⟨bs i,0,none⟩) (ls i) (ls i))
 bd:∀ i,i<n->D<bs i/\bs i<hi
 row:∀ i,i<n->InsAt w (bs i) 0 (ls i) (h i)
 fr:∀ i,i<n->∀ j,w.frozen? ⟨bs i,j,none⟩=false
 up:∀ i j,i<j->j<n->bs i<bs j
 le:hi<=w.heap.size
 lt:D<hi
theorem OutIns.below {w w':World} {D hi n B:Nat} {ls:Nat->Nat} {bs:Nat->Nat} {h:Nat->Nat->I5} (o:OutIns w D hi n ls bs h) (hb:Below B w w') (hB:hi<=B):OutIns w' D hi n ls bs h:=
 ⟨fun i hi'=>(hb.cell (p:=⟨D,i,none⟩) (zL o.lt hB)).trans (o.cel i hi'),o.bd,fun i hi'=>(o.row i hi').below hb (zL (o.bd i hi').2 hB),fun i hi' j=>(hb.frozen (p:=⟨bs i,j,none⟩) (zL (o.bd i hi').2 hB)).trans (o.fr i hi' j),o.up,zP o.le hb.size,o.lt⟩
theorem OutIns.keep {w w':World} {D hi n:Nat} {ls:Nat->Nat} {bs:Nat->Nat} {h:Nat->Nat->I5} (o:OutIns w D hi n ls bs h) (hs:w.heap.size<=w'.heap.size) (hb:∀ k,D<=k->k<hi->w'.heap[k]? = w.heap[k]?):OutIns w' D hi n ls bs h:=by
 refine ⟨fun i hi'=>(zH (hb D (Nat.le_refl _) o.lt)).trans (o.cel i hi'),o.bd,fun i hi'=>?_,fun i hi' j=>(zI (hb _ (Nat.le_of_lt (o.bd i hi').1) (o.bd i hi').2)).trans (o.fr i hi' j),o.up,zP o.le hs,o.lt⟩
 have hc:∀ j,w'.cell? ⟨bs i,j,none⟩=w.cell? ⟨bs i,j,none⟩:=fun j=>zH (hb _ (Nat.le_of_lt (o.bd i hi').1) (o.bd i hi').2)
 intro t ht
 have:=o.row i hi' t ht
 simp only [hc]
 exact this
theorem szInsSS_small (a0:Option Addr) (n cap:Nat) (aa:Nat->Option Addr) (ls cs:Nat->Nat) (L:Int) (w:World) (hr:RowS w a0 n fun i=>.slice (aa i) (ls i) (cs i)) (h:(n:Int)+(sumL ls n:Nat)<=L) (hL:L<=1048576):
  Calls Tryz.prog 59 #[.slice a0 n cap,.int .i64 L] w fun e w'=>e=.returned (.int .i64 (L - n - (sumL ls n:Nat)))/\w'=w:=by
 have hn:(n:Int)<=1048576:=by omega
 have h0:0<=L:=by omega
 have hn0:¬ (L - (n:Int)<0):=by omega
 have HR:Hid (RowS w a0 n fun i=>.slice (aa i) (ls i) (cs i)):=hr
 have HS:Hid ((n:Int)+(sumL ls n:Nat)<=L):=h
 clear hr h
 go_enter Tryz.func59,Tryz.ntmps59
 go_wp2_with fail
 go_loopw [1,5] (fun q i wr=>∃ k:Nat,k<=n/\i=.int .i64 k/\q=.int .i64 (L - n - (sumL ls k:Nat))/\wr=w) (fun _ i _=>n - (intOf i).toNat)
 case atStart=>exact ⟨0,Nat.zero_le _,rfl,by simp [sumL],rfl⟩
 case round=>
  obtain ⟨k,hk,rfl,rfl,rfl⟩:=hrel
  by_cases hlt:k<n
  ·have hlt':(k:Int)<(n:Int):=by omega
   obtain ⟨b,off,rfl,ck⟩:=HR.out.at hlt
   have hsl:=sumL_at ls hlt
   have hS:=HS.out
   have e1:(L - n - (sumL ls k:Nat)) - (ls k:Int)=L - n - (sumL ls (k+1):Nat):=by simp only [sumL];omega
   have HE:Hid ((L - n - (sumL ls k:Nat)) - (ls k:Int)=L - n - (sumL ls (k+1):Nat)):=e1
   have e2:(ls k:Int)<=L - n - (sumL ls k:Nat):=by omega
   have e3:¬ (L - n - (sumL ls (k+1):Nat)<0):=by omega
   have e4:L - n - (sumL ls k:Nat)<=1048576:=by omega
   clear e1 hS hsl
   generalize hy:L - n - (sumL ls (k+1):Nat)=Y at *
   go_wp2_with fail
   refine (szInsS_smallL _ _ _ _ _ e2 e4).mono ?_
   rintro e w1 ⟨rfl,rfl⟩
   rw [HE.out]
   clear e2 e4
   go_wp2
   go_roundw
   case rel=>exact ⟨k+1,by omega,by go_num,by rw [<- hy],by trivial⟩
   case measure=>simp [intOf];omega
  ·have hkl:k=n:=by omega
   subst hkl
   go_wp2
   go_ret
   exact ⟨rfl,rfl⟩
theorem szInsSS_great (a0:Option Addr) (n cap:Nat) (aa:Nat->Option Addr) (ls cs:Nat->Nat) (L:Int) (w:World) (hr:RowS w a0 n fun i=>.slice (aa i) (ls i) (cs i)) (h:L<(n:Int)+(sumL ls n:Nat)) (h0:0<=L) (hL:L<=1048576) (hm:n<=maxLen) (hl:∀ i,i<n->ls i<=maxLen):
  Calls Tryz.prog 59 #[.slice a0 n cap,.int .i64 L] w fun e w'=>e=.returned (.int .i64 (-1))/\w'=w:=by
 have hm':(n:Int)<=9223372036854775807:=by unfold maxLen at hm;omega
 by_cases hn0:L - (n:Int)<0
 ·go_enter Tryz.func59,Tryz.ntmps59
  go_wp2
  go_ret
  exact ⟨rfl,rfl⟩
 have hn:(n:Int)<=1048576:=by omega
 have HR:Hid (RowS w a0 n fun i=>.slice (aa i) (ls i) (cs i)):=hr
 have HS:Hid (L<(n:Int)+(sumL ls n:Nat)):=h
 have HL:Hid (∀ i,i<n->ls i<=maxLen):=hl
 clear hr h hl hm
 go_enter Tryz.func59,Tryz.ntmps59
 go_wp2_with fail
 go_loopw [1,5] (fun q i wr=>∃ k:Nat,k<=n/\i=.int .i64 k/\q=.int .i64 (L - n - (sumL ls k:Nat))/\0<=L - n - (sumL ls k:Nat)/\wr=w) (fun _ i _=>n - (intOf i).toNat)
 case atStart=>exact ⟨0,Nat.zero_le _,rfl,by simp [sumL],by simp only [sumL];omega,rfl⟩
 case round=>
  obtain ⟨k,hk,rfl,rfl,hp,rfl⟩:=hrel
  by_cases hlt:k<n
  ·have hlt':(k:Int)<(n:Int):=by omega
   obtain ⟨b,off,rfl,ck⟩:=HR.out.at hlt
   have hml:=HL.out k hlt
   have e1:(L - n - (sumL ls k:Nat)) - (ls k:Int)=L - n - (sumL ls (k+1):Nat):=by simp only [sumL];omega
   have HE:Hid ((L - n - (sumL ls k:Nat)) - (ls k:Int)=L - n - (sumL ls (k+1):Nat)):=e1
   have e4:L - n - (sumL ls k:Nat)<=1048576:=by omega
   clear e1
   by_cases hb:(ls k:Int)<=L - n - (sumL ls k:Nat)
   ·have e3:0<=L - n - (sumL ls (k+1):Nat):=by have:=HE.out;omega
    have e3':¬ (L - n - (sumL ls (k+1):Nat)<0):=by omega
    generalize hy:L - n - (sumL ls (k+1):Nat)=Y at *
    go_wp2_with fail
    refine (szInsS_smallL _ _ _ _ _ hb e4).mono ?_
    rintro e w1 ⟨rfl,rfl⟩
    rw [HE.out]
    clear hb e4 hml hp
    go_wp2
    go_roundw
    case rel=>exact ⟨k+1,by omega,by go_num,by rw [<- hy],by omega,by trivial⟩
    case measure=>simp [intOf];omega
   ·have hb':L - n - (sumL ls k:Nat)<(ls k:Int):=by omega
    go_wp2_with fail
    refine (szInsS_greatL _ _ _ _ _ hb' hp e4 hml).mono ?_
    rintro e w1 ⟨rfl,rfl⟩
    clear hb hb' e4 hml hp HE
    go_wp2
    go_ret
    exact ⟨rfl,rfl⟩
  ·have hkl:k=n:=by omega
   subst hkl
   have:=HS.out
   omega
theorem infoInsS:(Tryz.prog.info? 78).map (fun i=>(i.zero,i.size,i.bytes))=some (some (.slice none 0 0),1,24):=by kernel_rfl
theorem run_make_InsS (n:Nat) (hn:n<=1048576) (w:World):
  (Instr.makeSlice 24 (.int .i64 (n:Int)) (.int .i64 (n:Int))).run Tryz.prog w=.ok (.slice (some ⟨w.heap.size,0,none⟩) n n) (w.alloc (.cells (madeCells #[.slice none 0 0] n) 78)):=by
 have hinfo:=infoInsS
 cases hi:Tryz.prog.info? 78 with
 | none=>rw [hi] at hinfo;cases hinfo
 | some i=>
  rw [hi] at hinfo
  simp only [Option.map_some,Option.some.injEq,Prod.mk.injEq] at hinfo
  obtain ⟨hz,hs,hb⟩:=hinfo
  have h:=run_make (P:=Tryz.prog) w 24 78 i _ Tryz.underlying24 hi hz .i64 .i64 (n:Int) (n:Int) (by omega) (Int.le_refl _) (by rw [hb];omega) (by omega)
  rw [hs] at h
  simpa [Value.cells] using h
theorem madeInsS_row (w:World) (n:Nat):(w.alloc (.cells (madeCells #[.slice none 0 0] n) 78)).rowIs w.heap.size 78 n (fun _=>.slice none 0 0):=by
 refine ⟨_,blk_alloc_new _ _,size_madeCells _ _,fun i hi=>?_⟩
 simp only [madeCells]
 rw [Array.getElem?_map,Array.getElem?_range,if_pos hi]
 have:i % 1=0:=Nat.mod_one i
 exact congrArg some (by simp [this])
structure FillIns (w:World) (D k:Nat) (f:Nat->Value) (ls:Nat->Nat) (bs:Nat->Nat) (h:Nat->Nat->I5):Prop where
 cel:∀ i,i<k->f i=.slice (some ⟨bs i,0,none⟩) (ls i) (ls i)
 bd:∀ i,i<k->D<bs i/\bs i<w.heap.size
 row:∀ i,i<k->InsAt w (bs i) 0 (ls i) (h i)
 fr:∀ i,i<k->∀ j,w.frozen? ⟨bs i,j,none⟩=false
 up:∀ i j,i<j->j<k->bs i<bs j
theorem FillIns.step {w w1:World} {D k:Nat} {f:Nat->Value} {ls:Nat->Nat} {bs:Nat->Nat} {h:Nat->Nat->I5} (o:FillIns w D k f ls bs h) (hb:Below w.heap.size w w1) (hD:D<w.heap.size) (hz:w.heap.size<w1.heap.size) (hr:InsAt w1 w.heap.size 0 (ls k) (h k)) (hf:∀ j,w1.frozen? ⟨w.heap.size,j,none⟩=false) (u:Value):
  FillIns (w1.setCell ⟨D,k,none⟩ u) D (k+1) (fun i=>if i=k then .slice (some ⟨w.heap.size,0,none⟩) (ls k) (ls k) else f i) ls (fun i=>if i=k then w.heap.size else bs i) h:=by
 have hs:∀ b,b≠D->(w1.setCell ⟨D,k,none⟩ u).heap[b]? = w1.heap[b]?:=fun b hne=>zO _ _ _ _ hne
 have hat:∀ b n g,b≠D->InsAt w1 b 0 n g->InsAt (w1.setCell ⟨D,k,none⟩ u) b 0 n g:=fun b n g hne hg=>fun i hi=>by
  have hc:∀ j,(w1.setCell ⟨D,k,none⟩ u).cell? ⟨b,j,none⟩=w1.cell? ⟨b,j,none⟩:=fun j=>zH (hs b hne)
  have:=hg i hi
  simp only [hc]
  exact this
 refine ⟨fun i hi=>?_,fun i hi=>?_,fun i hi=>?_,fun i hi j=>?_,fun i j hij hj=>?_⟩
 ·by_cases e:i=k
  ·subst e;simp
  ·simp only [if_neg e];exact o.cel i (by omega)
 ·by_cases e:i=k
  ·subst e;simp;omega
  ·simp only [if_neg e,World.size_setCell];have:=o.bd i (by omega);omega
 ·by_cases e:i=k
  ·subst e;simp only [if_true];exact hat _ _ _ (by omega) hr
  ·simp only [if_neg e];have hbd:=o.bd i (by omega);exact hat _ _ _ (by omega) ((o.row i (by omega)).below hb hbd.2)
 ·by_cases e:i=k
  ·subst e;simp only [if_true];rw [World.frozen?_setCell];exact hf j
  ·simp only [if_neg e];rw [World.frozen?_setCell];have hbd:=o.bd i (by omega);exact (hb.frozen (p:=⟨bs i,j,none⟩) hbd.2).trans (o.fr i (by omega) j)
 ·by_cases e:j=k
  ·have hi:i≠k:=by omega
   simp only [if_neg hi,if_pos e]
   exact (o.bd i (by omega)).2
  ·have hi:i≠k:=by omega
   simp only [if_neg hi,if_neg e]
   exact o.up i j hij (by omega)
structure AllIns (W:World) (a0:Option Addr) (n:Nat) (aa:Nat->Option Addr) (ls cs:Nat->Nat) (h:Nat->Nat->I5):Prop where
 row:RowS W a0 n fun i=>.slice (aa i) (ls i) (cs i)
 cop:∀ i,i<n->CopiesF W (aa i) (ls i) (cs i) (h i)
theorem toInsSS_any (a0:Option Addr) (n cap:Nat) (aa:Nat->Option Addr) (ls cs:Nat->Nat) (h:Nat->Nat->I5) (W w:World) (hn:n<=1048576) (hA:AllIns W a0 n aa ls cs h) (hW:Below W.heap.size W w):
  Calls Tryz.prog 63 #[.slice a0 n cap] w fun e w'=>e=.returned (.slice (some ⟨w.heap.size,0,none⟩) n n)/\(∃ bs,OutIns w' w.heap.size w'.heap.size n ls bs h)/\Below w.heap.size w w':=by
 have hl':(n:Int)<=1048576:=by omega
 have hmk:=run_make_InsS n hn
 have HA:Hid (AllIns W a0 n aa ls cs h):=hA
 have HW:Hid (Below W.heap.size W w):=hW
 clear hA hW
 go_enter Tryz.func63,Tryz.ntmps63
 go_wp2_with fail
 clear hmk
 go_loopw [4] (fun i wr=>∃ k:Nat,k<=n/\i=.int .i64 k/\(∃ f,wr.rowIs w.heap.size 78 n f/\Hid (∃ bs,FillIns wr w.heap.size k f ls bs h))/\Below w.heap.size w wr) (fun i _=>n - (intOf i).toNat)
 case atStart=>exact ⟨0,Nat.zero_le _,rfl,⟨_,madeInsS_row w n,fun _=>0,fun i hi=>by omega,fun i hi=>by omega,fun i hi=>by omega,fun i hi=>by omega,fun i j hij hj=>by omega⟩,(Below.refl _ _).alloc (Nat.le_refl _) _⟩
 case round=>
  obtain ⟨k,hk,rfl,⟨f,hrow,HF⟩,hbw⟩:=hrel
  have hs:=hrow.lt
  by_cases hlt:k<n
  ·have hlt':(k:Int)<(n:Int):=by omega
   have HB:Hid (Below W.heap.size W wr):=HW.out.trans (hbw.mono HW.out.size)
   obtain ⟨b,off,rfl,ck⟩:=(HA.out.row.below HB.out).at hlt
   have HR:Hid (wr.rowIs w.heap.size 78 n f):=hrow
   clear hrow
   go_wp2_with fail
   refine (HA.out.cop k hlt wr HB.out).mono ?_
   rintro e w1 ⟨rfl,hi1,hz1,hb1,hf1⟩
   have hr1:w1.rowIs w.heap.size 78 n f:=HR.out.of_block (hb1.block _ hs)
   have f0:=hr1.frozen k
   have g0:=hr1.cell (i:=k) hlt
   have HR1:Hid (w1.rowIs w.heap.size 78 n f):=hr1
   have HF1:Hid (∃ bs,FillIns (w1.setCell ⟨w.heap.size,k,none⟩ (.slice (some ⟨wr.heap.size,0,none⟩) (ls k) (ls k))) w.heap.size (k+1) (fun i=>if i=k then .slice (some ⟨wr.heap.size,0,none⟩) (ls k) (ls k) else f i) ls bs h):=by
    obtain ⟨bs,o⟩:=HF.out
    exact ⟨_,o.step hb1 hs hz1 hi1 hf1 _⟩
   clear hr1 hi1 HF HR hf1
   go_wp2_with fail
   exact ⟨⟨k+1,by omega,by go_num,⟨_,HR1.out.set _ _,HF1.out⟩,(hbw.trans (hb1.mono (Nat.le_of_lt hs))).setCell (Nat.le_refl _) _⟩,by simp [intOf];omega⟩
  ·have hkl:k=n:=by omega
   have HO:Hid (∃ bs,OutIns wr w.heap.size wr.heap.size n ls bs h):=by
    obtain ⟨bs,o⟩:=HF.out
    rw [hkl] at o
    exact ⟨bs,fun i hi=>by rw [hrow.cell hi,o.cel i hi],o.bd,o.row,o.fr,o.up,Nat.le_refl _,hs⟩
   clear hkl HF hrow
   go_wp2
   go_ret
   exact ⟨rfl,HO.out,hbw⟩
theorem eqInsSS_same (D1 h1 D2 h2 n c1 c2:Nat) (ls b1 b2:Nat->Nat) (h:Nat->Nat->I5) (w:World) (hn:n<=1048576) (hl:∀ i,i<n->ls i<=1048576) (o1:OutIns w D1 h1 n ls b1 h) (o2:OutIns w D2 h2 n ls b2 h):
  Calls Tryz.prog 68 #[.slice (some ⟨D1,0,none⟩) n c1,.slice (some ⟨D2,0,none⟩) n c2] w fun e w'=>e=.returned (.bool true)/\Below w.heap.size w w':=by
 have hl':(n:Int)<=1048576:=by omega
 have O1:Hid (OutIns w D1 h1 n ls b1 h):=o1
 have O2:Hid (OutIns w D2 h2 n ls b2 h):=o2
 have HL:Hid (∀ i,i<n->ls i<=1048576):=hl
 clear o1 o2 hl
 go_enter Tryz.func68,Tryz.ntmps68
 go_wp2_with fail
 go_loopw [5] (fun i wr=>∃ k:Nat,k<=n/\i=.int .i64 k/\Below w.heap.size w wr) (fun i _=>n - (intOf i).toNat)
 case atStart=>exact ⟨0,Nat.zero_le _,rfl,Below.refl _ _⟩
 case round=>
  obtain ⟨k,hk,rfl,hbw⟩:=hrel
  have hs:=hbw.size
  by_cases hlt:k<n
  ·have P1:Hid (OutIns wr D1 h1 n ls b1 h):=O1.out.below hbw O1.out.le
   have P2:Hid (OutIns wr D2 h2 n ls b2 h):=O2.out.below hbw O2.out.le
   have ck:=P1.out.cel k hlt
   have dk:=P2.out.cel k hlt
   have hlt':(k:Int)<(n:Int):=by omega
   go_wp2_with fail
   first|(go_region_with (go_at_call 118;refine (eqInsS_same (b1 k) (b2 k) (ls k) (ls k) (ls k) (h k) wr.drew (HL.out k hlt) (zL (P1.out.bd k hlt).2 P1.out.le) (zL (P2.out.bd k hlt).2 P2.out.le) (P1.out.row k hlt) (P2.out.row k hlt)).mono ?_;rintro e w1 ⟨rfl,hq1⟩)) | fail
   all_goals
    go_wp2
    go_roundw
    case rel=>exact ⟨k+1,by omega,by go_num,hbw.drew.trans (hq1.mono hs)⟩
    case measure=>simp [intOf];omega
  ·go_wp2
   go_ret
   exact ⟨rfl,hbw⟩
theorem open_InsSS {H:Type} {enc:TypeId × Value->H} {w:World} {spare:Nat->Bool} {held:Bool} {base:Nat} {a0:Option Addr} {len cap:Nat} {d:DataW H} {p:List MemPlace}
  (h:DataW.Trod enc Tryz.prog w base spare held 38 (.slice a0 len cap) d p):
  len<=maxLen/\∃ aa ls cs,RowS w a0 len (fun i=>.slice (aa i) (ls i) (cs i))/\(∀ i,i<len->ls i<=maxLen)/\((∀ i,i<len->ls i<=1048576)->∃ hh,AllIns w a0 len aa ls cs hh):=by
 obtain ⟨hm,f,hrow,hf⟩:=open_rows Tryz.underlying38 (el:=149) (by kernel_rfl) h
 refine ⟨hm,?_⟩
 have hpart:∀ i,i<len->∃ x:Option Addr × Nat × Nat,f i=.slice x.1 x.2.1 x.2.2/\x.2.1<=maxLen/\(x.2.1<=1048576->∃ g,CopiesF w x.1 x.2.1 x.2.2 g):=by
  intro i hi
  obtain ⟨m,x,hx⟩:=hf i hi
  have hsl:∃ a l c,f i=.slice a l c:=by
   rcases Go.Deep.open_slice Tryz.underlying149 hx with ⟨hcs,_⟩ | ⟨a,len',cap',m,n,D,Pl,hcs,_⟩
   ·simp at hcs
    exact ⟨_,_,_,hcs⟩
   ·simp at hcs
    exact ⟨_,_,_,hcs⟩
  obtain ⟨a,l,c,e⟩:=hsl
  rw [e] at hx
  obtain ⟨h1,h2⟩:=open_insRow (d:=x.1) (p:=x.2) (a0:=a) (len:=l) (cap:=c) ⟨m,by simpa [Value.cells] using hx⟩
  exact ⟨(a,l,c),e,h1,fun hs=>copiesF_of hs h2⟩
 obtain ⟨g,hg⟩:=Go.Deep.choose_lt (α:=Option Addr × Nat × Nat) hpart
 refine ⟨fun i=>(g i).1,fun i=>(g i).2.1,fun i=>(g i).2.2,?_,fun i hi=>(hg i hi).2.1,fun hs=>?_⟩
 ·rcases hrow with h0 | ⟨b,off,e,hlt,hc⟩
  ·exact .inl h0
  ·exact .inr ⟨b,off,e,hlt,fun i hi=>(hc i hi).trans (by rw [(hg i hi).1])⟩
 ·have hq:∀ i,i<len->∃ q:Nat->I5,CopiesF w (g i).1 (g i).2.1 (g i).2.2 q:=fun i hi=>(hg i hi).2.2 (hs i hi)
  have inh:Inhabited (Nat->I5):=⟨fun _=>⟨0,0,0,0,0⟩⟩
  obtain ⟨hh,hhh⟩:=Go.Deep.choose_lt (α:=Nat->I5) hq
  refine ⟨hh,?_,hhh⟩
  rcases hrow with h0 | ⟨b,off,e,hlt,hc⟩
  ·exact .inl h0
  ·exact .inr ⟨b,off,e,hlt,fun i hi=>(hc i hi).trans (by rw [(hg i hi).1])⟩
structure OutEvent (w:World) (D hi n:Nat) (ls:Nat->Nat) (bs:Nat->Nat) (h:Nat->Nat->E3):Prop where
 cel:∀ i,i<n->w.cell? ⟨D,i,none⟩=some (.slice (some ⟨bs i,0,none⟩) (ls i) (ls i))
 bd:∀ i,i<n->D<bs i/\bs i<hi
 row:∀ i,i<n->EvAt w (bs i) 0 (ls i) (h i)
 fr:∀ i,i<n->∀ j,w.frozen? ⟨bs i,j,none⟩=false
 up:∀ i j,i<j->j<n->bs i<bs j
 le:hi<=w.heap.size
 lt:D<hi
theorem OutEvent.below {w w':World} {D hi n B:Nat} {ls:Nat->Nat} {bs:Nat->Nat} {h:Nat->Nat->E3} (o:OutEvent w D hi n ls bs h) (hb:Below B w w') (hB:hi<=B):OutEvent w' D hi n ls bs h:=
 ⟨fun i hi'=>(hb.cell (p:=⟨D,i,none⟩) (zL o.lt hB)).trans (o.cel i hi'),o.bd,fun i hi'=>(o.row i hi').below hb (zL (o.bd i hi').2 hB),fun i hi' j=>(hb.frozen (p:=⟨bs i,j,none⟩) (zL (o.bd i hi').2 hB)).trans (o.fr i hi' j),o.up,zP o.le hb.size,o.lt⟩
theorem OutEvent.keep {w w':World} {D hi n:Nat} {ls:Nat->Nat} {bs:Nat->Nat} {h:Nat->Nat->E3} (o:OutEvent w D hi n ls bs h) (hs:w.heap.size<=w'.heap.size) (hb:∀ k,D<=k->k<hi->w'.heap[k]? = w.heap[k]?):OutEvent w' D hi n ls bs h:=by
 refine ⟨fun i hi'=>(zH (hb D (Nat.le_refl _) o.lt)).trans (o.cel i hi'),o.bd,fun i hi'=>?_,fun i hi' j=>(zI (hb _ (Nat.le_of_lt (o.bd i hi').1) (o.bd i hi').2)).trans (o.fr i hi' j),o.up,zP o.le hs,o.lt⟩
 have hc:∀ j,w'.cell? ⟨bs i,j,none⟩=w.cell? ⟨bs i,j,none⟩:=fun j=>zH (hb _ (Nat.le_of_lt (o.bd i hi').1) (o.bd i hi').2)
 intro t ht
 have:=o.row i hi' t ht
 simp only [hc]
 exact this
theorem szEventSS_small (a0:Option Addr) (n cap:Nat) (aa:Nat->Option Addr) (ls cs:Nat->Nat) (L:Int) (w:World) (hr:RowS w a0 n fun i=>.slice (aa i) (ls i) (cs i)) (h:(n:Int)+(sumL ls n:Nat)<=L) (hL:L<=1048576):
  Calls Tryz.prog 62 #[.slice a0 n cap,.int .i64 L] w fun e w'=>e=.returned (.int .i64 (L - n - (sumL ls n:Nat)))/\w'=w:=by
 have hn:(n:Int)<=1048576:=by omega
 have h0:0<=L:=by omega
 have hn0:¬ (L - (n:Int)<0):=by omega
 have HR:Hid (RowS w a0 n fun i=>.slice (aa i) (ls i) (cs i)):=hr
 have HS:Hid ((n:Int)+(sumL ls n:Nat)<=L):=h
 clear hr h
 go_enter Tryz.func62,Tryz.ntmps62
 go_wp2_with fail
 go_loopw [1,5] (fun q i wr=>∃ k:Nat,k<=n/\i=.int .i64 k/\q=.int .i64 (L - n - (sumL ls k:Nat))/\wr=w) (fun _ i _=>n - (intOf i).toNat)
 case atStart=>exact ⟨0,Nat.zero_le _,rfl,by simp [sumL],rfl⟩
 case round=>
  obtain ⟨k,hk,rfl,rfl,rfl⟩:=hrel
  by_cases hlt:k<n
  ·have hlt':(k:Int)<(n:Int):=by omega
   obtain ⟨b,off,rfl,ck⟩:=HR.out.at hlt
   have hsl:=sumL_at ls hlt
   have hS:=HS.out
   have e1:(L - n - (sumL ls k:Nat)) - (ls k:Int)=L - n - (sumL ls (k+1):Nat):=by simp only [sumL];omega
   have HE:Hid ((L - n - (sumL ls k:Nat)) - (ls k:Int)=L - n - (sumL ls (k+1):Nat)):=e1
   have e2:(ls k:Int)<=L - n - (sumL ls k:Nat):=by omega
   have e3:¬ (L - n - (sumL ls (k+1):Nat)<0):=by omega
   have e4:L - n - (sumL ls k:Nat)<=1048576:=by omega
   clear e1 hS hsl
   generalize hy:L - n - (sumL ls (k+1):Nat)=Y at *
   go_wp2_with fail
   refine (szEventS_small _ _ _ _ _ e2 e4).mono ?_
   rintro e w1 ⟨rfl,rfl⟩
   rw [HE.out]
   clear e2 e4
   go_wp2
   go_roundw
   case rel=>exact ⟨k+1,by omega,by go_num,by rw [<- hy],by trivial⟩
   case measure=>simp [intOf];omega
  ·have hkl:k=n:=by omega
   subst hkl
   go_wp2
   go_ret
   exact ⟨rfl,rfl⟩
theorem szEventSS_great (a0:Option Addr) (n cap:Nat) (aa:Nat->Option Addr) (ls cs:Nat->Nat) (L:Int) (w:World) (hr:RowS w a0 n fun i=>.slice (aa i) (ls i) (cs i)) (h:L<(n:Int)+(sumL ls n:Nat)) (h0:0<=L) (hL:L<=1048576) (hm:n<=maxLen) (hl:∀ i,i<n->ls i<=maxLen):
  Calls Tryz.prog 62 #[.slice a0 n cap,.int .i64 L] w fun e w'=>e=.returned (.int .i64 (-1))/\w'=w:=by
 have hm':(n:Int)<=9223372036854775807:=by unfold maxLen at hm;omega
 by_cases hn0:L - (n:Int)<0
 ·go_enter Tryz.func62,Tryz.ntmps62
  go_wp2
  go_ret
  exact ⟨rfl,rfl⟩
 have hn:(n:Int)<=1048576:=by omega
 have HR:Hid (RowS w a0 n fun i=>.slice (aa i) (ls i) (cs i)):=hr
 have HS:Hid (L<(n:Int)+(sumL ls n:Nat)):=h
 have HL:Hid (∀ i,i<n->ls i<=maxLen):=hl
 clear hr h hl hm
 go_enter Tryz.func62,Tryz.ntmps62
 go_wp2_with fail
 go_loopw [1,5] (fun q i wr=>∃ k:Nat,k<=n/\i=.int .i64 k/\q=.int .i64 (L - n - (sumL ls k:Nat))/\0<=L - n - (sumL ls k:Nat)/\wr=w) (fun _ i _=>n - (intOf i).toNat)
 case atStart=>exact ⟨0,Nat.zero_le _,rfl,by simp [sumL],by simp only [sumL];omega,rfl⟩
 case round=>
  obtain ⟨k,hk,rfl,rfl,hp,rfl⟩:=hrel
  by_cases hlt:k<n
  ·have hlt':(k:Int)<(n:Int):=by omega
   obtain ⟨b,off,rfl,ck⟩:=HR.out.at hlt
   have hml:=HL.out k hlt
   have e1:(L - n - (sumL ls k:Nat)) - (ls k:Int)=L - n - (sumL ls (k+1):Nat):=by simp only [sumL];omega
   have HE:Hid ((L - n - (sumL ls k:Nat)) - (ls k:Int)=L - n - (sumL ls (k+1):Nat)):=e1
   have e4:L - n - (sumL ls k:Nat)<=1048576:=by omega
   clear e1
   by_cases hb:(ls k:Int)<=L - n - (sumL ls k:Nat)
   ·have e3:0<=L - n - (sumL ls (k+1):Nat):=by have:=HE.out;omega
    have e3':¬ (L - n - (sumL ls (k+1):Nat)<0):=by omega
    generalize hy:L - n - (sumL ls (k+1):Nat)=Y at *
    go_wp2_with fail
    refine (szEventS_small _ _ _ _ _ hb e4).mono ?_
    rintro e w1 ⟨rfl,rfl⟩
    rw [HE.out]
    clear hb e4 hml hp
    go_wp2
    go_roundw
    case rel=>exact ⟨k+1,by omega,by go_num,by rw [<- hy],by omega,by trivial⟩
    case measure=>simp [intOf];omega
   ·have hb':L - n - (sumL ls k:Nat)<(ls k:Int):=by omega
    go_wp2_with fail
    refine (szEventS_great _ _ _ _ _ hb' hp e4 hml).mono ?_
    rintro e w1 ⟨rfl,rfl⟩
    clear hb hb' e4 hml hp HE
    go_wp2
    go_ret
    exact ⟨rfl,rfl⟩
  ·have hkl:k=n:=by omega
   subst hkl
   have:=HS.out
   omega
theorem infoEventS:(Tryz.prog.info? 75).map (fun i=>(i.zero,i.size,i.bytes))=some (some (.slice none 0 0),1,24):=by kernel_rfl
theorem run_make_EventS (n:Nat) (hn:n<=1048576) (w:World):
  (Instr.makeSlice 27 (.int .i64 (n:Int)) (.int .i64 (n:Int))).run Tryz.prog w=.ok (.slice (some ⟨w.heap.size,0,none⟩) n n) (w.alloc (.cells (madeCells #[.slice none 0 0] n) 75)):=by
 have hinfo:=infoEventS
 cases hi:Tryz.prog.info? 75 with
 | none=>rw [hi] at hinfo;cases hinfo
 | some i=>
  rw [hi] at hinfo
  simp only [Option.map_some,Option.some.injEq,Prod.mk.injEq] at hinfo
  obtain ⟨hz,hs,hb⟩:=hinfo
  have h:=run_make (P:=Tryz.prog) w 27 75 i _ Tryz.underlying27 hi hz .i64 .i64 (n:Int) (n:Int) (by omega) (Int.le_refl _) (by rw [hb];omega) (by omega)
  rw [hs] at h
  simpa [Value.cells] using h
theorem madeEventS_row (w:World) (n:Nat):(w.alloc (.cells (madeCells #[.slice none 0 0] n) 75)).rowIs w.heap.size 75 n (fun _=>.slice none 0 0):=by
 refine ⟨_,blk_alloc_new _ _,size_madeCells _ _,fun i hi=>?_⟩
 simp only [madeCells]
 rw [Array.getElem?_map,Array.getElem?_range,if_pos hi]
 have:i % 1=0:=Nat.mod_one i
 exact congrArg some (by simp [this])
structure FillEvent (w:World) (D k:Nat) (f:Nat->Value) (ls:Nat->Nat) (bs:Nat->Nat) (h:Nat->Nat->E3):Prop where
 cel:∀ i,i<k->f i=.slice (some ⟨bs i,0,none⟩) (ls i) (ls i)
 bd:∀ i,i<k->D<bs i/\bs i<w.heap.size
 row:∀ i,i<k->EvAt w (bs i) 0 (ls i) (h i)
 fr:∀ i,i<k->∀ j,w.frozen? ⟨bs i,j,none⟩=false
 up:∀ i j,i<j->j<k->bs i<bs j
theorem FillEvent.step {w w1:World} {D k:Nat} {f:Nat->Value} {ls:Nat->Nat} {bs:Nat->Nat} {h:Nat->Nat->E3} (o:FillEvent w D k f ls bs h) (hb:Below w.heap.size w w1) (hD:D<w.heap.size) (hz:w.heap.size<w1.heap.size) (hr:EvAt w1 w.heap.size 0 (ls k) (h k)) (hf:∀ j,w1.frozen? ⟨w.heap.size,j,none⟩=false) (u:Value):
  FillEvent (w1.setCell ⟨D,k,none⟩ u) D (k+1) (fun i=>if i=k then .slice (some ⟨w.heap.size,0,none⟩) (ls k) (ls k) else f i) ls (fun i=>if i=k then w.heap.size else bs i) h:=by
 have hs:∀ b,b≠D->(w1.setCell ⟨D,k,none⟩ u).heap[b]? = w1.heap[b]?:=fun b hne=>zO _ _ _ _ hne
 have hat:∀ b n g,b≠D->EvAt w1 b 0 n g->EvAt (w1.setCell ⟨D,k,none⟩ u) b 0 n g:=fun b n g hne hg=>fun i hi=>by
  have hc:∀ j,(w1.setCell ⟨D,k,none⟩ u).cell? ⟨b,j,none⟩=w1.cell? ⟨b,j,none⟩:=fun j=>zH (hs b hne)
  have:=hg i hi
  simp only [hc]
  exact this
 refine ⟨fun i hi=>?_,fun i hi=>?_,fun i hi=>?_,fun i hi j=>?_,fun i j hij hj=>?_⟩
 ·by_cases e:i=k
  ·subst e;simp
  ·simp only [if_neg e];exact o.cel i (by omega)
 ·by_cases e:i=k
  ·subst e;simp;omega
  ·simp only [if_neg e,World.size_setCell];have:=o.bd i (by omega);omega
 ·by_cases e:i=k
  ·subst e;simp only [if_true];exact hat _ _ _ (by omega) hr
  ·simp only [if_neg e];have hbd:=o.bd i (by omega);exact hat _ _ _ (by omega) ((o.row i (by omega)).below hb hbd.2)
 ·by_cases e:i=k
  ·subst e;simp only [if_true];rw [World.frozen?_setCell];exact hf j
  ·simp only [if_neg e];rw [World.frozen?_setCell];have hbd:=o.bd i (by omega);exact (hb.frozen (p:=⟨bs i,j,none⟩) hbd.2).trans (o.fr i (by omega) j)
 ·by_cases e:j=k
  ·have hi:i≠k:=by omega
   simp only [if_neg hi,if_pos e]
   exact (o.bd i (by omega)).2
  ·have hi:i≠k:=by omega
   simp only [if_neg hi,if_neg e]
   exact o.up i j hij (by omega)
structure AllEvent (W:World) (a0:Option Addr) (n:Nat) (aa:Nat->Option Addr) (ls cs:Nat->Nat) (h:Nat->Nat->E3):Prop where
 row:RowS W a0 n fun i=>.slice (aa i) (ls i) (cs i)
 cop:∀ i,i<n->CopiesE W (aa i) (ls i) (cs i) (h i)
theorem toEventSS_any (a0:Option Addr) (n cap:Nat) (aa:Nat->Option Addr) (ls cs:Nat->Nat) (h:Nat->Nat->E3) (W w:World) (hn:n<=1048576) (hA:AllEvent W a0 n aa ls cs h) (hW:Below W.heap.size W w):
  Calls Tryz.prog 66 #[.slice a0 n cap] w fun e w'=>e=.returned (.slice (some ⟨w.heap.size,0,none⟩) n n)/\(∃ bs,OutEvent w' w.heap.size w'.heap.size n ls bs h)/\Below w.heap.size w w':=by
 have hl':(n:Int)<=1048576:=by omega
 have hmk:=run_make_EventS n hn
 have HA:Hid (AllEvent W a0 n aa ls cs h):=hA
 have HW:Hid (Below W.heap.size W w):=hW
 clear hA hW
 go_enter Tryz.func66,Tryz.ntmps66
 go_wp2_with fail
 clear hmk
 go_loopw [4] (fun i wr=>∃ k:Nat,k<=n/\i=.int .i64 k/\(∃ f,wr.rowIs w.heap.size 75 n f/\Hid (∃ bs,FillEvent wr w.heap.size k f ls bs h))/\Below w.heap.size w wr) (fun i _=>n - (intOf i).toNat)
 case atStart=>exact ⟨0,Nat.zero_le _,rfl,⟨_,madeEventS_row w n,fun _=>0,fun i hi=>by omega,fun i hi=>by omega,fun i hi=>by omega,fun i hi=>by omega,fun i j hij hj=>by omega⟩,(Below.refl _ _).alloc (Nat.le_refl _) _⟩
 case round=>
  obtain ⟨k,hk,rfl,⟨f,hrow,HF⟩,hbw⟩:=hrel
  have hs:=hrow.lt
  by_cases hlt:k<n
  ·have hlt':(k:Int)<(n:Int):=by omega
   have HB:Hid (Below W.heap.size W wr):=HW.out.trans (hbw.mono HW.out.size)
   obtain ⟨b,off,rfl,ck⟩:=(HA.out.row.below HB.out).at hlt
   have HR:Hid (wr.rowIs w.heap.size 75 n f):=hrow
   clear hrow
   go_wp2_with fail
   refine (HA.out.cop k hlt wr HB.out).mono ?_
   rintro e w1 ⟨rfl,hi1,hz1,hb1,hf1⟩
   have hr1:w1.rowIs w.heap.size 75 n f:=HR.out.of_block (hb1.block _ hs)
   have f0:=hr1.frozen k
   have g0:=hr1.cell (i:=k) hlt
   have HR1:Hid (w1.rowIs w.heap.size 75 n f):=hr1
   have HF1:Hid (∃ bs,FillEvent (w1.setCell ⟨w.heap.size,k,none⟩ (.slice (some ⟨wr.heap.size,0,none⟩) (ls k) (ls k))) w.heap.size (k+1) (fun i=>if i=k then .slice (some ⟨wr.heap.size,0,none⟩) (ls k) (ls k) else f i) ls bs h):=by
    obtain ⟨bs,o⟩:=HF.out
    exact ⟨_,o.step hb1 hs hz1 hi1 hf1 _⟩
   clear hr1 hi1 HF HR hf1
   go_wp2_with fail
   exact ⟨⟨k+1,by omega,by go_num,⟨_,HR1.out.set _ _,HF1.out⟩,(hbw.trans (hb1.mono (Nat.le_of_lt hs))).setCell (Nat.le_refl _) _⟩,by simp [intOf];omega⟩
  ·have hkl:k=n:=by omega
   have HO:Hid (∃ bs,OutEvent wr w.heap.size wr.heap.size n ls bs h):=by
    obtain ⟨bs,o⟩:=HF.out
    rw [hkl] at o
    exact ⟨bs,fun i hi=>by rw [hrow.cell hi,o.cel i hi],o.bd,o.row,o.fr,o.up,Nat.le_refl _,hs⟩
   clear hkl HF hrow
   go_wp2
   go_ret
   exact ⟨rfl,HO.out,hbw⟩
theorem eqEventSS_same (D1 h1 D2 h2 n c1 c2:Nat) (ls b1 b2:Nat->Nat) (h:Nat->Nat->E3) (w:World) (hn:n<=1048576) (hl:∀ i,i<n->ls i<=1048576) (o1:OutEvent w D1 h1 n ls b1 h) (o2:OutEvent w D2 h2 n ls b2 h):
  Calls Tryz.prog 71 #[.slice (some ⟨D1,0,none⟩) n c1,.slice (some ⟨D2,0,none⟩) n c2] w fun e w'=>e=.returned (.bool true)/\Below w.heap.size w w':=by
 have hl':(n:Int)<=1048576:=by omega
 have O1:Hid (OutEvent w D1 h1 n ls b1 h):=o1
 have O2:Hid (OutEvent w D2 h2 n ls b2 h):=o2
 have HL:Hid (∀ i,i<n->ls i<=1048576):=hl
 clear o1 o2 hl
 go_enter Tryz.func71,Tryz.ntmps71
 go_wp2_with fail
 go_loopw [5] (fun i wr=>∃ k:Nat,k<=n/\i=.int .i64 k/\Below w.heap.size w wr) (fun i _=>n - (intOf i).toNat)
 case atStart=>exact ⟨0,Nat.zero_le _,rfl,Below.refl _ _⟩
 case round=>
  obtain ⟨k,hk,rfl,hbw⟩:=hrel
  have hs:=hbw.size
  by_cases hlt:k<n
  ·have P1:Hid (OutEvent wr D1 h1 n ls b1 h):=O1.out.below hbw O1.out.le
   have P2:Hid (OutEvent wr D2 h2 n ls b2 h):=O2.out.below hbw O2.out.le
   have ck:=P1.out.cel k hlt
   have dk:=P2.out.cel k hlt
   have hlt':(k:Int)<(n:Int):=by omega
   go_wp2_with fail
   first|(go_region_with (go_at_call 121;refine (eqEventS_same (b1 k) (b2 k) (ls k) (ls k) (ls k) (h k) wr.drew (HL.out k hlt) (zL (P1.out.bd k hlt).2 P1.out.le) (zL (P2.out.bd k hlt).2 P2.out.le) (P1.out.row k hlt) (P2.out.row k hlt)).mono ?_;rintro e w1 ⟨rfl,hq1⟩)) | fail
   all_goals
    go_wp2
    go_roundw
    case rel=>exact ⟨k+1,by omega,by go_num,hbw.drew.trans (hq1.mono hs)⟩
    case measure=>simp [intOf];omega
  ·go_wp2
   go_ret
   exact ⟨rfl,hbw⟩
theorem open_EventSS {H:Type} {enc:TypeId × Value->H} {w:World} {spare:Nat->Bool} {held:Bool} {base:Nat} {a0:Option Addr} {len cap:Nat} {d:DataW H} {p:List MemPlace}
  (h:DataW.Trod enc Tryz.prog w base spare held 41 (.slice a0 len cap) d p):
  len<=maxLen/\∃ aa ls cs,RowS w a0 len (fun i=>.slice (aa i) (ls i) (cs i))/\(∀ i,i<len->ls i<=maxLen)/\((∀ i,i<len->ls i<=1048576)->∃ hh,AllEvent w a0 len aa ls cs hh):=by
 obtain ⟨hm,f,hrow,hf⟩:=open_rows Tryz.underlying41 (el:=155) (by kernel_rfl) h
 refine ⟨hm,?_⟩
 have hpart:∀ i,i<len->∃ x:Option Addr × Nat × Nat,f i=.slice x.1 x.2.1 x.2.2/\x.2.1<=maxLen/\(x.2.1<=1048576->∃ g,CopiesE w x.1 x.2.1 x.2.2 g):=by
  intro i hi
  obtain ⟨m,x,hx⟩:=hf i hi
  have hsl:∃ a l c,f i=.slice a l c:=by
   rcases Go.Deep.open_slice Tryz.underlying155 hx with ⟨hcs,_⟩ | ⟨a,len',cap',m,n,D,Pl,hcs,_⟩
   ·simp at hcs
    exact ⟨_,_,_,hcs⟩
   ·simp at hcs
    exact ⟨_,_,_,hcs⟩
  obtain ⟨a,l,c,e⟩:=hsl
  rw [e] at hx
  obtain ⟨h1,h2⟩:=open_evRow (d:=x.1) (p:=x.2) (a0:=a) (len:=l) (cap:=c) ⟨m,by simpa [Value.cells] using hx⟩
  exact ⟨(a,l,c),e,h1,fun hs=>copiesE_of hs h2⟩
 obtain ⟨g,hg⟩:=Go.Deep.choose_lt (α:=Option Addr × Nat × Nat) hpart
 refine ⟨fun i=>(g i).1,fun i=>(g i).2.1,fun i=>(g i).2.2,?_,fun i hi=>(hg i hi).2.1,fun hs=>?_⟩
 ·rcases hrow with h0 | ⟨b,off,e,hlt,hc⟩
  ·exact .inl h0
  ·exact .inr ⟨b,off,e,hlt,fun i hi=>(hc i hi).trans (by rw [(hg i hi).1])⟩
 ·have hq:∀ i,i<len->∃ q:Nat->E3,CopiesE w (g i).1 (g i).2.1 (g i).2.2 q:=fun i hi=>(hg i hi).2.2 (hs i hi)
  have inh:Inhabited (Nat->E3):=⟨fun _=>⟨0,0,0⟩⟩
  obtain ⟨hh,hhh⟩:=Go.Deep.choose_lt (α:=Nat->E3) hq
  refine ⟨hh,?_,hhh⟩
  rcases hrow with h0 | ⟨b,off,e,hlt,hc⟩
  ·exact .inl h0
  ·exact .inr ⟨b,off,e,hlt,fun i hi=>(hc i hi).trans (by rw [(hg i hi).1])⟩
structure St8 where
 p:Int
 ra:Option Addr
 rc:Nat
 rs:List Int
 oa:Option Addr
 oc:Nat
 os:List Int
 c:Int
def St8.s (x:St8):S4:=⟨x.p,x.rs,x.os,x.c⟩
def lenS (S:Nat->S4) (i:Nat):Nat:=(S i).rs.length+(S i).os.length
structure AllState (W:World) (a0:Option Addr) (n:Nat) (q:Nat->St8):Prop where
 row:n=0\/∃ b off,a0=some ⟨b,off,none⟩/\b<W.heap.size/\∀ i,i<n->W.cell? ⟨b,off+i*4,none⟩=some (.int .i64 (q i).p)/\W.cell? ⟨b,off+i*4+1,none⟩=some (.slice (q i).ra (q i).rs.length (q i).rc)/\W.cell? ⟨b,off+i*4+2,none⟩=some (.slice (q i).oa (q i).os.length (q i).oc)/\W.cell? ⟨b,off+i*4+3,none⟩=some (.int .i64 (q i).c)
 lst:∀ i,i<n->Sl W (q i).ra (q i).rs/\Sl W (q i).oa (q i).os
theorem AllState.below {w w':World} {a0:Option Addr} {n:Nat} {q:Nat->St8} (h:AllState w a0 n q) (hb:Below w.heap.size w w'):AllState w' a0 n q:=by
 refine ⟨?_,fun i hi=>⟨(h.lst i hi).1.below hb,(h.lst i hi).2.below hb⟩⟩
 rcases h.row with h | ⟨b,off,e,hlt,hc⟩
 ·exact .inl h
 ·exact .inr ⟨b, off, e, Nat.lt_of_lt_of_le hlt hb.size, fun i hi => by
   obtain ⟨h0,h1,h2,h3⟩:=hc i hi
   exact ⟨(hb.cell hlt).trans h0,(hb.cell hlt).trans h1,(hb.cell hlt).trans h2,(hb.cell hlt).trans h3⟩⟩
theorem AllState.at {w:World} {a0:Option Addr} {n:Nat} {q:Nat->St8} (h:AllState w a0 n q) {k:Nat} (hk:k<n):∃ b off,a0=some ⟨b,off,none⟩/\w.cell? ⟨b,off+k*4,none⟩=some (.int .i64 (q k).p)/\w.cell? ⟨b,off+k*4+1,none⟩=some (.slice (q k).ra (q k).rs.length (q k).rc)/\w.cell? ⟨b,off+k*4+2,none⟩=some (.slice (q k).oa (q k).os.length (q k).oc)/\w.cell? ⟨b,off+k*4+3,none⟩=some (.int .i64 (q k).c):=by
 rcases h.row with rfl | ⟨b,off,e,-,hc⟩
 ·omega
 ·exact ⟨b,off,e,hc k hk⟩
theorem szStateS_small (a0:Option Addr) (n cap:Nat) (q:Nat->St8) (L:Int) (w:World) (hr:AllState w a0 n q) (h:(n:Int)+(sumL (lenS fun i=>(q i).s) n:Nat)<=L) (hL:L<=1048576):
  Calls Tryz.prog 60 #[.slice a0 n cap,.int .i64 L] w fun e w'=>e=.returned (.int .i64 (L - n - (sumL (lenS fun i=>(q i).s) n:Nat)))/\Below w.heap.size w w':=by
 have hn:(n:Int)<=1048576:=by omega
 have h0:0<=L:=by omega
 have hn0:¬ (L - (n:Int)<0):=by omega
 have HR:Hid (AllState w a0 n q):=hr
 have HS:Hid ((n:Int)+(sumL (lenS fun i=>(q i).s) n:Nat)<=L):=h
 clear hr h
 generalize hls:(lenS fun i=>(q i).s)=ls at *
 have HLS:Hid ((lenS fun i=>(q i).s)=ls):=hls
 clear hls
 go_enter Tryz.func60,Tryz.ntmps60
 go_wp2_with fail
 go_loopw [1,5] (fun x i wr=>∃ k:Nat,k<=n/\i=.int .i64 k/\x=.int .i64 (L - n - (sumL ls k:Nat))/\Below w.heap.size w wr) (fun _ i _=>n - (intOf i).toNat)
 case atStart=>exact ⟨0,Nat.zero_le _,rfl,by simp [sumL],Below.refl _ _⟩
 case round=>
  obtain ⟨k,hk,rfl,rfl,hbw⟩:=hrel
  by_cases hlt:k<n
  ·have hlt':(k:Int)<(n:Int):=by omega
   obtain ⟨b,off,rfl,c0,c1,c2,c3⟩:=(HR.out.below hbw).at hlt
   have hsl:=sumL_at ls hlt
   have hlk:ls k=(q k).rs.length+(q k).os.length:=by rw [<- HLS.out];rfl
   have hS:=HS.out
   have e1:(L - n - (sumL ls k:Nat)) - ((q k).rs.length:Int) - ((q k).os.length:Int)=L - n - (sumL ls (k+1):Nat):=by simp only [sumL];omega
   have HE:Hid ((L - n - (sumL ls k:Nat)) - ((q k).rs.length:Int) - ((q k).os.length:Int)=L - n - (sumL ls (k+1):Nat)):=e1
   have e2:((q k).rs.length:Int)+((q k).os.length:Int)<=L - n - (sumL ls k:Nat):=by omega
   have e3:¬ (L - n - (sumL ls (k+1):Nat)<0):=by omega
   have e4:L - n - (sumL ls k:Nat)<=1048576:=by omega
   clear e1 hS hsl hlk
   generalize hy:L - n - (sumL ls (k+1):Nat)=Y at *
   go_wp2_with fail
   refine (szState_small _ _ _ _ _ _ _ _ _ _ e2 e4).mono ?_
   rintro e w1 ⟨rfl,b1⟩
   rw [HE.out]
   clear e2 e4 c0 c1 c2 c3
   go_wp2
   go_roundw
   case rel=>exact ⟨k+1,by omega,by go_num,by rw [<- hy],hbw.trans (b1.mono hbw.size)⟩
   case measure=>simp [intOf];omega
  ·have hkl:k=n:=by omega
   subst hkl
   go_wp2
   go_ret
   exact ⟨rfl,hbw⟩
theorem szStateS_great (a0:Option Addr) (n cap:Nat) (q:Nat->St8) (L:Int) (w:World) (hr:AllState w a0 n q) (h:L<(n:Int)+(sumL (lenS fun i=>(q i).s) n:Nat)) (h0:0<=L) (hL:L<=1048576) (hm:n<=maxLen) (hl:∀ i,i<n->(q i).rs.length<=maxLen/\(q i).os.length<=maxLen):
  Calls Tryz.prog 60 #[.slice a0 n cap,.int .i64 L] w fun e w'=>e=.returned (.int .i64 (-1))/\Below w.heap.size w w':=by
 have hm':(n:Int)<=9223372036854775807:=by unfold maxLen at hm;omega
 by_cases hn0:L - (n:Int)<0
 ·go_enter Tryz.func60,Tryz.ntmps60
  go_wp2
  go_ret
  exact ⟨rfl,Below.refl _ _⟩
 have hn:(n:Int)<=1048576:=by omega
 have HR:Hid (AllState w a0 n q):=hr
 have HS:Hid (L<(n:Int)+(sumL (lenS fun i=>(q i).s) n:Nat)):=h
 have HL:Hid (∀ i,i<n->(q i).rs.length<=maxLen/\(q i).os.length<=maxLen):=hl
 clear hr h hl hm
 generalize hls:(lenS fun i=>(q i).s)=ls at *
 have HLS:Hid ((lenS fun i=>(q i).s)=ls):=hls
 clear hls
 go_enter Tryz.func60,Tryz.ntmps60
 go_wp2_with fail
 go_loopw [1,5] (fun x i wr=>∃ k:Nat,k<=n/\i=.int .i64 k/\x=.int .i64 (L - n - (sumL ls k:Nat))/\0<=L - n - (sumL ls k:Nat)/\Below w.heap.size w wr) (fun _ i _=>n - (intOf i).toNat)
 case atStart=>exact ⟨0,Nat.zero_le _,rfl,by simp [sumL],by simp only [sumL];omega,Below.refl _ _⟩
 case round=>
  obtain ⟨k,hk,rfl,rfl,hp,hbw⟩:=hrel
  by_cases hlt:k<n
  ·have hlt':(k:Int)<(n:Int):=by omega
   obtain ⟨b,off,rfl,c0,c1,c2,c3⟩:=(HR.out.below hbw).at hlt
   obtain ⟨ml1,ml2⟩:=HL.out k hlt
   have hlk:ls k=(q k).rs.length+(q k).os.length:=by rw [<- HLS.out];rfl
   have e1:(L - n - (sumL ls k:Nat)) - ((q k).rs.length:Int) - ((q k).os.length:Int)=L - n - (sumL ls (k+1):Nat):=by simp only [sumL];omega
   have HE:Hid ((L - n - (sumL ls k:Nat)) - ((q k).rs.length:Int) - ((q k).os.length:Int)=L - n - (sumL ls (k+1):Nat)):=e1
   have e4:L - n - (sumL ls k:Nat)<=1048576:=by omega
   clear e1 hlk
   by_cases hb:((q k).rs.length:Int)+((q k).os.length:Int)<=L - n - (sumL ls k:Nat)
   ·have e3:0<=L - n - (sumL ls (k+1):Nat):=by have:=HE.out;omega
    have e3':¬ (L - n - (sumL ls (k+1):Nat)<0):=by omega
    generalize hy:L - n - (sumL ls (k+1):Nat)=Y at *
    go_wp2_with fail
    refine (szState_small _ _ _ _ _ _ _ _ _ _ hb e4).mono ?_
    rintro e w1 ⟨rfl,b1⟩
    rw [HE.out]
    clear hb e4 hp c0 c1 c2 c3 ml1 ml2
    go_wp2
    go_roundw
    case rel=>exact ⟨k+1,by omega,by go_num,by rw [<- hy],by omega,hbw.trans (b1.mono hbw.size)⟩
    case measure=>simp [intOf];omega
   ·have hb':L - n - (sumL ls k:Nat)<((q k).rs.length:Int)+((q k).os.length:Int):=by omega
    go_wp2_with fail
    refine (szState_great _ _ _ _ _ _ _ _ _ _ hb' e4 hp ml1 ml2).mono ?_
    rintro e w1 ⟨rfl,b1⟩
    clear hb hb' e4 hp HE c0 c1 c2 c3 ml1 ml2
    go_wp2
    go_ret
    exact ⟨rfl,hbw.trans (b1.mono hbw.size)⟩
  ·have hkl:k=n:=by omega
   subst hkl
   have:=HS.out
   omega
theorem ownsRow_blk {w w':World} {B size n:Nat} {e:TypeId} {v:Value} {xs:List Value} (h:w.ownsRow B e size v n xs) (hb:∀ k,v.ownBlock=some k->w'.heap[k]? = w.heap[k]?):w'.ownsRow B e size v n xs:=by
 obtain ⟨h0,h⟩:=h
 refine ⟨h0,?_⟩
 rcases h with h | ⟨g,cap,cur,rfl,h1,h2,h3⟩
 ·exact .inl h
 ·exact .inr ⟨g,cap,cur,rfl,h1,(hb g rfl).trans h2,h3⟩
theorem OwnI.blk {w w':World} {B:Nat} {v:Value} {xs:List Int} (h:OwnI w B v xs) (hb:∀ k,v.ownBlock=some k->w'.heap[k]? = w.heap[k]?):OwnI w' B v xs:=ownsRow_blk h hb
theorem StOwn.blk {w w':World} {B:Nat} {v:Value} {p code:Int} {rs os:List Int} (h:StOwn w B v p rs os code) (hb:∀ k,hasBlock v k->w'.heap[k]? = w.heap[k]?):StOwn w' B v p rs os code:=by
 obtain ⟨vr,vo,rfl,h1,h2,h3⟩:=h
 exact ⟨vr,vo,rfl,h1.blk fun k hk=>hb k ((hasBlock_iff _ _ _ _ _).2 (.inl hk)),h2.blk fun k hk=>hb k ((hasBlock_iff _ _ _ _ _).2 (.inr hk)),h3⟩
def Cel4 (w:World) (D j:Nat) (S:S4) (v:Value):Prop:=∃ ra rc oa oc,v=stV S.p ra S.rs.length rc oa S.os.length oc S.c/\w.cell? ⟨D,j,none⟩=some (.int .i64 S.p)/\w.cell? ⟨D,j+1,none⟩=some (.slice ra S.rs.length rc)/\w.cell? ⟨D,j+2,none⟩=some (.slice oa S.os.length oc)/\w.cell? ⟨D,j+3,none⟩=some (.int .i64 S.c)
structure OutState (w:World) (D hi n:Nat) (S:Nat->S4) (vs:Nat->Value):Prop where
 cel:∀ i,i<n->Cel4 w D (i*4) (S i) (vs i)
 own:∀ i,i<n->StOwn w (D+1) (vs i) (S i).p (S i).rs (S i).os (S i).c
 bd:∀ i,i<n->∀ k,hasBlock (vs i) k->k<hi
 apart:∀ i j,i<j->j<n->∀ k,hasBlock (vs i) k->¬ hasBlock (vs j) k
 fr:∀ j,w.frozen? ⟨D,j,none⟩=false
 le:hi<=w.heap.size
 lt:D<hi
theorem Cel4.blk {w w':World} {D j:Nat} {S:S4} {v:Value} (h:Cel4 w D j S v) (hb:w'.heap[D]? = w.heap[D]?):Cel4 w' D j S v:=by
 obtain ⟨ra,rc,oa,oc,e,h0,h1,h2,h3⟩:=h
 exact ⟨ra,rc,oa,oc,e,(zH hb).trans h0,(zH hb).trans h1,(zH hb).trans h2,(zH hb).trans h3⟩
theorem OutState.below {w w':World} {D hi n B:Nat} {S:Nat->S4} {vs:Nat->Value} (o:OutState w D hi n S vs) (hb:Below B w w') (hB:hi<=B):OutState w' D hi n S vs:=
 have hD:w'.heap[D]? = w.heap[D]?:=hb.block D (zL o.lt hB)
 ⟨fun i hi'=>(o.cel i hi').blk hD,fun i hi'=>(o.own i hi').blk fun k hk=>hb.block k (zL (o.bd i hi' k hk) hB),o.bd,o.apart,fun j=>(zI hD).trans (o.fr j),zP o.le hb.size,o.lt⟩
theorem OutState.keep {w w':World} {D hi n:Nat} {S:Nat->S4} {vs:Nat->Value} (o:OutState w D hi n S vs) (hs:w.heap.size<=w'.heap.size) (hb:∀ k,D<=k->k<hi->w'.heap[k]? = w.heap[k]?):OutState w' D hi n S vs:=
 have hD:w'.heap[D]? = w.heap[D]?:=hb D (Nat.le_refl _) o.lt
 ⟨fun i hi'=>(o.cel i hi').blk hD,fun i hi'=>(o.own i hi').blk fun k hk=>hb k (by have:=((o.own i hi').lt hk).1;omega) (o.bd i hi' k hk),o.bd,o.apart,fun j=>(zI hD).trans (o.fr j),zP o.le hs,o.lt⟩
theorem infoSta:(Tryz.prog.info? 80).map (fun i=>(i.zero,i.size,i.bytes))=some (some (stV 0 none 0 0 none 0 0 0),4,64):=by kernel_rfl
theorem run_make_sta (n:Nat) (hn:n<=1048576) (w:World):
  (Instr.makeSlice 25 (.int .i64 (n:Int)) (.int .i64 (n:Int))).run Tryz.prog w=.ok (.slice (some ⟨w.heap.size,0,none⟩) n n) (w.alloc (.cells (madeCells (stV 0 none 0 0 none 0 0 0).cells (n*4)) 80)):=by
 have hinfo:=infoSta
 cases hi:Tryz.prog.info? 80 with
 | none=>rw [hi] at hinfo;cases hinfo
 | some i=>
  rw [hi] at hinfo
  simp only [Option.map_some,Option.some.injEq,Prod.mk.injEq] at hinfo
  obtain ⟨hz,hs,hb⟩:=hinfo
  have h:=run_make (P:=Tryz.prog) w 25 80 i _ Tryz.underlying25 hi hz .i64 .i64 (n:Int) (n:Int) (by omega) (Int.le_refl _) (by rw [hb];omega) (by omega)
  rw [hs] at h
  simpa using h
theorem madeSta_row (w:World) (n:Nat):∃ f,(w.alloc (.cells (madeCells (stV 0 none 0 0 none 0 0 0).cells (n*4)) 80)).rowIs w.heap.size 80 (n*4) f:=by
 refine ⟨fun i=>(stV 0 none 0 0 none 0 0 0).cells[i % 4]!,_,blk_alloc_new _ _,size_madeCells _ _,fun i hi=>?_⟩
 simp only [madeCells]
 rw [Array.getElem?_map,Array.getElem?_range,if_pos hi]
 rfl
structure FillS (w:World) (D k:Nat) (f:Nat->Value) (S:Nat->S4) (vs:Nat->Value):Prop where
 cel:∀ i,i<k->∃ ra rc oa oc,vs i=stV (S i).p ra (S i).rs.length rc oa (S i).os.length oc (S i).c/\f (i*4)=.int .i64 (S i).p/\f (i*4+1)=.slice ra (S i).rs.length rc/\f (i*4+2)=.slice oa (S i).os.length oc/\f (i*4+3)=.int .i64 (S i).c
 own:∀ i,i<k->StOwn w (D+1) (vs i) (S i).p (S i).rs (S i).os (S i).c
 apart:∀ i j,i<j->j<k->∀ b,hasBlock (vs i) b->¬ hasBlock (vs j) b
theorem FillS.step {w w1:World} {D k:Nat} {f:Nat->Value} {S:Nat->S4} {vs:Nat->Value} (o:FillS w D k f S vs) (hb:Below w.heap.size w w1) (hD:D<w.heap.size) {ra oa:Option Addr} {rc oc:Nat} (hv:StOwn w1 w.heap.size (stV (S k).p ra (S k).rs.length rc oa (S k).os.length oc (S k).c) (S k).p (S k).rs (S k).os (S k).c) (a b c d:Value):
  FillS ((((w1.setCell ⟨D,k*4,none⟩ a).setCell ⟨D,k*4+1,none⟩ b).setCell ⟨D,k*4+2,none⟩ c).setCell ⟨D,k*4+3,none⟩ d) D (k+1)
   (fun i=>if i=k*4+3 then .int .i64 (S k).c else if i=k*4+2 then .slice oa (S k).os.length oc else if i=k*4+1 then .slice ra (S k).rs.length rc else if i=k*4 then .int .i64 (S k).p else f i) S
   (fun i=>if i=k then stV (S k).p ra (S k).rs.length rc oa (S k).os.length oc (S k).c else vs i):=by
 have hs:∀ g,g≠D->((((w1.setCell ⟨D,k*4,none⟩ a).setCell ⟨D,k*4+1,none⟩ b).setCell ⟨D,k*4+2,none⟩ c).setCell ⟨D,k*4+3,none⟩ d).heap[g]? = w1.heap[g]?:=fun g hne=>(zO _ _ _ _ hne).trans ((zO _ _ _ _ hne).trans ((zO _ _ _ _ hne).trans (zO _ _ _ _ hne)))
 refine ⟨fun i hi=>?_,fun i hi=>?_,fun i j hij hj g h1=>?_⟩
 ·by_cases e:i=k
  ·subst e
   exact ⟨ra,rc,oa,oc,by simp,by simp,by simp,by simp,by simp⟩
  ·obtain ⟨ra',rc',oa',oc',e0,e1,e2,e3,e4⟩:=o.cel i (by omega)
   refine ⟨ra',rc',oa',oc',by simp only [if_neg e];exact e0,?_,?_,?_,?_⟩
   ·rw [if_neg (by omega),if_neg (by omega),if_neg (by omega),if_neg (by omega)];exact e1
   ·rw [if_neg (by omega),if_neg (by omega),if_neg (by omega),if_neg (by omega)];exact e2
   ·rw [if_neg (by omega),if_neg (by omega),if_neg (by omega),if_neg (by omega)];exact e3
   ·rw [if_neg (by omega),if_neg (by omega),if_neg (by omega),if_neg (by omega)];exact e4
 ·by_cases e:i=k
  ·subst e
   simp only [if_true]
   refine StOwn.blk (hv.mono (by omega)) fun g hg=>hs g ?_
   have:=(hv.lt hg).1
   omega
  ·simp only [if_neg e]
   have ho:=o.own i (by omega)
   refine (ho.below hb).blk fun g hg=>hs g ?_
   have:=(ho.lt hg).1
   omega
 ·by_cases e:j=k
  ·have hi:i≠k:=by omega
   simp only [if_neg hi] at h1
   simp only [if_pos e]
   intro h2
   have a1:=((o.own i (by omega)).lt h1).2
   have a2:=(hv.lt h2).1
   omega
  ·have hi:i≠k:=by omega
   simp only [if_neg hi] at h1
   simp only [if_neg e]
   exact o.apart i j hij (by omega) g h1
theorem toStateS_any (a0:Option Addr) (n cap:Nat) (q:Nat->St8) (W w:World) (hn:n<=1048576) (hl:∀ i,i<n->(q i).rs.length<=1048576/\(q i).os.length<=1048576) (hA:AllState W a0 n q) (hW:Below W.heap.size W w):
  Calls Tryz.prog 64 #[.slice a0 n cap] w fun e w'=>e=.returned (.slice (some ⟨w.heap.size,0,none⟩) n n)/\(∃ vs,OutState w' w.heap.size w'.heap.size n (fun i=>(q i).s) vs)/\Below w.heap.size w w':=by
 have hl':(n:Int)<=1048576:=by omega
 have hmk:=run_make_sta n hn
 have HA:Hid (AllState W a0 n q):=hA
 have HW:Hid (Below W.heap.size W w):=hW
 have HL:Hid (∀ i,i<n->(q i).rs.length<=1048576/\(q i).os.length<=1048576):=hl
 clear hA hW hl
 go_enter Tryz.func64,Tryz.ntmps64
 go_wp2_with fail
 clear hmk
 go_loopw [4] (fun i wr=>∃ k:Nat,k<=n/\i=.int .i64 k/\(∃ f,wr.rowIs w.heap.size 80 (n*4) f/\Hid (∃ vs,FillS wr w.heap.size k f (fun i=>(q i).s) vs))/\Below w.heap.size w wr) (fun i _=>n - (intOf i).toNat)
 case atStart=>
  obtain ⟨f,hf⟩:=madeSta_row w n
  exact ⟨0,Nat.zero_le _,rfl,⟨f,hf,fun _=>.int .i64 0,fun i hi=>by omega,fun i hi=>by omega,fun i j hij hj=>by omega⟩,(Below.refl _ _).alloc (Nat.le_refl _) _⟩
 case round=>
  obtain ⟨k,hk,rfl,⟨f,hrow,HF⟩,hbw⟩:=hrel
  have hs:=hrow.lt
  by_cases hlt:k<n
  ·have hlt':(k:Int)<(n:Int):=by omega
   have HB:Hid (AllState wr a0 n q):=HA.out.below (HW.out.trans (hbw.mono HW.out.size))
   obtain ⟨b,off,rfl,c0,c1,c2,c3⟩:=HB.out.at hlt
   have HR:Hid (wr.rowIs w.heap.size 80 (n*4) f):=hrow
   clear hrow
   go_wp2_with fail
   refine (toState_any _ _ _ _ _ _ (q k).rs (q k).os _ (HL.out k hlt).1 (HL.out k hlt).2 (HB.out.lst k hlt).1 (HB.out.lst k hlt).2).mono ?_
   rintro e w1 ⟨v1,rfl,o1,hb1⟩
   obtain ⟨ra1,rc1,oa1,oc1,rfl,-,-⟩:=o1.read
   have hr1:w1.rowIs w.heap.size 80 (n*4) f:=HR.out.of_block (hb1.block _ hs)
   have f0:=hr1.frozen
   have g0:=hr1.cell (i:=k*4) (by omega)
   have g1:=hr1.cell (i:=k*4+1) (by omega)
   have g2:=hr1.cell (i:=k*4+2) (by omega)
   have g3:=hr1.cell (i:=k*4+3) (by omega)
   have HR1:Hid (w1.rowIs w.heap.size 80 (n*4) f):=hr1
   have HF1:Hid (∀ a b c d:Value,∃ vs,FillS ((((w1.setCell ⟨w.heap.size,k*4,none⟩ a).setCell ⟨w.heap.size,k*4+1,none⟩ b).setCell ⟨w.heap.size,k*4+2,none⟩ c).setCell ⟨w.heap.size,k*4+3,none⟩ d) w.heap.size (k+1) (fun i=>if i=k*4+3 then .int .i64 (q k).c else if i=k*4+2 then .slice oa1 (q k).os.length oc1 else if i=k*4+1 then .slice ra1 (q k).rs.length rc1 else if i=k*4 then .int .i64 (q k).p else f i) (fun i=>(q i).s) vs):=by
    intro a b c d
    obtain ⟨vs,o⟩:=HF.out
    exact ⟨_,o.step hb1 hs (S:=fun i=>(q i).s) (k:=k) o1 a b c d⟩
   clear hr1 o1 HF HR HB c0 c1 c2 c3
   go_wp2_with fail
   exact ⟨⟨k+1,by omega,by go_num,⟨_,(((HR1.out.set _ _).set _ _).set _ _).set _ _,HF1.out _ _ _ _⟩,((((hbw.trans (hb1.mono (Nat.le_of_lt hs))).setCell (Nat.le_refl _) _).setCell (Nat.le_refl _) _).setCell (Nat.le_refl _) _).setCell (Nat.le_refl _) _⟩,by simp [intOf];omega⟩
  ·have hkl:k=n:=by omega
   have HO:Hid (∃ vs,OutState wr w.heap.size wr.heap.size n (fun i=>(q i).s) vs):=by
    obtain ⟨vs,o⟩:=HF.out
    rw [hkl] at o
    refine ⟨vs,fun i hi=>?_,o.own,fun i hi b hb=>((o.own i hi).lt hb).2,o.apart,fun j=>hrow.frozen j,Nat.le_refl _,hs⟩
    obtain ⟨ra,rc,oa,oc,e0,e1,e2,e3,e4⟩:=o.cel i hi
    exact ⟨ra,rc,oa,oc,e0,by rw [hrow.cell (by omega),e1],by rw [hrow.cell (by omega),e2],by rw [hrow.cell (by omega),e3],by rw [hrow.cell (by omega),e4]⟩
   clear hkl HF hrow
   go_wp2
   go_ret
   exact ⟨rfl,HO.out,hbw⟩
def hitB (eh:Nat->E3) (kd pr:Int) (i:Nat):Bool:=((eh i).k == kd) && ((eh i).q == pr)
def plN (eh:Nat->E3) (kd pr:Int):Nat->List Nat
 | 0=>[]
 | n+1=>if hitB eh kd pr n=true then plN eh kd pr n ++ [n] else plN eh kd pr n
def valL (eh:Nat->E3) (kd pr:Int) (n:Nat):List Int:=(plN eh kd pr n).map fun i=>(eh i).v
def plI (eh:Nat->E3) (kd pr:Int) (n:Nat):List Int:=(plN eh kd pr n).map fun i:Nat=>(i:Int)
theorem plN_le (eh:Nat->E3) (kd pr:Int):∀ n,(plN eh kd pr n).length<=n
 | 0=>Nat.le_refl _
 | n+1=>by
  unfold plN
  have:=plN_le eh kd pr n
  split
  ·simp;omega
  ·omega
theorem valL_le (eh:Nat->E3) (kd pr:Int) (n:Nat):(valL eh kd pr n).length<=n:=by
 unfold valL
 rw [List.length_map]
 exact plN_le eh kd pr n
theorem plI_le (eh:Nat->E3) (kd pr:Int) (n:Nat):(plI eh kd pr n).length<=n:=by
 unfold plI
 rw [List.length_map]
 exact plN_le eh kd pr n
theorem valL_hit {eh:Nat->E3} {kd pr:Int} {n:Nat} (hh:hitB eh kd pr n=true):valL eh kd pr (n+1)=valL eh kd pr n ++ [(eh n).v]:=by
 unfold valL
 rw [plN,if_pos hh,List.map_append]
 rfl
theorem valL_not {eh:Nat->E3} {kd pr:Int} {n:Nat} (hh:hitB eh kd pr n=false):valL eh kd pr (n+1)=valL eh kd pr n:=by
 unfold valL
 rw [plN,if_neg (by rw [hh];decide)]
theorem plI_hit {eh:Nat->E3} {kd pr:Int} {n:Nat} (hh:hitB eh kd pr n=true):plI eh kd pr (n+1)=plI eh kd pr n ++ [(n:Int)]:=by
 unfold plI
 rw [plN,if_pos hh,List.map_append]
 rfl
theorem plI_not {eh:Nat->E3} {kd pr:Int} {n:Nat} (hh:hitB eh kd pr n=false):plI eh kd pr (n+1)=plI eh kd pr n:=by
 unfold plI
 rw [plN,if_neg (by rw [hh];decide)]
def cnt (eh:Nat->E3) (kd pr:Int) (n:Nat):Nat:=(plN eh kd pr n).length
theorem cnt_zero (eh:Nat->E3) (kd pr:Int):cnt eh kd pr 0=0:=rfl
theorem cnt_hit {eh:Nat->E3} {kd pr:Int} {n:Nat} (h:hitB eh kd pr n=true):cnt eh kd pr (n+1)=cnt eh kd pr n+1:=by
 unfold cnt
 rw [plN,if_pos h,List.length_append]
 rfl
theorem cnt_not {eh:Nat->E3} {kd pr:Int} {n:Nat} (h:hitB eh kd pr n=false):cnt eh kd pr (n+1)=cnt eh kd pr n:=by
 unfold cnt
 rw [plN,if_neg (by rw [h];decide)]
theorem cnt_le (eh:Nat->E3) (kd pr:Int) (n:Nat):cnt eh kd pr n<=n:=plN_le eh kd pr n
theorem cnt_mono (eh:Nat->E3) (kd pr:Int) {a b:Nat} (h:a<=b):cnt eh kd pr a<=cnt eh kd pr b:=by
 induction b with
 | zero=>
  have:a=0:=by omega
  subst this
  exact Nat.le_refl _
 | succ b ih=>
  by_cases e:a=b+1
  ·subst e
   exact Nat.le_refl _
  ·have:=ih (by omega)
   rcases zK (hitB eh kd pr b) with t | t
   ·rw [cnt_hit t]
    omega
   ·rw [cnt_not t]
    exact this
theorem hitB_iff {eh:Nat->E3} {kd pr:Int} {i:Nat}:hitB eh kd pr i=true ↔ (eh i).k=kd/\(eh i).q=pr:=by
 simp [hitB]
structure Hs where
 n:Nat
 l:Nat->Nat
 e:Nat->Nat->E3
def Hs.Peers (x:Hs):Prop:=∀ p,p<x.n->∀ i,i<x.l p->0<=(x.e p i).q/\(x.e p i).q<(x.n:Int)
def Hs.Can (x:Hs) (d:Nat->Nat) (p:Nat):Prop:=
 d p<x.l p/\((x.e p (d p)).k=3->cnt (x.e p) 3 (x.e p (d p)).q (d p)<cnt (x.e (x.e p (d p)).q.toNat) 2 p (d (x.e p (d p)).q.toNat))
def up (d:Nat->Nat) (p:Nat):Nat->Nat:=fun i=>if i=p then d i+1 else d i
theorem up_same (d:Nat->Nat) (p:Nat):up d p p=d p+1:=by simp [up]
theorem up_other {d:Nat->Nat} {p i:Nat} (h:i≠p):up d p i=d i:=by simp [up,h]
inductive Hs.Put (x:Hs):(Nat->Nat)->Prop
 | start:x.Put (fun _=>0)
 | next {d:Nat->Nat} {p:Nat}:x.Put d->p<x.n->x.Can d p->x.Put (up d p)
def Hs.All (x:Hs) (d:Nat->Nat):Prop:=∀ p,p<x.n->d p=x.l p
def Hs.Row (x:Hs):Prop:=∃ d,x.Put d/\x.All d
theorem Hs.Put.le {x:Hs} {d:Nat->Nat} (h:x.Put d):∀ p,d p<=x.l p:=by
 induction h with
 | start=>exact fun _=>Nat.zero_le _
 | next _ _ hc ih=>
  rename_i d p _ _
  intro i
  by_cases e:i=p
  ·subst e
   rw [up_same]
   exact hc.1
  ·rw [up_other e]
   exact ih i
theorem Hs.Put.stuck {x:Hs} {d s:Nat->Nat} (h:x.Put d) (hp:x.Peers) (hs:∀ p,p<x.n->¬ x.Can s p):∀ p,p<x.n->d p<=s p:=by
 induction h with
 | start=>exact fun _ _=>Nat.zero_le _
 | next _ hpn hc ih=>
  rename_i d p _
  intro i hi
  by_cases e:i=p
  ·subst e
   rw [up_same]
   have h1:=ih i hi
   by_cases e:d i=s i
   ·exfalso
    refine hs i hi ⟨by rw [<- e];exact hc.1,fun hk=>?_⟩
    rw [<- e] at hk ⊢
    have h2:=hc.2 hk
    have hq:=hp i hi (d i) hc.1
    exact zL h2 (cnt_mono _ _ _ (ih _ (by omega)))
   ·omega
  ·rw [up_other e]
   exact ih i hi
theorem Hs.row_iff {x:Hs} {s:Nat->Nat} (h:x.Put s) (hp:x.Peers) (hs:∀ p,p<x.n->¬ x.Can s p):x.Row ↔ x.All s:=by
 refine ⟨fun ⟨d,hd,ha⟩ p hpn=>?_,fun ha=>⟨s,h,ha⟩⟩
 have h1:=hd.stuck hp hs p hpn
 have h2:=h.le p
 have h3:=ha p hpn
 omega
def Hs.opn (x:Hs) (d:Nat->Nat) (a b:Nat):Int:=(cnt (x.e a) 2 b (d a):Int) - (cnt (x.e b) 3 a (d b):Int)
theorem Hs.opn_start (x:Hs) (a b:Nat):x.opn (fun _=>0) a b=0:=by simp [Hs.opn,cnt_zero]
theorem Hs.can_iff {x:Hs} {d:Nat->Nat} {p:Nat} (hp:x.Peers) (hpn:p<x.n):x.Can d p ↔ d p<x.l p/\((x.e p (d p)).k=3->0<x.opn d (x.e p (d p)).q.toNat p):=by
 unfold Hs.Can Hs.opn
 refine and_congr_right fun hl=>?_
 have hq:=hp p hpn _ hl
 rw [show (((x.e p (d p)).q.toNat:Nat):Int)=(x.e p (d p)).q by omega]
 refine ⟨fun h hk=>?_,fun h hk=>?_⟩
 ·have:=h hk
  omega
 ·have:=h hk
  omega
theorem Hs.opn_up {x:Hs} {d:Nat->Nat} {p a b:Nat}:x.opn (up d p) a b=x.opn d a b+(if a=p/\(x.e p (d p)).k=2/\(x.e p (d p)).q=(b:Int) then 1 else 0) - (if b=p/\(x.e p (d p)).k=3/\(x.e p (d p)).q=(a:Int) then 1 else 0):=by
 have hA:(cnt (x.e a) 2 b (up d p a):Int)=cnt (x.e a) 2 b (d a)+(if a=p/\(x.e p (d p)).k=2/\(x.e p (d p)).q=(b:Int) then 1 else 0):=by
  by_cases e:a=p
  ·subst e
   rw [up_same]
   rcases zK (hitB (x.e a) 2 b (d a)) with t | t
   ·rw [cnt_hit t,if_pos ⟨rfl,hitB_iff.1 t⟩]
    omega
   ·rw [cnt_not t,if_neg (fun h=>by rw [hitB_iff.2 h.2] at t;cases t)]
    omega
  ·rw [up_other e,if_neg (fun h=>e h.1)]
   omega
 have hB:(cnt (x.e b) 3 a (up d p b):Int)=cnt (x.e b) 3 a (d b)+(if b=p/\(x.e p (d p)).k=3/\(x.e p (d p)).q=(a:Int) then 1 else 0):=by
  by_cases e:b=p
  ·subst e
   rw [up_same]
   rcases zK (hitB (x.e b) 3 a (d b)) with t | t
   ·rw [cnt_hit t,if_pos ⟨rfl,hitB_iff.1 t⟩]
    omega
   ·rw [cnt_not t,if_neg (fun h=>by rw [hitB_iff.2 h.2] at t;cases t)]
    omega
  ·rw [up_other e,if_neg (fun h=>e h.1)]
   omega
 unfold Hs.opn
 rw [hA,hB]
 omega
def numL (h:Nat->I2):Nat->List Int
 | 0=>[]
 | n+1=>if (h n).m=true then numL h n else numL h n ++ [(h n).v]
theorem numL_le (h:Nat->I2):∀ n,(numL h n).length<=n
 | 0=>Nat.le_refl _
 | n+1=>by
  unfold numL
  have:=numL_le h n
  split
  ·omega
  ·simp;omega
theorem numL_hit {h:Nat->I2} {n:Nat} (hh:(h n).m=false):numL h (n+1)=numL h n ++ [(h n).v]:=by
 rw [numL,if_neg (by rw [hh];decide)]
theorem numL_not {h:Nat->I2} {n:Nat} (hh:(h n).m=true):numL h (n+1)=numL h n:=by
 rw [numL,if_pos hh]
open Go.Sort
theorem list_of_zi {xs ys:List Int} (hl:xs.length=ys.length) (h:∀ j,j<xs.length->zi xs j=zi ys j):xs=ys:=by
 refine List.ext_getElem hl fun i h1 h2=>?_
 have:=h i h1
 simpa [zi,List.getD_eq_getElem?_getD,List.getElem?_eq_getElem h1,List.getElem?_eq_getElem h2] using this
theorem equal_any (a0 a1:Option Addr) (c0 c1:Nat) (xs ys:List Int) (w:World) (hx:xs.length<=1048576) (hy:ys.length<=1048576) (h0:Sl w a0 xs) (h1:Sl w a1 ys):
  Calls Tryz.prog 152 #[.slice a0 xs.length c0,.slice a1 ys.length c1] w fun e w'=>e=.returned (.bool (xs == ys))/\Below w.heap.size w w':=by
 have hl':(xs.length:Int)<=1048576:=by omega
 have hl2:(ys.length:Int)<=1048576:=by omega
 by_cases hl:xs.length=ys.length
 ·have H0:Hid (Sl w a0 xs):=h0
  have H1:Hid (Sl w a1 ys):=h1
  have HL:Hid (xs.length=ys.length):=hl
  rw [<- hl]
  clear h0 h1 hl hy hl2
  go_enter Tryz.func152,Tryz.ntmps152
  go_wp2_with fail
  go_loopw [13] (fun i wr=>∃ k:Nat,k<=xs.length/\i=.int .i64 k/\Below w.heap.size w wr/\Hid (∀ j,j<k->zi xs j=zi ys j)) (fun i _=>xs.length - (intOf i).toNat)
  case atStart=>exact ⟨0,Nat.zero_le _,rfl,Below.refl _ _,fun j hj=>by omega⟩
  case round=>
   obtain ⟨k,hk,rfl,hbw,HZ⟩:=hrel
   by_cases hlt:k<xs.length
   ·have hlt2:k<ys.length:=by have:=HL.out;omega
    obtain ⟨b,off,rfl,hbl,ck⟩:=(H0.out.below hbw).at hlt
    obtain ⟨b',off',rfl,hbl',ck'⟩:=(H1.out.below hbw).at hlt2
    have hlt':(k:Int)<(xs.length:Int):=by omega
    clear hlt2
    rcases zK (zi xs k != zi ys k) with t | t
    ·have HN:Hid ((xs == ys)=false):=by
      show (xs == ys)=false
      rw [beq_eq_false_iff_ne]
      intro e
      rw [e] at t
      simp at t
     go_wp2_with fail
     go_quiet (fail)
     go_wp2
     go_ret
     rw [HN.out]
     exact ⟨rfl,yC hbw _⟩
    ·have HZ':Hid (∀ j,j<k+1->zi xs j=zi ys j):=fun j hj=>by
      by_cases e:j=k
      ·subst e
       simpa using t
      ·exact HZ.out j (by omega)
     clear HZ
     go_wp2_with fail
     go_quiet (fail)
     go_wp2
     go_roundw
     case rel=>exact ⟨k+1,by omega,by go_num,yC hbw _,HZ'.out⟩
     case measure=>simp [intOf];omega
   ·have HE:Hid ((xs == ys)=true):=by
     show (xs == ys)=true
     rw [beq_iff_eq]
     exact list_of_zi HL.out fun j hj=>HZ.out j (by omega)
    clear HZ
    go_wp2
    go_ret
    rw [HE.out]
    exact ⟨rfl,hbw⟩
 ·have hne:((xs.length:Int) != (ys.length:Int))=true:=by simp;omega
  have HN:Hid ((xs == ys)=false):=by
   show (xs == ys)=false
   rw [beq_eq_false_iff_ne]
   intro e
   exact hl (by rw [e])
  clear h0 h1 hl
  go_enter Tryz.func152,Tryz.ntmps152
  go_wp2
  go_ret
  rw [HN.out]
  exact ⟨rfl,Below.refl _ _⟩
def eqS (S T:S4):Bool:=(S.p == T.p) && (S.c == T.c) && (S.rs == T.rs) && (S.os == T.os)
theorem eqS_iff {S T:S4}:eqS S T=true ↔ S=T:=by
 obtain ⟨a,b,c,d⟩:=S
 obtain ⟨a',b',c',d'⟩:=T
 simp only [eqS,Bool.and_eq_true,beq_iff_eq,S4.mk.injEq]
 exact ⟨fun ⟨⟨⟨h1,h2⟩,h3⟩,h4⟩=>⟨h1,h3,h4,h2⟩,fun ⟨h1,h3,h4,h2⟩=>⟨⟨⟨h1,h2⟩,h3⟩,h4⟩⟩
theorem implSameState_any (S T:S4) (ra oa ra' oa':Option Addr) (rc oc rc' oc':Nat) (w:World) (l1:S.rs.length<=1048576) (l2:S.os.length<=1048576) (l3:T.rs.length<=1048576) (l4:T.os.length<=1048576) (h1:Sl w ra S.rs) (h2:Sl w oa S.os) (h3:Sl w ra' T.rs) (h4:Sl w oa' T.os):
  Calls Tryz.prog 150 #[stV S.p ra S.rs.length rc oa S.os.length oc S.c,stV T.p ra' T.rs.length rc' oa' T.os.length oc' T.c] w fun e w'=>e=.returned (.bool (eqS S T))/\Below w.heap.size w w':=by
 have H1:Hid (Sl w ra S.rs/\Sl w ra' T.rs):=⟨h1,h3⟩
 have H2:Hid (Sl w oa S.os/\Sl w oa' T.os):=⟨h2,h4⟩
 clear h1 h2 h3 h4
 rcases zK (S.p == T.p) with t1 | t1
 case inr=>
  have HE:Hid (eqS S T=false):=by
   show eqS S T=false
   simp [eqS,t1]
  go_enter Tryz.func150,Tryz.ntmps150
  go_wp2
  go_ret
  rw [HE.out]
  exact ⟨rfl,by go_grown⟩
 rcases zK (S.c == T.c) with t2 | t2
 case inr=>
  have HE:Hid (eqS S T=false):=by
   show eqS S T=false
   simp [eqS,t2]
  go_enter Tryz.func150,Tryz.ntmps150
  go_wp2
  go_ret
  rw [HE.out]
  exact ⟨rfl,by go_grown⟩
 rcases zK (S.rs == T.rs) with t3 | t3
 case inr=>
  have HE:Hid (eqS S T=false):=by
   show eqS S T=false
   simp [eqS,t3]
  have T3:Hid ((S.rs == T.rs)=false):=t3
  clear t3
  go_enter Tryz.func150,Tryz.ntmps150
  go_wp2_with fail
  refine (equal_any _ _ _ _ _ _ _ l1 l3 (H1.out.1.below (by go_grown)) (H1.out.2.below (by go_grown))).mono ?_
  rintro e w1 ⟨rfl,b1⟩
  rw [T3.out]
  have B1:Hid (Below w.heap.size w w1):=below_up (by go_grown) b1 (by simp;omega)
  clear b1
  go_wp2
  go_ret
  rw [HE.out]
  exact ⟨rfl,B1.out⟩
 have HE:Hid (eqS S T=(S.os == T.os)):=by
  show eqS S T=(S.os == T.os)
  simp [eqS,t1,t2,t3]
 have T3:Hid ((S.rs == T.rs)=true):=t3
 clear t3
 go_enter Tryz.func150,Tryz.ntmps150
 go_wp2_with fail
 refine (equal_any _ _ _ _ _ _ _ l1 l3 (H1.out.1.below (by go_grown)) (H1.out.2.below (by go_grown))).mono ?_
 rintro e w1 ⟨rfl,b1⟩
 rw [T3.out]
 have B1:Hid (Below w.heap.size w w1):=below_up (by go_grown) b1 (by simp;omega)
 obtain ⟨hc1,hf1⟩:=bcell b1
 clear b1
 go_wp2_with fail
 refine (equal_any _ _ _ _ _ _ _ l2 l4 (H2.out.1.below B1.out) (H2.out.2.below B1.out)).mono ?_
 rintro e w2 ⟨rfl,b2⟩
 have B2:Hid (Below w.heap.size w w2):=B1.out.trans (b2.mono B1.out.size)
 clear b2 hc1 hf1
 go_wp2
 go_ret
 rw [HE.out]
 exact ⟨rfl,B2.out⟩
noncomputable def pB (p:Prop):Bool:=@decide p (Classical.propDecidable _)
theorem pB_true {p:Prop} (h:p):pB p=true:=by simp [pB,h]
theorem pB_false {p:Prop} (h:¬ p):pB p=false:=by simp [pB,h]
theorem specSameState_any (S T:S4) (ra oa ra' oa':Option Addr) (rc oc rc' oc':Nat) (w:World) (l1:S.rs.length<=1048576) (l2:S.os.length<=1048576) (_l3:T.rs.length<=1048576) (_l4:T.os.length<=1048576) (h1:Sl w ra S.rs) (h2:Sl w oa S.os) (h3:Sl w ra' T.rs) (h4:Sl w oa' T.os):
  Calls Tryz.prog 53 #[stV S.p ra S.rs.length rc oa S.os.length oc S.c,stV T.p ra' T.rs.length rc' oa' T.os.length oc' T.c] w fun e w'=>e=.returned (.bool (eqS S T))/\Below w.heap.size w w':=by
 have l1':(S.rs.length:Int)<=1048576:=by omega
 have l2':(S.os.length:Int)<=1048576:=by omega
 have H1:Hid (Sl w ra S.rs/\Sl w ra' T.rs):=⟨h1,h3⟩
 have H2:Hid (Sl w oa S.os/\Sl w oa' T.os):=⟨h2,h4⟩
 clear h1 h2 h3 h4 l1 l2
 rcases zK (S.p != T.p) with t1 | t1
 case inl=>
  have HE:Hid (eqS S T=false):=by
   show eqS S T=false
   have:(S.p == T.p)=false:=by simpa using t1
   simp [eqS,this]
  go_enter Tryz.func53,Tryz.ntmps53
  go_wp2
  go_ret
  rw [HE.out]
  exact ⟨rfl,by go_grown⟩
 rcases zK (S.c != T.c) with t2 | t2
 case inl=>
  have HE:Hid (eqS S T=false):=by
   show eqS S T=false
   have:(S.c == T.c)=false:=by simpa using t2
   simp [eqS,this]
  go_enter Tryz.func53,Tryz.ntmps53
  go_wp2
  go_ret
  rw [HE.out]
  exact ⟨rfl,by go_grown⟩
 rcases zK ((S.rs.length:Int) != (T.rs.length:Int)) with t3 | t3
 case inl=>
  have HE:Hid (eqS S T=false):=by
   show eqS S T=false
   have:(S.rs == T.rs)=false:=by
    rw [beq_eq_false_iff_ne]
    intro e
    rw [e] at t3
    simp at t3
   simp [eqS,this]
  go_enter Tryz.func53,Tryz.ntmps53
  go_wp2
  go_ret
  rw [HE.out]
  exact ⟨rfl,by go_grown⟩
 rcases zK ((S.os.length:Int) != (T.os.length:Int)) with t4 | t4
 case inl=>
  have HE:Hid (eqS S T=false):=by
   show eqS S T=false
   have:(S.os == T.os)=false:=by
    rw [beq_eq_false_iff_ne]
    intro e
    rw [e] at t4
    simp at t4
   simp [eqS,this]
  go_enter Tryz.func53,Tryz.ntmps53
  go_wp2
  go_ret
  rw [HE.out]
  exact ⟨rfl,by go_grown⟩
 have HE:Hid (eqS S T=((S.rs == T.rs) && (S.os == T.os))/\S.rs.length=T.rs.length/\S.os.length=T.os.length):=by
  have e1:(S.p == T.p)=true:=by simpa using t1
  have e2:(S.c == T.c)=true:=by simpa using t2
  have e3:S.rs.length=T.rs.length:=by simp at t3;omega
  have e4:S.os.length=T.os.length:=by simp at t4;omega
  refine ⟨?_,e3,e4⟩
  show eqS S T=_
  simp [eqS,e1,e2]
 have N1:Hid (BoxC ((w.alloc (oQ1 S.p ra S.rs.length rc oa S.os.length oc S.c)).alloc (oQ1 T.p ra' T.rs.length rc' oa' T.os.length oc' T.c)) w.heap.size (.int .i64 S.p) (.slice ra S.rs.length rc) (.slice oa S.os.length oc) (.int .i64 S.c)):=(BoxC.new w _ _ _ _ _).below (zT _ _)
 have N2:Hid (BoxC ((w.alloc (oQ1 S.p ra S.rs.length rc oa S.os.length oc S.c)).alloc (oQ1 T.p ra' T.rs.length rc' oa' T.os.length oc' T.c)) (w.heap.size+1) (.int .i64 T.p) (.slice ra' T.rs.length rc') (.slice oa' T.os.length oc') (.int .i64 T.c)):=by
  have h:=BoxC.new (w.alloc (oQ1 S.p ra S.rs.length rc oa S.os.length oc S.c)) (.int .i64 T.p) (.slice ra' T.rs.length rc') (.slice oa' T.os.length oc') (.int .i64 T.c) 80
  rw [World.size_alloc] at h
  exact h
 have NB:Hid (Below w.heap.size w ((w.alloc (oQ1 S.p ra S.rs.length rc oa S.os.length oc S.c)).alloc (oQ1 T.p ra' T.rs.length rc' oa' T.os.length oc' T.c))):=by
  show Below _ _ _
  go_grown
 go_enter Tryz.func53,Tryz.ntmps53
 go_wp2_with fail
 generalize (w.alloc (oQ1 S.p ra S.rs.length rc oa S.os.length oc S.c)).alloc (oQ1 T.p ra' T.rs.length rc' oa' T.os.length oc' T.c)=wb at *
 go_loopw [5] (fun i wr=>∃ k:Nat,k<=S.rs.length/\i=.int .i64 k/\Below wb.heap.size wb wr/\Hid (∀ j,j<k->zi S.rs j=zi T.rs j)) (fun i _=>S.rs.length - (intOf i).toNat)
 case atStart=>exact ⟨0,Nat.zero_le _,rfl,Below.refl _ _,fun j hj=>by omega⟩
 case round=>
  obtain ⟨k,hk,rfl,hbw,HZ⟩:=hrel
  have hw:Below w.heap.size w wr:=NB.out.trans (hbw.mono NB.out.size)
  obtain ⟨n0,n1,n2,n3⟩:=N1.out.below hbw
  obtain ⟨m0,m1,m2,m3⟩:=N2.out.below hbw
  by_cases hlt:k<S.rs.length
  ·have hlt2:k<T.rs.length:=by have:=HE.out;omega
   obtain ⟨b,off,rfl,hbl,ck⟩:=(H1.out.1.below hw).at hlt
   obtain ⟨b',off',rfl,hbl',ck'⟩:=(H1.out.2.below hw).at hlt2
   have hlt':(k:Int)<(S.rs.length:Int):=by omega
   have hlt2':(k:Int)<(T.rs.length:Int):=by omega
   clear hlt2
   rcases zK (zi S.rs k != zi T.rs k) with t | t
   ·have HN:Hid (eqS S T=false):=by
     show eqS S T=false
     rw [HE.out.1]
     have:(S.rs == T.rs)=false:=by
      rw [beq_eq_false_iff_ne]
      intro e
      rw [e] at t
      simp at t
     rw [this,Bool.false_and]
    go_wp2_with fail
    go_quiet (fail)
    go_wp2
    go_ret
    rw [HN.out]
    exact ⟨rfl,yC hw _⟩
   ·have HZ':Hid (∀ j,j<k+1->zi S.rs j=zi T.rs j):=fun j hj=>by
     by_cases e:j=k
     ·subst e
      simpa using t
     ·exact HZ.out j (by omega)
    clear HZ
    go_wp2_with fail
    go_quiet (fail)
    go_wp2
    go_roundw
    case rel=>exact ⟨k+1,by omega,by go_num,yC hbw _,HZ'.out⟩
    case measure=>simp [intOf];omega
  ·have HR:Hid ((S.rs == T.rs)=true):=by
    show (S.rs == T.rs)=true
    rw [beq_iff_eq]
    exact list_of_zi HE.out.2.1 fun j hj=>HZ.out j (by omega)
   have hkl:k=S.rs.length:=by omega
   subst hkl
   clear HZ hlt hk
   go_wp2_with fail
   clear n0 n1 n2 n3 m0 m1 m2 m3
   go_loopw [6] (fun i wr=>∃ k:Nat,k<=S.os.length/\i=.int .i64 k/\Below wb.heap.size wb wr/\Hid (∀ j,j<k->zi S.os j=zi T.os j)) (fun i _=>S.os.length - (intOf i).toNat)
   case atStart=>exact ⟨0,Nat.zero_le _,rfl,hbw,fun j hj=>by omega⟩
   case round=>
    clear hbw hw
    obtain ⟨k,hk,rfl,hbw,HZ⟩:=hrel
    have hw:Below w.heap.size w wr:=NB.out.trans (hbw.mono NB.out.size)
    obtain ⟨n0,n1,n2,n3⟩:=N1.out.below hbw
    obtain ⟨m0,m1,m2,m3⟩:=N2.out.below hbw
    by_cases hlt:k<S.os.length
    ·have hlt2:k<T.os.length:=by have:=HE.out;omega
     obtain ⟨b,off,rfl,hbl,ck⟩:=(H2.out.1.below hw).at hlt
     obtain ⟨b',off',rfl,hbl',ck'⟩:=(H2.out.2.below hw).at hlt2
     have hlt':(k:Int)<(S.os.length:Int):=by omega
     have hlt2':(k:Int)<(T.os.length:Int):=by omega
     clear hlt2
     rcases zK (zi S.os k != zi T.os k) with t | t
     ·have HN:Hid (eqS S T=false):=by
       show eqS S T=false
       rw [HE.out.1]
       have:(S.os == T.os)=false:=by
        rw [beq_eq_false_iff_ne]
        intro e
        rw [e] at t
        simp at t
       rw [this,Bool.and_false]
      go_wp2_with fail
      go_quiet (fail)
      go_wp2
      go_ret
      rw [HN.out]
      exact ⟨rfl,yC hw _⟩
     ·have HZ':Hid (∀ j,j<k+1->zi S.os j=zi T.os j):=fun j hj=>by
       by_cases e:j=k
       ·subst e
        simpa using t
       ·exact HZ.out j (by omega)
      clear HZ
      go_wp2_with fail
      go_quiet (fail)
      go_wp2
      go_roundw
      case rel=>exact ⟨k+1,by omega,by go_num,yC hbw _,HZ'.out⟩
      case measure=>simp [intOf];omega
    ·have HN:Hid (eqS S T=true):=by
      show eqS S T=true
      rw [HE.out.1,HR.out,Bool.true_and,beq_iff_eq]
      exact list_of_zi HE.out.2.2 fun j hj=>HZ.out j (by omega)
     clear HZ
     go_wp2
     go_ret
     rw [HN.out]
     exact ⟨rfl,hw⟩
noncomputable def qB (p:Prop):Bool:=@decide p (Classical.propDecidable _)
theorem qB_true {p:Prop} (h:p):qB p=true:=by simp [qB,h]
theorem qB_false {p:Prop} (h:¬ p):qB p=false:=by simp [qB,h]
theorem qB_iff {p:Prop}:qB p=true ↔ p:=by simp [qB]
structure HisE (w:World) (ha:Option Addr) (hA:Nat->Option Addr) (hC:Nat->Nat) (y:Hs):Prop where
 row:RowS w ha y.n fun i=>.slice (hA i) (y.l i) (hC i)
 ev:∀ i,i<y.n->EvL w (hA i) (y.l i) (y.e i)
theorem HisE.below {w w':World} {ha:Option Addr} {hA:Nat->Option Addr} {hC:Nat->Nat} {y:Hs} (h:HisE w ha hA hC y) (hb:Below w.heap.size w w'):HisE w' ha hA hC y:=⟨h.row.below hb,fun i hi=>(h.ev i hi).below hb⟩
structure HisP (w:World) (X:Nat) (ha:Option Addr) (hc:Nat) (y:Hs) (d:Nat->Nat):Prop where
 c4:w.cell? ⟨X,4,none⟩=some (.slice ha y.n hc)
 pt:∀ i,i<4->w.cell? ⟨X,5+i,none⟩=some (.int .i64 (d i))
 op:∀ a b,a<4->b<4->w.cell? ⟨X,9+a*4+b,none⟩=some (.int .i64 (y.opn d a b))
 fr:∀ j,w.frozen? ⟨X,j,none⟩=false
theorem HisP.lt {w:World} {X:Nat} {ha:Option Addr} {hc:Nat} {y:Hs} {d:Nat->Nat} (h:HisP w X ha hc y d):X<w.heap.size:=zJ w _ h.c4
theorem HisP.blk {w w':World} {X:Nat} {ha:Option Addr} {hc:Nat} {y:Hs} {d:Nat->Nat} (h:HisP w X ha hc y d) (hb:w'.heap[X]? = w.heap[X]?):HisP w' X ha hc y d:=
 ⟨(zH hb).trans h.c4,fun i hi=>(zH hb).trans (h.pt i hi),fun a b h1 h2=>(zH hb).trans (h.op a b h1 h2),fun j=>(zI hb).trans (h.fr j)⟩
theorem HisP.below {w w':World} {X:Nat} {ha:Option Addr} {hc:Nat} {y:Hs} {d:Nat->Nat} (h:HisP w X ha hc y d) (hb:Below w.heap.size w w'):HisP w' X ha hc y d:=h.blk (hb.block X h.lt)
theorem cell_allocs {w:World} {a:Addr} {v:Value} (h:w.cell? a=some v) (o:Obj):(w.alloc o).cell? a=some v:=(World.cell?_alloc_lt w o a (zJ w _ h)).trans h
theorem canPut_any (X:Nat) (ha:Option Addr) (hc:Nat) (hA:Nat->Option Addr) (hC:Nat->Nat) (y:Hs) (d:Nat->Nat) (k:Nat) (w:World) (hE:HisE w ha hA hC y) (hP:HisP w X ha hc y d) (h4:y.n<=4) (hk:k<y.n) (hp:y.Peers) (hl:∀ i,i<y.n->y.l i<=200) (hd:∀ i,d i<=y.l i):
  Calls Tryz.prog 199 #[.pointer (some ⟨X,4,none⟩),.int .i64 k] w fun e w'=>e=.returned (.bool (qB (y.Can d k)))/\Below w.heap.size w w':=by
 have HE:Hid (HisE w ha hA hC y):=hE
 have HP:Hid (HisP w X ha hc y d):=hP
 have HCan:Hid (y.Can d k ↔ d k<y.l k/\((y.e k (d k)).k=3->0<y.opn d (y.e k (d k)).q.toNat k)):=Hs.can_iff hp hk
 have hk4:(k:Int)<4:=by omega
 have hk':(k:Int)<(y.n:Int):=by omega
 have hl200:(y.l k:Int)<=200:=by have:=hl k hk;omega
 have hdk:(d k:Int)<=(y.l k:Int):=by have:=hd k;omega
 obtain ⟨bh,oh,eh,ch⟩:=hE.row.at hk
 obtain ⟨c4,pt,op,-⟩:=hP
 have pk:=pt k (by omega)
 rw [eh] at c4
 clear hE
 by_cases he:d k=y.l k
 ·have HN:Hid (qB (y.Can d k)=false):=qB_false fun h=>by have:=h.1;omega
  rw [he] at pk
  clear op pt
  go_enter Tryz.func199,Tryz.ntmps199
  go_wp2_with fail
  go_quiet (fail)
  go_wp2
  go_ret
  rw [HN.out]
  exact ⟨rfl,yC (Below.refl _ _) _⟩
 ·have hlt:d k<y.l k:=by have:=hd k;omega
  have hlt':(d k:Int)<(y.l k:Int):=by omega
  have hne:((d k:Int) == (y.l k:Int))=false:=by
   have:¬ (d k:Int)=(y.l k:Int):=by omega
   simpa using this
  obtain ⟨b,off,ea,zb,e0,e1,e2⟩:=(HE.out.ev k hk).at hlt
  rw [ea] at ch
  have n1:w.heap.size≠X:=by have:=HP.out.lt;omega
  have n2:w.heap.size≠b:=by omega
  have n3:w.heap.size≠bh:=by have:=zJ w _ ch;simp at this;omega
  clear zb
  have hq:=hp k hk (d k) hlt
  obtain ⟨q,hqe⟩:∃ q:Nat,(y.e k (d k)).q=(q:Int):=⟨(y.e k (d k)).q.toNat,by omega⟩
  have hq4:(q:Int)<4:=by omega
  have oq:=op q k (by omega) (by omega)
  rw [hqe] at e1
  rcases zK ((y.e k (d k)).k != 3) with t | t
  ·have HN:Hid (qB (y.Can d k)=true):=qB_true (HCan.out.2 ⟨hlt,fun h=>by rw [h] at t;cases t⟩)
   clear op pt hq hqe oq HCan
   generalize (y.e k (d k)).k=kd at *
   generalize (y.e k (d k)).v=vd at *
   go_enter Tryz.func199,Tryz.ntmps199
   go_wp2_with fail
   go_quiet (fail)
   go_wp2_with fail
   have BD:Hid (Below w.heap.size w (w.drewN nq)):=yC (Below.refl _ _) _
   replace n1:(w.drewN nq).heap.size≠X:=n1
   replace n2:(w.drewN nq).heap.size≠b:=n2
   replace n3:(w.drewN nq).heap.size≠bh:=n3
   replace c4:(w.drewN nq).cell? ⟨X,4,none⟩=_:=c4
   replace pk:(w.drewN nq).cell? ⟨X,5+k,none⟩=_:=pk
   replace ch:(w.drewN nq).cell? ⟨bh,oh+k,none⟩=_:=ch
   replace e0:(w.drewN nq).cell? ⟨b,off+d k*3,none⟩=_:=e0
   replace e1:(w.drewN nq).cell? ⟨b,off+d k*3+1,none⟩=_:=e1
   replace e2:(w.drewN nq).cell? ⟨b,off+d k*3+2,none⟩=_:=e2
   generalize w.drewN nq=wd at *
   have c4':=cell_allocs c4
   have pk':=cell_allocs pk
   have ch':=cell_allocs ch
   have e0':=cell_allocs e0
   have e1':=cell_allocs e1
   have e2':=cell_allocs e2
   go_region
   all_goals
    go_wp2_with fail
    go_quiet (fail)
    go_wp2
    go_ret
    rw [HN.out]
    exact ⟨rfl,yC (BD.out.trans ((zT _ _).mono BD.out.size)).drew _⟩
  ·have hk3:(y.e k (d k)).k=3:=by simpa using t
   have HN:Hid (qB (y.Can d k)=decide (0<y.opn d q k)):=by
    show qB (y.Can d k)=decide (0<y.opn d q k)
    have e:(y.e k (d k)).q.toNat=q:=by omega
    by_cases h0:0<y.opn d q k
    ·rw [decide_eq_true h0]
     exact qB_true (HCan.out.2 ⟨hlt,fun _=>by rw [e];exact h0⟩)
    ·rw [decide_eq_false h0]
     refine qB_false fun h=>h0 ?_
     have:=(HCan.out.1 h).2 hk3
     rwa [e] at this
   rw [hk3] at e0
   clear op pt hq hqe HCan t hk3
   generalize (y.e k (d k)).v=vd at *
   generalize y.opn d q k=on at *
   go_enter Tryz.func199,Tryz.ntmps199
   go_wp2_with fail
   go_quiet (fail)
   go_wp2_with fail
   have BD:Hid (Below w.heap.size w (w.drewN nq)):=yC (Below.refl _ _) _
   replace n1:(w.drewN nq).heap.size≠X:=n1
   replace n2:(w.drewN nq).heap.size≠b:=n2
   replace n3:(w.drewN nq).heap.size≠bh:=n3
   replace c4:(w.drewN nq).cell? ⟨X,4,none⟩=_:=c4
   replace pk:(w.drewN nq).cell? ⟨X,5+k,none⟩=_:=pk
   replace ch:(w.drewN nq).cell? ⟨bh,oh+k,none⟩=_:=ch
   replace e0:(w.drewN nq).cell? ⟨b,off+d k*3,none⟩=_:=e0
   replace e1:(w.drewN nq).cell? ⟨b,off+d k*3+1,none⟩=_:=e1
   replace e2:(w.drewN nq).cell? ⟨b,off+d k*3+2,none⟩=_:=e2
   replace oq:(w.drewN nq).cell? ⟨X,9+q*4+k,none⟩=_:=oq
   generalize w.drewN nq=wd at *
   have c4':=cell_allocs c4
   have pk':=cell_allocs pk
   have ch':=cell_allocs ch
   have e0':=cell_allocs e0
   have e1':=cell_allocs e1
   have e2':=cell_allocs e2
   have oq':=cell_allocs oq
   go_region
   all_goals
    go_wp2_with fail
    go_quiet (fail)
    go_wp2
    go_ret
    rw [HN.out]
    exact ⟨rfl,yC (BD.out.trans ((zT _ _).mono BD.out.size)).drew _⟩
theorem HisP.put {w w':World} {X:Nat} {ha:Option Addr} {hc:Nat} {y:Hs} {d:Nat->Nat} {k:Nat} (h:HisP w X ha hc y d) (c4:w'.cell? ⟨X,4,none⟩=w.cell? ⟨X,4,none⟩) (pt:∀ i,i<4->w'.cell? ⟨X,5+i,none⟩=if i=k then some (.int .i64 (d k+1:Nat)) else w.cell? ⟨X,5+i,none⟩)
  (op:∀ a b,a<4->b<4->w'.cell? ⟨X,9+a*4+b,none⟩=some (.int .i64 (y.opn (up d k) a b))) (fr:∀ j,w'.frozen? ⟨X,j,none⟩=false):HisP w' X ha hc y (up d k):=by
 refine ⟨c4.trans h.c4,fun i hi=>?_,op,fr⟩
 rw [pt i hi]
 by_cases e:i=k
 ·subst e
  rw [if_pos rfl,up_same]
 ·rw [if_neg e,up_other e]
  exact h.pt i hi
theorem Hs.opn_le {y:Hs} {d:Nat->Nat} (hd:∀ i,d i<=y.l i) (hl:∀ i,i<y.n->y.l i<=200) {a b:Nat} (ha:a<y.n) (hb:b<y.n):-200<=y.opn d a b/\y.opn d a b<=200:=by
 have h1:=cnt_le (y.e a) 2 b (d a)
 have h2:=cnt_le (y.e b) 3 a (d b)
 have h3:=hd a
 have h4:=hd b
 have h5:=hl a ha
 have h6:=hl b hb
 unfold Hs.opn
 omega
theorem cell_set2 {w:World} {X i j m:Nat} {u v:Value} {o:Obj} (h1:m≠i) (h2:m≠j) (hX:X<w.heap.size):(((w.setCell ⟨X,i,none⟩ u).setCell ⟨X,j,none⟩ v).alloc o).cell? ⟨X,m,none⟩=w.cell? ⟨X,m,none⟩:=by
 rw [World.cell?_alloc_lt _ _ _ (by simpa [World.setCell] using hX),World.cell?_setCell_other _ _ _ _ (by intro e;injection e with _ e;exact h2 e.symm),World.cell?_setCell_other _ _ _ _ (by intro e;injection e with _ e;exact h1 e.symm)]
theorem cell_set2a {w:World} {X i j:Nat} {u v:Value} {o:Obj} (h1:i≠j) (hc:(w.cell? ⟨X,i,none⟩).isSome=true) (hX:X<w.heap.size):(((w.setCell ⟨X,i,none⟩ u).setCell ⟨X,j,none⟩ v).alloc o).cell? ⟨X,i,none⟩=some u:=by
 rw [World.cell?_alloc_lt _ _ _ (by simpa [World.setCell] using hX),World.cell?_setCell_other _ _ _ _ (by intro e;injection e with _ e;exact h1 e.symm),World.cell?_setCell_same' _ _ _ hc]
theorem cell_set2b {w:World} {X i j:Nat} {u v:Value} {o:Obj} (h1:i≠j) (hc:(w.cell? ⟨X,j,none⟩).isSome=true) (hX:X<w.heap.size):(((w.setCell ⟨X,i,none⟩ u).setCell ⟨X,j,none⟩ v).alloc o).cell? ⟨X,j,none⟩=some v:=by
 rw [World.cell?_alloc_lt _ _ _ (by simpa [World.setCell] using hX),World.cell?_setCell_same']
 rw [World.cell?_setCell_other _ _ _ _ (by intro e;injection e with _ e;exact h1 e)]
 exact hc
theorem frozen_alloc_lt {w:World} {o:Obj} {X j:Nat} (hX:X<w.heap.size):(w.alloc o).frozen? ⟨X,j,none⟩=w.frozen? ⟨X,j,none⟩:=(zT w o).frozen (p:=⟨X,j,none⟩) hX
theorem HisP.put2 {w:World} {X:Nat} {ha:Option Addr} {hc:Nat} {y:Hs} {d:Nat->Nat} {k i0 j0:Nat} {on:Int} {o:Obj} (h:HisP w X ha hc y d) (hk:k<4) (hi:i0<4) (hj:j0<4) (HO:∀ a b,y.opn (up d k) a b=if a=i0/\b=j0 then on else y.opn d a b):
  HisP (((w.setCell ⟨X,9+i0*4+j0,none⟩ (.int .i64 on)).setCell ⟨X,5+k,none⟩ (.int .i64 ((d k:Int)+1))).alloc o) X ha hc y (up d k)/\Touch (fun b=>b=X) w (((w.setCell ⟨X,9+i0*4+j0,none⟩ (.int .i64 on)).setCell ⟨X,5+k,none⟩ (.int .i64 ((d k:Int)+1))).alloc o):=by
 have hX:=h.lt
 refine ⟨h.put (k:=k) (cell_set2 (by omega) (by omega) hX) (fun i hi'=>?_) (fun a b ha' hb'=>?_) (fun j=>?_),?_⟩
 ·by_cases e:i=k
  ·subst e
   rw [if_pos rfl,cell_set2b (by omega) (by rw [h.pt i hi'];rfl) hX]
   rfl
  ·rw [if_neg e]
   exact cell_set2 (by omega) (by omega) hX
 ·rw [HO]
  by_cases e:a=i0/\b=j0
  ·obtain ⟨rfl,rfl⟩:=e
   rw [if_pos ⟨rfl,rfl⟩]
   exact cell_set2a (by omega) (by rw [h.op a b ha' hb'];rfl) hX
  ·rw [if_neg e,<- h.op a b ha' hb']
   exact cell_set2 (by omega) (by omega) hX
 ·rw [frozen_alloc_lt (by simpa [World.setCell] using hX),World.frozen?_setCell,World.frozen?_setCell]
  exact h.fr j
 ·exact ((Touch.of_set (P:=fun b=>b=X) w (a:=⟨X,_,none⟩) rfl _).trans (Touch.of_set (P:=fun b=>b=X) _ (a:=⟨X,_,none⟩) rfl _)).trans (Touch.of_below (zT _ _))
theorem HisP.put1 {w:World} {X:Nat} {ha:Option Addr} {hc:Nat} {y:Hs} {d:Nat->Nat} {k:Nat} {o:Obj} (h:HisP w X ha hc y d) (hk:k<4) (HO:∀ a b,y.opn (up d k) a b=y.opn d a b):
  HisP ((w.setCell ⟨X,5+k,none⟩ (.int .i64 ((d k:Int)+1))).alloc o) X ha hc y (up d k)/\Touch (fun b=>b=X) w ((w.setCell ⟨X,5+k,none⟩ (.int .i64 ((d k:Int)+1))).alloc o):=by
 have hX:=h.lt
 have ho:∀ m,m≠5+k->((w.setCell ⟨X,5+k,none⟩ (.int .i64 ((d k:Int)+1))).alloc o).cell? ⟨X,m,none⟩=w.cell? ⟨X,m,none⟩:=fun m hm=>by
  rw [World.cell?_alloc_lt _ _ _ (by simpa [World.setCell] using hX),World.cell?_setCell_other _ _ _ _ (by intro e;injection e with _ e;exact hm e.symm)]
 refine ⟨h.put (k:=k) (ho 4 (by omega)) (fun i hi'=>?_) (fun a b ha' hb'=>?_) (fun j=>?_),?_⟩
 ·by_cases e:i=k
  ·subst e
   rw [if_pos rfl,World.cell?_alloc_lt _ _ _ (by simpa [World.setCell] using hX),World.cell?_setCell_same' _ _ _ (by rw [h.pt i hi'];rfl)]
   rfl
  ·rw [if_neg e]
   exact ho _ (by omega)
 ·rw [HO,<- h.op a b ha' hb']
  exact ho _ (by omega)
 ·rw [frozen_alloc_lt (by simpa [World.setCell] using hX),World.frozen?_setCell]
  exact h.fr j
 ·exact (Touch.of_set (P:=fun b=>b=X) w (a:=⟨X,_,none⟩) rfl _).trans (Touch.of_below (zT _ _))
theorem HisP.dr {w:World} {X:Nat} {ha:Option Addr} {hc:Nat} {y:Hs} {d:Nat->Nat} (h:HisP w X ha hc y d):HisP w.drew X ha hc y d:=⟨h.c4,h.pt,h.op,h.fr⟩
theorem Touch.dr {P:Nat->Prop} {w w':World} (h:Touch P w w'):Touch P w w'.drew:=⟨h.os,h.tape,h.output,h.size,h.block⟩
theorem putOne_any (X:Nat) (ha:Option Addr) (hc:Nat) (hA:Nat->Option Addr) (hC:Nat->Nat) (y:Hs) (d:Nat->Nat) (k:Nat) (w:World) (hE:HisE w ha hA hC y) (hP:HisP w X ha hc y d) (h4:y.n<=4) (hk:k<y.n) (hp:y.Peers) (hl:∀ i,i<y.n->y.l i<=200) (hd:∀ i,d i<=y.l i) (hlt:d k<y.l k):
  Calls Tryz.prog 157 #[.pointer (some ⟨X,4,none⟩),.int .i64 k] w fun e w'=>e=.returned (.tuple #[])/\HisP w' X ha hc y (up d k)/\Touch (fun b=>b=X) w w':=by
 have HP:Hid (HisP w X ha hc y d):=hP
 have hk4:(k:Int)<4:=by omega
 have hk':(k:Int)<(y.n:Int):=by omega
 have hl200:(y.l k:Int)<=200:=by have:=hl k hk;omega
 have hlt':(d k:Int)<(y.l k:Int):=by omega
 obtain ⟨bh,oh,eh,ch⟩:=hE.row.at hk
 obtain ⟨c4,pt,op,fr⟩:=hP
 have pk:=pt k (by omega)
 rw [eh] at c4
 obtain ⟨b,off,ea,zb,e0,e1,e2⟩:=(hE.ev k hk).at hlt
 rw [ea] at ch
 have n1:w.heap.size≠X:=by have:=HP.out.lt;omega
 have n2:w.heap.size≠b:=by omega
 have n3:w.heap.size≠bh:=by have:=zJ w _ ch;simp at this;omega
 have zX:X<w.heap.size:=HP.out.lt
 have hq:=hp k hk (d k) hlt
 obtain ⟨q,hqe⟩:∃ q:Nat,(y.e k (d k)).q=(q:Int):=⟨(y.e k (d k)).q.toNat,by omega⟩
 have hq4:(q:Int)<4:=by omega
 have hqn:q<y.n:=by omega
 rw [hqe] at e1
 have c4':=cell_allocs c4
 have pk':=cell_allocs pk
 have ch':=cell_allocs ch
 have e0':=cell_allocs e0
 have e1':=cell_allocs e1
 have e2':=cell_allocs e2
 have fr':∀ j,w.frozen? ⟨X,j,none⟩=false:=fr
 rcases zK ((y.e k (d k)).k == 2) with t | t
 ·have hk2:(y.e k (d k)).k=2:=by simpa using t
  have oq:=op k q (by omega) (by omega)
  obtain ⟨o1,o2⟩:=Hs.opn_le hd hl hk hqn
  have oq':=cell_allocs oq
  rw [hk2] at e0 e0'
  have HO:Hid (∀ a b,y.opn (up d k) a b=if a=k/\b=q then y.opn d k q+1 else y.opn d a b):=fun a b=>by
   rw [Hs.opn_up,hk2,hqe]
   by_cases e:a=k/\b=q
   ·obtain ⟨rfl,rfl⟩:=e
    simp
   ·rw [if_neg e,if_neg (fun h=>e ⟨h.1,by omega⟩),if_neg (fun h=>absurd h.2.1 (by decide))]
    omega
  clear op pt t hk2 hq hqe hp hE eh ea
  generalize (y.e k (d k)).v=vd at *
  generalize y.opn d k q=on at *
  go_enter Tryz.func157,Tryz.ntmps157
  go_wp2_with fail
  go_region
  all_goals
   go_wp2_with fail
   go_region
   all_goals
    go_wp2_with fail
    go_region
    all_goals
     go_wp2_with fail
     go_end0
     have hz:=HP.out.put2 (o:=oQ0 2 q vd) (show k<4 by omega) (show k<4 by omega) (show q<4 by omega) HO.out
     exact ⟨rfl,hz.1.dr.dr.dr,hz.2.dr.dr.dr⟩
 rcases zK ((y.e k (d k)).k == 3) with t3 | t3
 ·have hk3:(y.e k (d k)).k=3:=by simpa using t3
  have oq:=op q k (by omega) (by omega)
  obtain ⟨o1,o2⟩:=Hs.opn_le hd hl hqn hk
  have oq':=cell_allocs oq
  rw [hk3] at e0 e0'
  have HO:Hid (∀ a b,y.opn (up d k) a b=if a=q/\b=k then y.opn d q k - 1 else y.opn d a b):=fun a b=>by
   rw [Hs.opn_up,hk3,hqe]
   by_cases e:a=q/\b=k
   ·obtain ⟨rfl,rfl⟩:=e
    simp
   ·rw [if_neg e,if_neg (fun h=>absurd h.2.1 (by decide)),if_neg (fun h=>e ⟨by omega,h.1⟩)]
    omega
  clear op pt t t3 hk3 hq hqe hp hE eh ea
  generalize (y.e k (d k)).v=vd at *
  generalize y.opn d q k=on at *
  go_enter Tryz.func157,Tryz.ntmps157
  go_wp2_with fail
  go_region
  all_goals
   go_wp2_with fail
   go_region
   all_goals
    go_wp2_with fail
    go_region
    all_goals
     go_wp2_with fail
     go_end0
     have hz:=HP.out.put2 (o:=oQ0 3 q vd) (show k<4 by omega) (show q<4 by omega) (show k<4 by omega) HO.out
     exact ⟨rfl,hz.1.dr.dr.dr,hz.2.dr.dr.dr⟩
 ·have HO:Hid (∀ a b,y.opn (up d k) a b=y.opn d a b):=fun a b=>by
   have t2:(y.e k (d k)).k≠2:=by simpa using t
   have t3':(y.e k (d k)).k≠3:=by simpa using t3
   rw [Hs.opn_up,if_neg (fun h=>t2 h.2.1),if_neg (fun h=>t3' h.2.1)]
   omega
  clear op pt hq hqe hp hE eh ea
  generalize (y.e k (d k)).v=vd at *
  generalize (y.e k (d k)).k=kd at *
  go_enter Tryz.func157,Tryz.ntmps157
  go_wp2_with fail
  go_region
  all_goals
   go_wp2_with fail
   go_region
   all_goals
    go_wp2_with fail
    go_end0
    have hz:=HP.out.put1 (o:=oQ0 kd q vd) (show k<4 by omega) HO.out
    exact ⟨rfl,hz.1.dr.dr,hz.2.dr.dr⟩
def NxtR (w:World) (y:Hs) (d:Nat->Nat) (e:Ending) (w':World):Prop:=
 Below w.heap.size w w'/\((∃ k,k<y.n/\y.Can d k/\e=.returned (.int .i64 (k:Nat)))\/(e=.returned (.int .i64 (-1))/\∀ p,p<y.n->¬ y.Can d p))
theorem next_any (X:Nat) (ha:Option Addr) (hc:Nat) (hA:Nat->Option Addr) (hC:Nat->Nat) (y:Hs) (d:Nat->Nat) (w:World) (hE:HisE w ha hA hC y) (hP:HisP w X ha hc y d) (h4:y.n<=4) (hp:y.Peers) (hl:∀ i,i<y.n->y.l i<=200) (hd:∀ i,d i<=y.l i):
  Calls Tryz.prog 156 #[.pointer (some ⟨X,4,none⟩)] w (NxtR w y d):=by
 have HE:Hid (HisE w ha hA hC y):=hE
 have HP:Hid (HisP w X ha hc y d):=hP
 have HH:Hid (y.Peers/\(∀ i,i<y.n->y.l i<=200)/\∀ i,d i<=y.l i):=⟨hp,hl,hd⟩
 have hn:(y.n:Int)<=4:=by omega
 obtain ⟨c4,-,-,-⟩:=hP
 clear hE hp hl hd
 go_enter Tryz.func156,Tryz.ntmps156
 go_wp2_with fail
 clear c4
 go_loopw [9] (fun i wr=>∃ k:Nat,k<=y.n/\i=.int .i64 k/\Below w.heap.size w wr/\Hid (∀ j,j<k->¬ y.Can d j)) (fun i _=>y.n - (intOf i).toNat)
 case atStart=>exact ⟨0,Nat.zero_le _,rfl,Below.refl _ _,fun j hj=>by omega⟩
 case round=>
  obtain ⟨k,hk,rfl,hbw,HZ⟩:=hrel
  by_cases hlt:k<y.n
  ·have hlt':(k:Int)<(y.n:Int):=by omega
   go_wp2_with fail
   refine (canPut_any X ha hc hA hC y d k wr (HE.out.below hbw) (HP.out.below hbw) h4 hlt HH.out.1 HH.out.2.1 HH.out.2.2).mono ?_
   rintro e w1 ⟨rfl,b1⟩
   have B1:Hid (Below w.heap.size w w1):=hbw.trans (b1.mono hbw.size)
   clear b1 hbw
   by_cases hc':y.Can d k
   ·have HF:Hid (NxtR w y d (.returned (.int .i64 k)) w1):=⟨B1.out,.inl ⟨k,hlt,hc',rfl⟩⟩
    rw [qB_true hc']
    clear hc' B1
    go_wp2
    go_ret
    exact HF.out
   ·have HZ':Hid (∀ j,j<k+1->¬ y.Can d j):=fun j hj=>by
     by_cases e:j=k
     ·subst e
      exact hc'
     ·exact HZ.out j (by omega)
    rw [qB_false hc']
    clear hc' HZ
    go_wp2
    go_roundw
    case rel=>exact ⟨k+1,by omega,by go_num,B1.out,HZ'.out⟩
    case measure=>simp [intOf];omega
  ·have HF:Hid (NxtR w y d (.returned (.int .i64 (-1))) wr):=⟨hbw,.inr ⟨rfl,fun p hp=>HZ.out p (by omega)⟩⟩
   clear HZ hbw
   go_wp2
   go_ret
   exact HF.out
theorem allPut_any (X:Nat) (ha:Option Addr) (hc:Nat) (hA:Nat->Option Addr) (hC:Nat->Nat) (y:Hs) (d:Nat->Nat) (w:World) (hE:HisE w ha hA hC y) (hP:HisP w X ha hc y d) (h4:y.n<=4) (hl:∀ i,i<y.n->y.l i<=200) (hd:∀ i,d i<=y.l i):
  Calls Tryz.prog 158 #[.pointer (some ⟨X,4,none⟩)] w fun e w'=>e=.returned (.bool (qB (y.All d)))/\Below w.heap.size w w':=by
 have HE:Hid (HisE w ha hA hC y):=hE
 have HP:Hid (HisP w X ha hc y d):=hP
 have HH:Hid ((∀ i,i<y.n->y.l i<=200)/\∀ i,d i<=y.l i):=⟨hl,hd⟩
 have hn:(y.n:Int)<=4:=by omega
 obtain ⟨c4,-,-,-⟩:=hP
 clear hE hl hd
 go_enter Tryz.func158,Tryz.ntmps158
 go_wp2_with fail
 clear c4
 go_loopw [10] (fun i wr=>∃ k:Nat,k<=y.n/\i=.int .i64 k/\Below w.heap.size w wr/\Hid (∀ j,j<k->d j=y.l j)) (fun i _=>y.n - (intOf i).toNat)
 case atStart=>exact ⟨0,Nat.zero_le _,rfl,Below.refl _ _,fun j hj=>by omega⟩
 case round=>
  obtain ⟨k,hk,rfl,hbw,HZ⟩:=hrel
  by_cases hlt:k<y.n
  ·have hlt':(k:Int)<(y.n:Int):=by omega
   have hk4:(k:Int)<4:=by omega
   obtain ⟨bh,oh,eh,ch⟩:=(HE.out.below hbw).row.at hlt
   have pk:=(HP.out.below hbw).pt k (by omega)
   have hd':(d k:Int)<=(y.l k:Int):=by have:=HH.out.2 k;omega
   rw [eh]
   by_cases hs:d k<y.l k
   ·have hs':(d k:Int)<(y.l k:Int):=by omega
    have HN:Hid (qB (y.All d)=false):=qB_false fun h=>by have:=h k hlt;omega
    clear HZ
    go_wp2
    go_ret
    rw [HN.out]
    exact ⟨rfl,hbw⟩
   ·have hs':¬ (d k:Int)<(y.l k:Int):=by omega
    have HZ':Hid (∀ j,j<k+1->d j=y.l j):=fun j hj=>by
     by_cases e:j=k
     ·subst e
      omega
     ·exact HZ.out j (by omega)
    clear HZ
    go_wp2
    go_roundw
    case rel=>exact ⟨k+1,by omega,by go_num,hbw,HZ'.out⟩
    case measure=>simp [intOf];omega
  ·have HN:Hid (qB (y.All d)=true):=qB_true fun p hp=>HZ.out p (by omega)
   clear HZ
   go_wp2
   go_ret
   rw [HN.out]
   exact ⟨rfl,hbw⟩
