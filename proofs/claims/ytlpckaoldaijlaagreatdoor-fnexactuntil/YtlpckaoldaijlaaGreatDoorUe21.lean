import Derived.Test.YtlpckaoldaijlaaGreatDoorUe0
import Derived.Test.YtlpckaoldaijlaaGreatDoorUe15
import Derived.Test.YtlpckaoldaijlaaGreatDoorUe17
namespace Go.Proofs.YtlpckaoldaijlaaGreatDoor
set_option maxRecDepth 100000
set_option maxHeartbeats 2000000
open Go.ChangeShapes Go.WideShapes Go.ChangeAt Go.RowKit Go.Deep
structure OutItem (w:World) (D hi n:Nat) (ls:Nat->Nat) (bs:Nat->Nat) (h:Nat->Nat->I2):Prop where
 cel:∀ i,i<n->w.cell? ⟨D,i,none⟩=some (.slice (some ⟨bs i,0,none⟩) (ls i) (ls i))
 bd:∀ i,i<n->D<bs i/\bs i<hi
 row:∀ i,i<n->ItAt w (bs i) 0 (ls i) (h i)
 fr:∀ i,i<n->∀ j,w.frozen? ⟨bs i,j,none⟩=false
 up:∀ i j,i<j->j<n->bs i<bs j
 le:hi<=w.heap.size
 lt:D<hi
theorem OutItem.below {w w':World} {D hi n B:Nat} {ls:Nat->Nat} {bs:Nat->Nat} {h:Nat->Nat->I2} (o:OutItem w D hi n ls bs h) (hb:Below B w w') (hB:hi<=B):OutItem w' D hi n ls bs h:=
 ⟨fun i hi'=>(hb.cell (p:=⟨D,i,none⟩) (zP o.lt hB)).trans (o.cel i hi'),o.bd,fun i hi'=>(o.row i hi').below hb (zP (o.bd i hi').2 hB),fun i hi' j=>(hb.frozen (p:=⟨bs i,j,none⟩) (zP (o.bd i hi').2 hB)).trans (o.fr i hi' j),o.up,zS o.le hb.size,o.lt⟩
theorem OutItem.keep {w w':World} {D hi n:Nat} {ls:Nat->Nat} {bs:Nat->Nat} {h:Nat->Nat->I2} (o:OutItem w D hi n ls bs h) (hs:w.heap.size<=w'.heap.size) (hb:∀ k,D<=k->k<hi->w'.heap[k]? = w.heap[k]?):OutItem w' D hi n ls bs h:=by
 refine ⟨fun i hi'=>(zI (hb D (Nat.le_refl _) o.lt)).trans (o.cel i hi'),o.bd,fun i hi'=>?_,fun i hi' j=>(zJ (hb _ (Nat.le_of_lt (o.bd i hi').1) (o.bd i hi').2)).trans (o.fr i hi' j),o.up,zS o.le hs,o.lt⟩
 have hc:∀ j,w'.cell? ⟨bs i,j,none⟩=w.cell? ⟨bs i,j,none⟩:=fun j=>zI (hb _ (Nat.le_of_lt (o.bd i hi').1) (o.bd i hi').2)
 intro t ht
 have:=o.row i hi' t ht
 simp only [hc]
 exact this
theorem szItemSS_small (a0:Option Addr) (n cap:Nat) (aa:Nat->Option Addr) (ls cs:Nat->Nat) (L:Int) (w:World) (hr:RowS w a0 n fun i=>.slice (aa i) (ls i) (cs i)) (h:(n:Int)+(sumL ls n:Nat)<=L) (hL:L<=1048576):
  Calls Tryz.prog 61 #[.slice a0 n cap,.int .i64 L] w fun e w'=>e=.returned (.int .i64 (L - n - (sumL ls n:Nat)))/\w'=w:=by
 have hn:(n:Int)<=1048576:=by omega
 have h0:0<=L:=by omega
 have hn0:¬ (L - (n:Int)<0):=by omega
 have HR:Hid (RowS w a0 n fun i=>.slice (aa i) (ls i) (cs i)):=hr
 have HS:Hid ((n:Int)+(sumL ls n:Nat)<=L):=h
 clear hr h
 go_enter Tryz.func61,Tryz.ntmps61
 go_wp2_with fail
 go_loopw [1,5] (fun q i wr=>∃ k:Nat,k<=n/\i=.int .i64 k/\q=.int .i64 (L - n - (sumL ls k:Nat))/\wr=w) (fun _ i _=>n - (intOf i).toNat)
 case atStart=>exact ⟨0,Nat.zero_le _,rfl,by simp [sumL],rfl⟩
 case round=>
  obtain ⟨k,hk,rfl,rfl,rfl⟩:=hrel
  by_cases hlt:k<n
  ·have hlt':(k:Int)<(n:Int):=by omega
   obtain ⟨b,off,rfl,ck⟩:=HR.out.at hlt
   have hsl:=sumL_at ls hlt
   have hS:=HS.out
   have e1:(L - n - (sumL ls k:Nat)) - (ls k:Int)=L - n - (sumL ls (k+1):Nat):=by simp only [sumL];omega
   have HE:Hid ((L - n - (sumL ls k:Nat)) - (ls k:Int)=L - n - (sumL ls (k+1):Nat)):=e1
   have e2:(ls k:Int)<=L - n - (sumL ls k:Nat):=by omega
   have e3:¬ (L - n - (sumL ls (k+1):Nat)<0):=by omega
   have e4:L - n - (sumL ls k:Nat)<=1048576:=by omega
   clear e1 hS hsl
   generalize hy:L - n - (sumL ls (k+1):Nat)=Y at *
   go_wp2_with fail
   refine (szItemS_small _ _ _ _ _ e2 e4).mono ?_
   rintro e w1 ⟨rfl,rfl⟩
   rw [HE.out]
   clear e2 e4
   go_wp2
   go_roundw
   case rel=>exact ⟨k+1,by omega,by go_num,by rw [<- hy],by trivial⟩
   case measure=>simp [intOf];omega
  ·have hkl:k=n:=by omega
   subst hkl
   go_wp2
   go_ret
   exact ⟨rfl,rfl⟩
theorem szItemSS_great (a0:Option Addr) (n cap:Nat) (aa:Nat->Option Addr) (ls cs:Nat->Nat) (L:Int) (w:World) (hr:RowS w a0 n fun i=>.slice (aa i) (ls i) (cs i)) (h:L<(n:Int)+(sumL ls n:Nat)) (h0:0<=L) (hL:L<=1048576) (hm:n<=maxLen) (hl:∀ i,i<n->ls i<=maxLen):
  Calls Tryz.prog 61 #[.slice a0 n cap,.int .i64 L] w fun e w'=>e=.returned (.int .i64 (-1))/\w'=w:=by
 have hm':(n:Int)<=9223372036854775807:=by unfold maxLen at hm;omega
 by_cases hn0:L - (n:Int)<0
 ·go_enter Tryz.func61,Tryz.ntmps61
  go_wp2
  go_ret
  exact ⟨rfl,rfl⟩
 have hn:(n:Int)<=1048576:=by omega
 have HR:Hid (RowS w a0 n fun i=>.slice (aa i) (ls i) (cs i)):=hr
 have HS:Hid (L<(n:Int)+(sumL ls n:Nat)):=h
 have HL:Hid (∀ i,i<n->ls i<=maxLen):=hl
 clear hr h hl hm
 go_enter Tryz.func61,Tryz.ntmps61
 go_wp2_with fail
 go_loopw [1,5] (fun q i wr=>∃ k:Nat,k<=n/\i=.int .i64 k/\q=.int .i64 (L - n - (sumL ls k:Nat))/\0<=L - n - (sumL ls k:Nat)/\wr=w) (fun _ i _=>n - (intOf i).toNat)
 case atStart=>exact ⟨0,Nat.zero_le _,rfl,by simp [sumL],by simp only [sumL];omega,rfl⟩
 case round=>
  obtain ⟨k,hk,rfl,rfl,hp,rfl⟩:=hrel
  by_cases hlt:k<n
  ·have hlt':(k:Int)<(n:Int):=by omega
   obtain ⟨b,off,rfl,ck⟩:=HR.out.at hlt
   have hml:=HL.out k hlt
   have e1:(L - n - (sumL ls k:Nat)) - (ls k:Int)=L - n - (sumL ls (k+1):Nat):=by simp only [sumL];omega
   have HE:Hid ((L - n - (sumL ls k:Nat)) - (ls k:Int)=L - n - (sumL ls (k+1):Nat)):=e1
   have e4:L - n - (sumL ls k:Nat)<=1048576:=by omega
   clear e1
   by_cases hb:(ls k:Int)<=L - n - (sumL ls k:Nat)
   ·have e3:0<=L - n - (sumL ls (k+1):Nat):=by have:=HE.out;omega
    have e3':¬ (L - n - (sumL ls (k+1):Nat)<0):=by omega
    generalize hy:L - n - (sumL ls (k+1):Nat)=Y at *
    go_wp2_with fail
    refine (szItemS_small _ _ _ _ _ hb e4).mono ?_
    rintro e w1 ⟨rfl,rfl⟩
    rw [HE.out]
    clear hb e4 hml hp
    go_wp2
    go_roundw
    case rel=>exact ⟨k+1,by omega,by go_num,by rw [<- hy],by omega,by trivial⟩
    case measure=>simp [intOf];omega
   ·have hb':L - n - (sumL ls k:Nat)<(ls k:Int):=by omega
    go_wp2_with fail
    refine (szItemS_great _ _ _ _ _ hb' hp e4 hml).mono ?_
    rintro e w1 ⟨rfl,rfl⟩
    clear hb hb' e4 hml hp HE
    go_wp2
    go_ret
    exact ⟨rfl,rfl⟩
  ·have hkl:k=n:=by omega
   subst hkl
   have:=HS.out
   omega
theorem infoItemS:(Tryz.prog.info? 88).map (fun i=>(i.zero,i.size,i.bytes))=some (some (.slice none 0 0),1,24):=by kernel_rfl
theorem run_make_ItemS (n:Nat) (hn:n<=1048576) (w:World):
  (Instr.makeSlice 26 (.int .i64 (n:Int)) (.int .i64 (n:Int))).run Tryz.prog w=.ok (.slice (some ⟨w.heap.size,0,none⟩) n n) (w.alloc (.cells (madeCells #[.slice none 0 0] n) 88)):=by
 have hinfo:=infoItemS
 cases hi:Tryz.prog.info? 88 with
 | none=>rw [hi] at hinfo;cases hinfo
 | some i=>
  rw [hi] at hinfo
  simp only [Option.map_some,Option.some.injEq,Prod.mk.injEq] at hinfo
  obtain ⟨hz,hs,hb⟩:=hinfo
  have h:=run_make (P:=Tryz.prog) w 26 88 i _ Tryz.underlying26 hi hz .i64 .i64 (n:Int) (n:Int) (by omega) (Int.le_refl _) (by rw [hb];omega) (by omega)
  rw [hs] at h
  simpa [Value.cells] using h
theorem madeItemS_row (w:World) (n:Nat):(w.alloc (.cells (madeCells #[.slice none 0 0] n) 88)).rowIs w.heap.size 88 n (fun _=>.slice none 0 0):=by
 refine ⟨_,blk_alloc_new _ _,size_madeCells _ _,fun i hi=>?_⟩
 simp only [madeCells]
 rw [Array.getElem?_map,Array.getElem?_range,if_pos hi]
 have:i % 1=0:=Nat.mod_one i
 exact congrArg some (by simp [this])
structure FillItem (w:World) (D k:Nat) (f:Nat->Value) (ls:Nat->Nat) (bs:Nat->Nat) (h:Nat->Nat->I2):Prop where
 cel:∀ i,i<k->f i=.slice (some ⟨bs i,0,none⟩) (ls i) (ls i)
 bd:∀ i,i<k->D<bs i/\bs i<w.heap.size
 row:∀ i,i<k->ItAt w (bs i) 0 (ls i) (h i)
 fr:∀ i,i<k->∀ j,w.frozen? ⟨bs i,j,none⟩=false
 up:∀ i j,i<j->j<k->bs i<bs j
theorem FillItem.step {w w1:World} {D k:Nat} {f:Nat->Value} {ls:Nat->Nat} {bs:Nat->Nat} {h:Nat->Nat->I2} (o:FillItem w D k f ls bs h) (hb:Below w.heap.size w w1) (hD:D<w.heap.size) (hz:w.heap.size<w1.heap.size) (hr:ItAt w1 w.heap.size 0 (ls k) (h k)) (hf:∀ j,w1.frozen? ⟨w.heap.size,j,none⟩=false) (u:Value):
  FillItem (w1.setCell ⟨D,k,none⟩ u) D (k+1) (fun i=>if i=k then .slice (some ⟨w.heap.size,0,none⟩) (ls k) (ls k) else f i) ls (fun i=>if i=k then w.heap.size else bs i) h:=by
 have hs:∀ b,b≠D->(w1.setCell ⟨D,k,none⟩ u).heap[b]? = w1.heap[b]?:=fun b hne=>zQ _ _ _ _ hne
 have hat:∀ b n g,b≠D->ItAt w1 b 0 n g->ItAt (w1.setCell ⟨D,k,none⟩ u) b 0 n g:=fun b n g hne hg=>fun i hi=>by
  have hc:∀ j,(w1.setCell ⟨D,k,none⟩ u).cell? ⟨b,j,none⟩=w1.cell? ⟨b,j,none⟩:=fun j=>zI (hs b hne)
  have:=hg i hi
  simp only [hc]
  exact this
 refine ⟨fun i hi=>?_,fun i hi=>?_,fun i hi=>?_,fun i hi j=>?_,fun i j hij hj=>?_⟩
 ·by_cases e:i=k
  ·subst e;simp
  ·simp only [if_neg e];exact o.cel i (by omega)
 ·by_cases e:i=k
  ·subst e;simp;omega
  ·simp only [if_neg e,World.size_setCell];have:=o.bd i (by omega);omega
 ·by_cases e:i=k
  ·subst e;simp only [if_true];exact hat _ _ _ (by omega) hr
  ·simp only [if_neg e];have hbd:=o.bd i (by omega);exact hat _ _ _ (by omega) ((o.row i (by omega)).below hb hbd.2)
 ·by_cases e:i=k
  ·subst e;simp only [if_true];rw [World.frozen?_setCell];exact hf j
  ·simp only [if_neg e];rw [World.frozen?_setCell];have hbd:=o.bd i (by omega);exact (hb.frozen (p:=⟨bs i,j,none⟩) hbd.2).trans (o.fr i (by omega) j)
 ·by_cases e:j=k
  ·have hi:i≠k:=by omega
   simp only [if_neg hi,if_pos e]
   exact (o.bd i (by omega)).2
  ·have hi:i≠k:=by omega
   simp only [if_neg hi,if_neg e]
   exact o.up i j hij (by omega)
structure AllItem (W:World) (a0:Option Addr) (n:Nat) (aa:Nat->Option Addr) (ls cs:Nat->Nat) (h:Nat->Nat->I2):Prop where
 row:RowS W a0 n fun i=>.slice (aa i) (ls i) (cs i)
 cop:∀ i,i<n->CopiesT W (aa i) (ls i) (cs i) (h i)
theorem toItemSS_any (a0:Option Addr) (n cap:Nat) (aa:Nat->Option Addr) (ls cs:Nat->Nat) (h:Nat->Nat->I2) (W w:World) (hn:n<=1048576) (hA:AllItem W a0 n aa ls cs h) (hW:Below W.heap.size W w):
  Calls Tryz.prog 65 #[.slice a0 n cap] w fun e w'=>e=.returned (.slice (some ⟨w.heap.size,0,none⟩) n n)/\(∃ bs,OutItem w' w.heap.size w'.heap.size n ls bs h)/\Below w.heap.size w w':=by
 have hl':(n:Int)<=1048576:=by omega
 have hmk:=run_make_ItemS n hn
 have HA:Hid (AllItem W a0 n aa ls cs h):=hA
 have HW:Hid (Below W.heap.size W w):=hW
 clear hA hW
 go_enter Tryz.func65,Tryz.ntmps65
 go_wp2_with fail
 clear hmk
 go_loopw [4] (fun i wr=>∃ k:Nat,k<=n/\i=.int .i64 k/\(∃ f,wr.rowIs w.heap.size 88 n f/\Hid (∃ bs,FillItem wr w.heap.size k f ls bs h))/\Below w.heap.size w wr) (fun i _=>n - (intOf i).toNat)
 case atStart=>exact ⟨0,Nat.zero_le _,rfl,⟨_,madeItemS_row w n,fun _=>0,fun i hi=>by omega,fun i hi=>by omega,fun i hi=>by omega,fun i hi=>by omega,fun i j hij hj=>by omega⟩,(Below.refl _ _).alloc (Nat.le_refl _) _⟩
 case round=>
  obtain ⟨k,hk,rfl,⟨f,hrow,HF⟩,hbw⟩:=hrel
  have hs:=hrow.lt
  by_cases hlt:k<n
  ·have hlt':(k:Int)<(n:Int):=by omega
   have HB:Hid (Below W.heap.size W wr):=HW.out.trans (hbw.mono HW.out.size)
   obtain ⟨b,off,rfl,ck⟩:=(HA.out.row.below HB.out).at hlt
   have HR:Hid (wr.rowIs w.heap.size 88 n f):=hrow
   clear hrow
   go_wp2_with fail
   refine (HA.out.cop k hlt wr HB.out).mono ?_
   rintro e w1 ⟨rfl,hi1,hz1,hb1,hf1⟩
   have hr1:w1.rowIs w.heap.size 88 n f:=HR.out.of_block (hb1.block _ hs)
   have f0:=hr1.frozen k
   have g0:=hr1.cell (i:=k) hlt
   have HR1:Hid (w1.rowIs w.heap.size 88 n f):=hr1
   have HF1:Hid (∃ bs,FillItem (w1.setCell ⟨w.heap.size,k,none⟩ (.slice (some ⟨wr.heap.size,0,none⟩) (ls k) (ls k))) w.heap.size (k+1) (fun i=>if i=k then .slice (some ⟨wr.heap.size,0,none⟩) (ls k) (ls k) else f i) ls bs h):=by
    obtain ⟨bs,o⟩:=HF.out
    exact ⟨_,o.step hb1 hs hz1 hi1 hf1 _⟩
   clear hr1 hi1 HF HR hf1
   go_wp2_with fail
   exact ⟨⟨k+1,by omega,by go_num,⟨_,HR1.out.set _ _,HF1.out⟩,(hbw.trans (hb1.mono (Nat.le_of_lt hs))).setCell (Nat.le_refl _) _⟩,by simp [intOf];omega⟩
  ·have hkl:k=n:=by omega
   have HO:Hid (∃ bs,OutItem wr w.heap.size wr.heap.size n ls bs h):=by
    obtain ⟨bs,o⟩:=HF.out
    rw [hkl] at o
    exact ⟨bs,fun i hi=>by rw [hrow.cell hi,o.cel i hi],o.bd,o.row,o.fr,o.up,Nat.le_refl _,hs⟩
   clear hkl HF hrow
   go_wp2
   go_ret
   exact ⟨rfl,HO.out,hbw⟩
theorem eqItemSS_same (D1 h1 D2 h2 n c1 c2:Nat) (ls b1 b2:Nat->Nat) (h:Nat->Nat->I2) (w:World) (hn:n<=1048576) (hl:∀ i,i<n->ls i<=1048576) (o1:OutItem w D1 h1 n ls b1 h) (o2:OutItem w D2 h2 n ls b2 h):
  Calls Tryz.prog 70 #[.slice (some ⟨D1,0,none⟩) n c1,.slice (some ⟨D2,0,none⟩) n c2] w fun e w'=>e=.returned (.bool true)/\Below w.heap.size w w':=by
 have hl':(n:Int)<=1048576:=by omega
 have O1:Hid (OutItem w D1 h1 n ls b1 h):=o1
 have O2:Hid (OutItem w D2 h2 n ls b2 h):=o2
 have HL:Hid (∀ i,i<n->ls i<=1048576):=hl
 clear o1 o2 hl
 go_enter Tryz.func70,Tryz.ntmps70
 go_wp2_with fail
 go_loopw [5] (fun i wr=>∃ k:Nat,k<=n/\i=.int .i64 k/\Below w.heap.size w wr) (fun i _=>n - (intOf i).toNat)
 case atStart=>exact ⟨0,Nat.zero_le _,rfl,Below.refl _ _⟩
 case round=>
  obtain ⟨k,hk,rfl,hbw⟩:=hrel
  have hs:=hbw.size
  by_cases hlt:k<n
  ·have P1:Hid (OutItem wr D1 h1 n ls b1 h):=O1.out.below hbw O1.out.le
   have P2:Hid (OutItem wr D2 h2 n ls b2 h):=O2.out.below hbw O2.out.le
   have ck:=P1.out.cel k hlt
   have dk:=P2.out.cel k hlt
   have hlt':(k:Int)<(n:Int):=by omega
   go_wp2_with fail
   first|(go_region_with (go_at_call 120;refine (eqItemS_same (b1 k) (b2 k) (ls k) (ls k) (ls k) (h k) wr.drew (HL.out k hlt) (zP (P1.out.bd k hlt).2 P1.out.le) (zP (P2.out.bd k hlt).2 P2.out.le) (P1.out.row k hlt) (P2.out.row k hlt)).mono ?_;rintro e w1 ⟨rfl,hq1⟩)) | fail
   all_goals
    go_wp2
    go_roundw
    case rel=>exact ⟨k+1,by omega,by go_num,hbw.drew.trans (hq1.mono hs)⟩
    case measure=>simp [intOf];omega
  ·go_wp2
   go_ret
   exact ⟨rfl,hbw⟩
theorem markItemSS_any (D hi n cap:Nat) (ls bs:Nat->Nat) (h:Nat->Nat->I2) (k:Int) (w:World) (hn:n<=1048576) (hl:sumL ls n<=1048576) (k0:0<=k) (k1:k<=50000000) (o:OutItem w D hi n ls bs h):
  Calls Tryz.prog 82 #[.slice (some ⟨D,0,none⟩) n cap,.int .i64 k] w fun e w'=>e=.returned (.int .i64 (k+2*(sumL ls n:Nat)))/\Touch (fun b=>D<b/\b<hi) w w':=by
 have hl':(n:Int)<=1048576:=by omega
 have O:Hid (OutItem w D hi n ls bs h):=o
 have HL:Hid (sumL ls n<=1048576):=hl
 clear o hl
 go_enter Tryz.func82,Tryz.ntmps82
 go_wp2_with fail
 go_loopw [1,5] (fun q i wr=>∃ j:Nat,j<=n/\i=.int .i64 j/\q=.int .i64 (k+2*(sumL ls j:Nat))/\Hid (Touch (fun b=>∃ t,t<j/\b=bs t) w wr)) (fun _ i _=>n - (intOf i).toNat)
 case atStart=>exact ⟨0,Nat.zero_le _,rfl,by simp [sumL],Touch.refl _ _⟩
 case round=>
  obtain ⟨j,hj,rfl,rfl,HT⟩:=hrel
  by_cases hlt:j<n
  ·have hlt':(j:Int)<(n:Int):=by omega
   have dD:¬ ∃ t,t<j/\D=bs t:=by
    rintro ⟨t,ht,e⟩
    have:=(O.out.bd t (by omega)).1
    omega
   have dJ:¬ ∃ t,t<j/\bs j=bs t:=by
    rintro ⟨t,ht,e⟩
    have:=O.out.up t j ht hlt
    omega
   have bJ:=O.out.bd j hlt
   have le:=O.out.le
   have ck:wr.cell? ⟨D,j,none⟩=some (.slice (some ⟨bs j,0,none⟩) (ls j) (ls j)):=(HT.out.cell (zP O.out.lt le) dD j).trans (O.out.cel j hlt)
   have RM:Hid (RoomT wr (bs j) (ls j)):=by
    have hb:wr.heap[bs j]? = w.heap[bs j]?:=HT.out.block (bs j) (by omega) dJ
    have hrm:RoomT w (bs j) (ls j):=RoomT.of_it (O.out.row j hlt) (O.out.fr j hlt)
    exact ⟨fun i hi=>(hrm.1 i hi).elim fun u e=>⟨u,(zI hb).trans e⟩,fun i=>(zJ hb).trans (hrm.2 i)⟩
   have hsl:=sumL_at ls hlt
   have hS:=HL.out
   have e1:k+2*(sumL ls j:Nat)+2*(ls j:Int)=k+2*(sumL ls (j+1):Nat):=by simp only [sumL];omega
   have HE:Hid (k+2*(sumL ls j:Nat)+2*(ls j:Int)=k+2*(sumL ls (j+1):Nat)):=e1
   have e2:0<=k+2*(sumL ls j:Nat):=by omega
   have e3:k+2*(sumL ls j:Nat)<=100000000:=by omega
   have e4:ls j<=1048576:=by omega
   clear dD bJ le e1 hS hsl
   go_wp2_with fail
   refine (markItemS_any (bs j) (ls j) (ls j) _ wr e4 e2 e3 RM.out).mono ?_
   rintro e w1 ⟨rfl,g1⟩
   rw [HE.out]
   have HT1:Hid (Touch (fun b=>∃ t,t<j+1/\b=bs t) w w1):=(HT.out.mono fun b ⟨t,ht,e⟩=>⟨t,by omega,e⟩).trans (Touch.of_grown g1 fun b e=>⟨j,by omega,by simpa using e.symm⟩)
   clear HT dJ RM e2 e3 e4 g1
   go_wp2
   go_roundw
   case rel=>exact ⟨j+1,by omega,by go_num,rfl,HT1.out⟩
   case measure=>simp [intOf];omega
  ·have hkl:j=n:=by omega
   subst hkl
   have HT1:Hid (Touch (fun b=>D<b/\b<hi) w wr):=HT.out.mono fun b ⟨t,ht,e⟩=>by
    subst e
    exact O.out.bd t ht
   clear HT
   go_wp2
   go_ret
   exact ⟨rfl,HT1.out⟩
theorem open_ItemSS {H:Type} {enc:TypeId × Value->H} {w:World} {spare:Nat->Bool} {held:Bool} {base:Nat} {a0:Option Addr} {len cap:Nat} {d:DataW H} {p:List MemPlace}
  (h:DataW.Trod enc Tryz.prog w base spare held 40 (.slice a0 len cap) d p):
  len<=maxLen/\∃ aa ls cs,RowS w a0 len (fun i=>.slice (aa i) (ls i) (cs i))/\(∀ i,i<len->ls i<=maxLen)/\((∀ i,i<len->ls i<=1048576)->∃ hh,AllItem w a0 len aa ls cs hh):=by
 obtain ⟨hm,f,hrow,hf⟩:=open_rows Tryz.underlying40 (el:=153) (by kernel_rfl) h
 refine ⟨hm,?_⟩
 have hpart:∀ i,i<len->∃ x:Option Addr × Nat × Nat,f i=.slice x.1 x.2.1 x.2.2/\x.2.1<=maxLen/\(x.2.1<=1048576->∃ g,CopiesT w x.1 x.2.1 x.2.2 g):=by
  intro i hi
  obtain ⟨m,x,hx⟩:=hf i hi
  have hsl:∃ a l c,f i=.slice a l c:=by
   rcases Go.Deep.open_slice Tryz.underlying153 hx with ⟨hcs,_⟩ | ⟨a,len',cap',m,n,D,Pl,hcs,_⟩
   ·simp at hcs
    exact ⟨_,_,_,hcs⟩
   ·simp at hcs
    exact ⟨_,_,_,hcs⟩
  obtain ⟨a,l,c,e⟩:=hsl
  rw [e] at hx
  obtain ⟨h1,h2⟩:=open_itRow (d:=x.1) (p:=x.2) (a0:=a) (len:=l) (cap:=c) ⟨m,by simpa [Value.cells] using hx⟩
  exact ⟨(a,l,c),e,h1,fun hs=>copiesT_of hs h2⟩
 obtain ⟨g,hg⟩:=Go.Deep.choose_lt (α:=Option Addr × Nat × Nat) hpart
 refine ⟨fun i=>(g i).1,fun i=>(g i).2.1,fun i=>(g i).2.2,?_,fun i hi=>(hg i hi).2.1,fun hs=>?_⟩
 ·rcases hrow with h0 | ⟨b,off,e,hlt,hc⟩
  ·exact .inl h0
  ·exact .inr ⟨b,off,e,hlt,fun i hi=>(hc i hi).trans (by rw [(hg i hi).1])⟩
 ·have hq:∀ i,i<len->∃ q:Nat->I2,CopiesT w (g i).1 (g i).2.1 (g i).2.2 q:=fun i hi=>(hg i hi).2.2 (hs i hi)
  have inh:Inhabited (Nat->I2):=⟨fun _=>⟨false,0⟩⟩
  obtain ⟨hh,hhh⟩:=Go.Deep.choose_lt (α:=Nat->I2) hq
  refine ⟨hh,?_,hhh⟩
  rcases hrow with h0 | ⟨b,off,e,hlt,hc⟩
  ·exact .inl h0
  ·exact .inr ⟨b,off,e,hlt,fun i hi=>(hc i hi).trans (by rw [(hg i hi).1])⟩
theorem open_stateCells {H:Type} {enc:TypeId × Value->H} {w:World} {base fuel:Nat} {held:Bool} {c0 c1 c2 c3:Value} {x:DataW H × List MemPlace}
  (hf':DataW.trod enc Tryz.prog w base (fun _=>true) held fuel 151 [c0,c1,c2,c3]=some x):
  ∃ q:St8,(c0=.int .i64 q.p/\c1=.slice q.ra q.rs.length q.rc/\c2=.slice q.oa q.os.length q.oc/\c3=.int .i64 q.c)/\(q.rs.length<=maxLen/\q.os.length<=maxLen)/\Sl w q.ra q.rs/\Sl w q.oa q.os:=by
 obtain ⟨xs,m,-,-,-,hl,hx⟩:=DataW.trod_struct Tryz.underlying151 hf'
 have hl:xs.length=4:=hl
 have q0:DataW.trod enc Tryz.prog w base (fun _=>true) held m 3 [c0]=xs[0]?:=by simpa [cellsInt] using hx 0 _ rfl
 have q1:DataW.trod enc Tryz.prog w base (fun _=>true) held m 30 [c1]=xs[1]?:=by simpa [cellsInts] using hx 1 _ rfl
 have q2:DataW.trod enc Tryz.prog w base (fun _=>true) held m 30 [c2]=xs[2]?:=by simpa [cellsInts] using hx 2 _ rfl
 have q3:DataW.trod enc Tryz.prog w base (fun _=>true) held m 3 [c3]=xs[3]?:=by simpa [cellsInt] using hx 3 _ rfl
 rw [List.getElem?_eq_getElem (by omega)] at q0 q1 q2 q3
 obtain ⟨z0,e0,-,-⟩:=DataW.trod_int Tryz.underlying3 q0
 obtain ⟨z3,e3,-,-⟩:=DataW.trod_int Tryz.underlying3 q3
 obtain ⟨ra,rc,rs,rfl,hr,h1⟩:=open_intRow q1
 obtain ⟨oa,oc,os,rfl,ho,h2⟩:=open_intRow q2
 simp only [List.cons.injEq,and_true] at e0 e3
 subst e0 e3
 exact ⟨⟨z0,ra,rc,rs,oa,oc,os,z3⟩,⟨rfl,rfl,rfl,rfl⟩,⟨hr,ho⟩,h1,h2⟩
theorem open_StateS {H:Type} {enc:TypeId × Value->H} {w:World} {held:Bool} {base:Nat} {a0:Option Addr} {len cap:Nat} {d:DataW H} {p:List MemPlace}
  (h:DataW.Trod enc Tryz.prog w base (fun _=>true) held 39 (.slice a0 len cap) d p):
  len<=maxLen/\∃ q,AllState w a0 len q/\∀ i,i<len->(q i).rs.length<=maxLen/\(q i).os.length<=maxLen:=by
 obtain ⟨fuel,hf⟩:=h
 have inh:Inhabited St8:=⟨⟨0,none,0,[],none,0,[],0⟩⟩
 rcases Go.Deep.open_slice Tryz.underlying39 hf with ⟨hcs,_⟩ | ⟨a,len',cap',m,n,D,Pl,hcs,_,hl,hm,hmm,_,hx⟩
 ·simp [Value.cells] at hcs
  obtain ⟨_,rfl,_⟩:=hcs
  exact ⟨Nat.zero_le _,fun _=>default,⟨.inl rfl,fun i hi=>by omega⟩,fun i hi=>by omega⟩
 ·simp [Value.cells] at hcs
  obtain ⟨rfl,rfl,rfl⟩:=hcs
  refine ⟨zS hl hm,?_⟩
  have hle:len<=m:=by rw [hmm];split <;> omega
  rw [cellsLawState] at hx
  obtain ⟨b,off,spot⟩:=a
  have hcell:∀ i,i<len->∃ q:St8,(w.cell? (Addr.add (Addr.add ⟨b,off,spot⟩ (i*4)) 0)=some (.int .i64 q.p)/\w.cell? (Addr.add (Addr.add ⟨b,off,spot⟩ (i*4)) 1)=some (.slice q.ra q.rs.length q.rc)/\w.cell? (Addr.add (Addr.add ⟨b,off,spot⟩ (i*4)) 2)=some (.slice q.oa q.os.length q.oc)/\w.cell? (Addr.add (Addr.add ⟨b,off,spot⟩ (i*4)) 3)=some (.int .i64 q.c))/\(q.rs.length<=maxLen/\q.os.length<=maxLen)/\Sl w q.ra q.rs/\Sl w q.oa q.os:=by
   intro i hi
   obtain ⟨cs',h1,h2⟩:=hx i (by omega)
   obtain ⟨_,hlen,hc⟩:=World.cells?_some h1
   match cs',hlen with
   | [c0,c1,c2,c3],_=>
    obtain ⟨q,⟨rfl,rfl,rfl,rfl⟩,hb,hs⟩:=open_stateCells h2
    exact ⟨q,⟨hc 0 (by omega),hc 1 (by omega),hc 2 (by omega),hc 3 (by omega)⟩,hb,hs⟩
  obtain ⟨g,hg⟩:=Go.Deep.choose_lt (α:=St8) hcell
  refine ⟨g,⟨?_,fun i hi=>(hg i hi).2.2⟩,fun i hi=>(hg i hi).2.1⟩
  by_cases h0:len=0
  ·exact .inl h0
  have hspot:spot=none:=by
   have hx0:=(hg 0 (by omega)).1.1
   simpa [Addr.add] using World.cell?_spot hx0
  subst hspot
  have hI:∀ i,i<len->w.cell? ⟨b,off+i*4,none⟩=some (.int .i64 (g i).p)/\w.cell? ⟨b,off+i*4+1,none⟩=some (.slice (g i).ra (g i).rs.length (g i).rc)/\w.cell? ⟨b,off+i*4+2,none⟩=some (.slice (g i).oa (g i).os.length (g i).oc)/\w.cell? ⟨b,off+i*4+3,none⟩=some (.int .i64 (g i).c):=by
   intro i hi
   obtain ⟨⟨q0,q1,q2,q3⟩,-⟩:=hg i hi
   rw [addr_addO,addr_addO] at q0 q1 q2 q3
   exact ⟨q0,q1,q2,q3⟩
  exact .inr ⟨b,off,rfl,cell_lt (hI 0 (by omega)).1,hI⟩
structure SysIn where
 pa:Option Addr
 pn:Nat
 pc:Nat
 pA:Nat->Option Addr
 pL:Nat->Nat
 pC:Nat->Nat
 pH:Nat->Nat->I5
 sa:Option Addr
 sn:Nat
 sc:Nat
 sQ:Nat->St8
 wa:Option Addr
 wn:Nat
 wc:Nat
 wA:Nat->Option Addr
 wL:Nat->Nat
 wC:Nat->Nat
 wH:Nat->Nat->I2
 ha:Option Addr
 hn:Nat
 hc:Nat
 hA:Nat->Option Addr
 hL:Nat->Nat
 hC:Nat->Nat
 hH:Nat->Nat->E3
def SysIn.sS (x:SysIn):Nat->S4:=fun i=>(x.sQ i).s
def SysIn.size (x:SysIn):Nat:=x.pn+sumL x.pL x.pn+(x.sn+sumL (lenS x.sS) x.sn)+(x.wn+sumL x.wL x.wn)+(x.hn+sumL x.hL x.hn)
abbrev sysV (pa:Option Addr) (pn pc:Nat) (sa:Option Addr) (sn sc:Nat) (wa:Option Addr) (wn wc:Nat) (ha:Option Addr) (hn hc:Nat):Value:=.agg #[.slice pa pn pc,.slice sa sn sc,.slice wa wn wc,.slice ha hn hc]
structure SysIn.Row (W:World) (x:SysIn):Prop where
 p:RowS W x.pa x.pn fun i=>.slice (x.pA i) (x.pL i) (x.pC i)
 s:AllState W x.sa x.sn x.sQ
 w:RowS W x.wa x.wn fun i=>.slice (x.wA i) (x.wL i) (x.wC i)
 h:RowS W x.ha x.hn fun i=>.slice (x.hA i) (x.hL i) (x.hC i)
structure SysIn.Max (x:SysIn):Prop where
 p:x.pn<=maxLen/\∀ i,i<x.pn->x.pL i<=maxLen
 s:x.sn<=maxLen/\∀ i,i<x.sn->(x.sQ i).rs.length<=maxLen/\(x.sQ i).os.length<=maxLen
 w:x.wn<=maxLen/\∀ i,i<x.wn->x.wL i<=maxLen
 h:x.hn<=maxLen/\∀ i,i<x.hn->x.hL i<=maxLen
structure SysIn.Ok (W:World) (x:SysIn):Prop where
 p:AllIns W x.pa x.pn x.pA x.pL x.pC x.pH
 s:AllState W x.sa x.sn x.sQ
 w:AllItem W x.wa x.wn x.wA x.wL x.wC x.wH
 h:AllEvent W x.ha x.hn x.hA x.hL x.hC x.hH
theorem SysIn.Ok.row {W:World} {x:SysIn} (h:x.Ok W):x.Row W:=⟨h.p.row,h.s,h.w.row,h.h.row⟩
theorem SysIn.Row.below {W w:World} {x:SysIn} (h:x.Row W) (hb:Below W.heap.size W w):x.Row w:=⟨h.p.below hb,h.s.below hb,h.w.below hb,h.h.below hb⟩
theorem szSys_small (x:SysIn) (w:World) (hr:x.Row w) (h:x.size<=1048576):
  Calls Tryz.prog 20 #[sysV x.pa x.pn x.pc x.sa x.sn x.sc x.wa x.wn x.wc x.ha x.hn x.hc,.int .i64 1048576] w fun e w'=>e=.returned (.int .i64 (1048576 - (x.size:Nat)))/\Below w.heap.size w w':=by
 have HR:Hid (x.Row w):=hr
 have hh:x.size=x.pn+sumL x.pL x.pn+(x.sn+sumL (lenS x.sS) x.sn)+(x.wn+sumL x.wL x.wn)+(x.hn+sumL x.hL x.hn):=rfl
 generalize e1:(1048576:Int) - x.pn - (sumL x.pL x.pn:Nat)=L1
 generalize e2:L1 - x.sn - (sumL (lenS x.sS) x.sn:Nat)=L2
 generalize e3:L2 - x.wn - (sumL x.wL x.wn:Nat)=L3
 have n1:¬ L1<0:=by omega
 have n2:¬ L2<0:=by omega
 have n3:¬ L3<0:=by omega
 have n4:¬ L3 - x.hn - (sumL x.hL x.hn:Nat)<0:=by omega
 have q1:((x.pn:Int)+(sumL x.pL x.pn:Nat)<=1048576):=by omega
 have q2:((x.sn:Int)+(sumL (lenS x.sS) x.sn:Nat)<=L1)/\L1<=1048576:=by omega
 have q3:((x.wn:Int)+(sumL x.wL x.wn:Nat)<=L2)/\L2<=1048576:=by omega
 have q4:((x.hn:Int)+(sumL x.hL x.hn:Nat)<=L3)/\L3<=1048576:=by omega
 have e4:L3 - x.hn - (sumL x.hL x.hn:Nat)=1048576 - (x.size:Nat):=by omega
 have E1:Hid ((1048576:Int) - x.pn - (sumL x.pL x.pn:Nat)=L1):=e1
 have E2:Hid (L1 - x.sn - (sumL (lenS x.sS) x.sn:Nat)=L2):=e2
 have E3:Hid (L2 - x.wn - (sumL x.wL x.wn:Nat)=L3):=e3
 have E4:Hid (L3 - x.hn - (sumL x.hL x.hn:Nat)=1048576 - (x.size:Nat)):=e4
 have Q:Hid (((x.pn:Int)+(sumL x.pL x.pn:Nat)<=1048576)/\(((x.sn:Int)+(sumL (lenS x.sS) x.sn:Nat)<=L1)/\L1<=1048576)/\(((x.wn:Int)+(sumL x.wL x.wn:Nat)<=L2)/\L2<=1048576)/\(((x.hn:Int)+(sumL x.hL x.hn:Nat)<=L3)/\L3<=1048576)):=⟨q1,q2,q3,q4⟩
 rw [e4] at n4
 clear hr h hh e1 e2 e3 e4 q1 q2 q3 q4
 go_enter Tryz.func20,Tryz.ntmps20
 go_wp2_with fail
 refine (szInsSS_small _ _ _ _ x.pL _ _ _ (HR.out.p.below (by go_grown)) Q.out.1 (Int.le_refl _)).mono ?_
 rintro e w1 ⟨rfl,rfl⟩
 rw [E1.out]
 go_wp2_with fail
 refine (szStateS_small _ _ _ x.sQ _ _ (HR.out.s.below (by go_grown)) Q.out.2.1.1 Q.out.2.1.2).mono ?_
 rintro e w2 ⟨rfl,b2⟩
 rw [show ((sumL (lenS fun i=>(x.sQ i).s) x.sn:Nat):Int)=(sumL (lenS x.sS) x.sn:Nat) from rfl,E2.out]
 have B2:Hid (Below w.heap.size w w2):=below_up (by go_grown) b2 (by simp)
 have hw2:=b2.size
 obtain ⟨hc2,hf2⟩:=bcell b2
 clear b2
 go_wp2_with fail
 refine (szItemSS_small _ _ _ _ x.wL _ _ _ (HR.out.w.below B2.out) Q.out.2.2.1.1 Q.out.2.2.1.2).mono ?_
 rintro e w3 ⟨rfl,rfl⟩
 rw [E3.out]
 go_wp2_with fail
 refine (szEventSS_small _ _ _ _ x.hL _ _ _ (HR.out.h.below B2.out) Q.out.2.2.2.1 Q.out.2.2.2.2).mono ?_
 rintro e w4 ⟨rfl,rfl⟩
 rw [E4.out]
 go_wp2
 go_ret
 exact ⟨rfl,B2.out⟩
theorem szSys_great (x:SysIn) (w:World) (hr:x.Row w) (hm:x.Max) (h:1048576<x.size):
  Calls Tryz.prog 20 #[sysV x.pa x.pn x.pc x.sa x.sn x.sc x.wa x.wn x.wc x.ha x.hn x.hc,.int .i64 1048576] w fun e w'=>e=.returned (.int .i64 (-1))/\Below w.heap.size w w':=by
 have HR:Hid (x.Row w):=hr
 have HM:Hid x.Max:=hm
 have hh:x.size=x.pn+sumL x.pL x.pn+(x.sn+sumL (lenS x.sS) x.sn)+(x.wn+sumL x.wL x.wn)+(x.hn+sumL x.hL x.hn):=rfl
 have HH:Hid (1048576<x.pn+sumL x.pL x.pn+(x.sn+sumL (lenS x.sS) x.sn)+(x.wn+sumL x.wL x.wn)+(x.hn+sumL x.hL x.hn)):=hh ▸ h
 clear hr h hh hm
 by_cases q1:(x.pn:Int)+(sumL x.pL x.pn:Nat)<=1048576
 case neg=>
  have Q1:Hid (1048576<(x.pn:Int)+(sumL x.pL x.pn:Nat)):=by show 1048576<_;omega
  clear q1
  go_enter Tryz.func20,Tryz.ntmps20
  go_wp2_with fail
  refine (szInsSS_great _ _ _ _ x.pL _ _ _ (HR.out.p.below (by go_grown)) Q1.out (by omega) (Int.le_refl _) HM.out.p.1 HM.out.p.2).mono ?_
  rintro e w1 ⟨rfl,rfl⟩
  go_wp2
  go_ret
  exact ⟨rfl,by go_grown⟩
 generalize e1:(1048576:Int) - x.pn - (sumL x.pL x.pn:Nat)=L1
 have E1:Hid ((1048576:Int) - x.pn - (sumL x.pL x.pn:Nat)=L1):=e1
 have n1:¬ L1<0:=by omega
 have n1':0<=L1/\L1<=1048576:=by omega
 have N1:Hid (0<=L1/\L1<=1048576):=n1'
 have Q1:Hid ((x.pn:Int)+(sumL x.pL x.pn:Nat)<=1048576):=q1
 by_cases q2:(x.sn:Int)+(sumL (lenS x.sS) x.sn:Nat)<=L1
 case neg=>
  have Q2:Hid (L1<(x.sn:Int)+(sumL (lenS x.sS) x.sn:Nat)):=by show L1<_;omega
  clear q1 q2 e1 n1'
  go_enter Tryz.func20,Tryz.ntmps20
  go_wp2_with fail
  refine (szInsSS_small _ _ _ _ x.pL _ _ _ (HR.out.p.below (by go_grown)) Q1.out (Int.le_refl _)).mono ?_
  rintro e w1 ⟨rfl,rfl⟩
  rw [E1.out]
  go_wp2_with fail
  refine (szStateS_great _ _ _ x.sQ _ _ (HR.out.s.below (by go_grown)) Q2.out N1.out.1 N1.out.2 HM.out.s.1 HM.out.s.2).mono ?_
  rintro e w2 ⟨rfl,b2⟩
  have B2:Hid (Below w.heap.size w w2):=below_up (by go_grown) b2 (by simp)
  go_wp2
  go_ret
  exact ⟨rfl,B2.out⟩
 generalize e2:L1 - x.sn - (sumL (lenS x.sS) x.sn:Nat)=L2
 have E2:Hid (L1 - x.sn - (sumL (lenS x.sS) x.sn:Nat)=L2):=e2
 have n2:¬ L2<0:=by omega
 have n2':0<=L2/\L2<=1048576:=by omega
 have N2:Hid (0<=L2/\L2<=1048576):=n2'
 have Q2:Hid ((x.sn:Int)+(sumL (lenS x.sS) x.sn:Nat)<=L1):=q2
 by_cases q3:(x.wn:Int)+(sumL x.wL x.wn:Nat)<=L2
 case neg=>
  have Q3:Hid (L2<(x.wn:Int)+(sumL x.wL x.wn:Nat)):=by show L2<_;omega
  clear q1 q2 q3 e1 e2 n1' n2'
  go_enter Tryz.func20,Tryz.ntmps20
  go_wp2_with fail
  refine (szInsSS_small _ _ _ _ x.pL _ _ _ (HR.out.p.below (by go_grown)) Q1.out (Int.le_refl _)).mono ?_
  rintro e w1 ⟨rfl,rfl⟩
  rw [E1.out]
  go_wp2_with fail
  refine (szStateS_small _ _ _ x.sQ _ _ (HR.out.s.below (by go_grown)) Q2.out N1.out.2).mono ?_
  rintro e w2 ⟨rfl,b2⟩
  rw [show ((sumL (lenS fun i=>(x.sQ i).s) x.sn:Nat):Int)=(sumL (lenS x.sS) x.sn:Nat) from rfl,E2.out]
  have B2:Hid (Below w.heap.size w w2):=below_up (by go_grown) b2 (by simp)
  have hw2:=b2.size
  obtain ⟨hc2,hf2⟩:=bcell b2
  clear b2
  go_wp2_with fail
  refine (szItemSS_great _ _ _ _ x.wL _ _ _ (HR.out.w.below B2.out) Q3.out N2.out.1 N2.out.2 HM.out.w.1 HM.out.w.2).mono ?_
  rintro e w3 ⟨rfl,rfl⟩
  go_wp2
  go_ret
  exact ⟨rfl,B2.out⟩
 generalize e3:L2 - x.wn - (sumL x.wL x.wn:Nat)=L3
 have E3:Hid (L2 - x.wn - (sumL x.wL x.wn:Nat)=L3):=e3
 have n3:¬ L3<0:=by omega
 have n3':0<=L3/\L3<=1048576:=by omega
 have N3:Hid (0<=L3/\L3<=1048576):=n3'
 have Q3:Hid ((x.wn:Int)+(sumL x.wL x.wn:Nat)<=L2):=q3
 have Q4:Hid (L3<(x.hn:Int)+(sumL x.hL x.hn:Nat)):=by
  show L3<_
  have:=HH.out
  omega
 clear q1 q2 q3 e1 e2 e3 n1' n2' n3' HH
 go_enter Tryz.func20,Tryz.ntmps20
 go_wp2_with fail
 refine (szInsSS_small _ _ _ _ x.pL _ _ _ (HR.out.p.below (by go_grown)) Q1.out (Int.le_refl _)).mono ?_
 rintro e w1 ⟨rfl,rfl⟩
 rw [E1.out]
 go_wp2_with fail
 refine (szStateS_small _ _ _ x.sQ _ _ (HR.out.s.below (by go_grown)) Q2.out N1.out.2).mono ?_
 rintro e w2 ⟨rfl,b2⟩
 rw [show ((sumL (lenS fun i=>(x.sQ i).s) x.sn:Nat):Int)=(sumL (lenS x.sS) x.sn:Nat) from rfl,E2.out]
 have B2:Hid (Below w.heap.size w w2):=below_up (by go_grown) b2 (by simp)
 have hw2:=b2.size
 obtain ⟨hc2,hf2⟩:=bcell b2
 clear b2
 go_wp2_with fail
 refine (szItemSS_small _ _ _ _ x.wL _ _ _ (HR.out.w.below B2.out) Q3.out N2.out.2).mono ?_
 rintro e w3 ⟨rfl,rfl⟩
 rw [E3.out]
 go_wp2_with fail
 refine (szEventSS_great _ _ _ _ x.hL _ _ _ (HR.out.h.below B2.out) Q4.out N3.out.1 N3.out.2 HM.out.h.1 HM.out.h.2).mono ?_
 rintro e w4 ⟨rfl,rfl⟩
 go_wp2
 go_ret
 exact ⟨rfl,B2.out⟩
structure OutSys (w:World) (lo hi:Nat) (x:SysIn) (v:Value) (D1 D2 D3 D4:Nat) (b1:Nat->Nat) (vs:Nat->Value) (b3 b4:Nat->Nat) (h1 h2 h3:Nat):Prop where
 val:v=sysV (some ⟨D1,0,none⟩) x.pn x.pn (some ⟨D2,0,none⟩) x.sn x.sn (some ⟨D3,0,none⟩) x.wn x.wn (some ⟨D4,0,none⟩) x.hn x.hn
 pp:OutIns w D1 h1 x.pn x.pL b1 x.pH
 ss:OutState w D2 h2 x.sn x.sS vs
 ww:OutItem w D3 h3 x.wn x.wL b3 x.wH
 hh:OutEvent w D4 hi x.hn x.hL b4 x.hH
 lo:lo<=D1
 o1:h1<=D2
 o2:h2<=D3
 o3:h3<=D4
def IsSys (w:World) (lo hi:Nat) (x:SysIn) (v:Value):Prop:=∃ D1 D2 D3 D4 b1 vs b3 b4 h1 h2 h3,OutSys w lo hi x v D1 D2 D3 D4 b1 vs b3 b4 h1 h2 h3
theorem OutSys.hi {w:World} {lo hi:Nat} {x:SysIn} {v:Value} {D1 D2 D3 D4:Nat} {b1:Nat->Nat} {vs:Nat->Value} {b3 b4:Nat->Nat} {h1 h2 h3:Nat} (o:OutSys w lo hi x v D1 D2 D3 D4 b1 vs b3 b4 h1 h2 h3):h1<=hi/\h2<=hi/\h3<=hi/\hi<=w.heap.size/\lo<hi:=by
 have:=o.pp.lt
 have:=o.ss.lt
 have:=o.ww.lt
 have:=o.hh.lt
 have:=o.lo
 have:=o.o1
 have:=o.o2
 have:=o.o3
 have:=o.hh.le
 omega
theorem IsSys.below {w w':World} {lo hi:Nat} {x:SysIn} {v:Value} {B:Nat} (o:IsSys w lo hi x v) (hb:Below B w w') (hB:hi<=B):IsSys w' lo hi x v:=by
 obtain ⟨D1,D2,D3,D4,b1,vs,b3,b4,h1,h2,h3,o⟩:=o
 obtain ⟨q1,q2,q3,-,-⟩:=o.hi
 exact ⟨D1,D2,D3,D4,b1,vs,b3,b4,h1,h2,h3,o.val,o.pp.below hb (by omega),o.ss.below hb (by omega),o.ww.below hb (by omega),o.hh.below hb hB,o.lo,o.o1,o.o2,o.o3⟩
theorem below_allocS (w:World) (o:Obj):Below w.heap.size w (w.alloc o):=(Below.refl _ _).alloc (Nat.le_refl _) _
theorem sum_le {n:Nat} {ls:Nat->Nat} {N:Nat} (h:sumL ls n<=N):∀ i,i<n->ls i<=N:=fun i hi=>by
 have:=sumL_at ls hi
 omega
theorem SysIn.lens {x:SysIn} (h:x.size<=1048576):(x.pn<=1048576/\sumL x.pL x.pn<=1048576)/\(x.sn<=1048576/\sumL (lenS x.sS) x.sn<=1048576)/\(x.wn<=1048576/\sumL x.wL x.wn<=1048576)/\(x.hn<=1048576/\sumL x.hL x.hn<=1048576):=by
 unfold SysIn.size at h
 omega
theorem SysIn.lensS {x:SysIn} (h:x.size<=1048576):∀ i,i<x.sn->(x.sQ i).rs.length<=1048576/\(x.sQ i).os.length<=1048576:=fun i hi=>by
 have:=sum_le (SysIn.lens h).2.1.2 i hi
 have e:lenS x.sS i=(x.sQ i).rs.length+(x.sQ i).os.length:=rfl
 omega
structure TB (w wx:World) (a0 a1 a2 a3 o0 o1 o2 o3:Value):Prop where
 p:BoxC wx w.heap.size a0 a1 a2 a3
 r:BoxC wx (w.heap.size+1) (.slice none 0 0) (.slice none 0 0) (.slice none 0 0) (.slice none 0 0)
 o:BoxC wx (w.heap.size+1+1) o0 o1 o2 o3
 fr:∀ j,wx.frozen? ⟨w.heap.size+1,j,none⟩=false
 fo:∀ j,wx.frozen? ⟨w.heap.size+1+1,j,none⟩=false
 be:Below w.heap.size w wx
 le:w.heap.size+3<=wx.heap.size
theorem TB.below {w wx w':World} {a0 a1 a2 a3 o0 o1 o2 o3:Value} (h:TB w wx a0 a1 a2 a3 o0 o1 o2 o3) (hb:Below wx.heap.size wx w'):TB w w' a0 a1 a2 a3 o0 o1 o2 o3:=
 ⟨h.p.below hb,h.r.below hb,h.o.below hb,fun j=>(hb.frozen (p:=⟨w.heap.size+1,j,none⟩) (by have:=h.le;show w.heap.size+1<_;omega)).trans (h.fr j),fun j=>(hb.frozen (p:=⟨w.heap.size+1+1,j,none⟩) (by have:=h.le;show w.heap.size+1+1<_;omega)).trans (h.fo j),h.be.trans (hb.mono h.be.size),zS h.le hb.size⟩
theorem TB.first {w:World} (a0 a1 a2 a3:Value) (t1 t2:TypeId):TB w (((w.alloc (.cells #[a0,a1,a2,a3] t1)).alloc (.cells #[.slice none 0 0,.slice none 0 0,.slice none 0 0,.slice none 0 0] t2)).alloc (.cells #[.slice none 0 0,.slice none 0 0,.slice none 0 0,.slice none 0 0] t2)) a0 a1 a2 a3 (.slice none 0 0) (.slice none 0 0) (.slice none 0 0) (.slice none 0 0):=by
 have hb1:=below_allocS (w.alloc (.cells #[a0,a1,a2,a3] t1)) (.cells #[.slice none 0 0,.slice none 0 0,.slice none 0 0,.slice none 0 0] t2)
 have hb2:=below_allocS ((w.alloc (.cells #[a0,a1,a2,a3] t1)).alloc (.cells #[.slice none 0 0,.slice none 0 0,.slice none 0 0,.slice none 0 0] t2)) (.cells #[.slice none 0 0,.slice none 0 0,.slice none 0 0,.slice none 0 0] t2)
 have n0:=BoxC.new w a0 a1 a2 a3 t1
 have n1:=BoxC.new (w.alloc (.cells #[a0,a1,a2,a3] t1)) (.slice none 0 0) (.slice none 0 0) (.slice none 0 0) (.slice none 0 0) t2
 have n2:=BoxC.new ((w.alloc (.cells #[a0,a1,a2,a3] t1)).alloc (.cells #[.slice none 0 0,.slice none 0 0,.slice none 0 0,.slice none 0 0] t2)) (.slice none 0 0) (.slice none 0 0) (.slice none 0 0) (.slice none 0 0) t2
 have f1:=fun j=>yD (w.alloc (.cells #[a0,a1,a2,a3] t1)) #[.slice none 0 0,.slice none 0 0,.slice none 0 0,.slice none 0 0] t2 j rfl
 have f2:=fun j=>yD ((w.alloc (.cells #[a0,a1,a2,a3] t1)).alloc (.cells #[.slice none 0 0,.slice none 0 0,.slice none 0 0,.slice none 0 0] t2)) #[.slice none 0 0,.slice none 0 0,.slice none 0 0,.slice none 0 0] t2 j rfl
 simp only [World.size_alloc] at n1 n2 f1 f2
 refine ⟨(n0.below hb1).below hb2,n1.below hb2,n2,fun j=>?_,f2,?_,by simp⟩
 ·exact (hb2.frozen (p:=⟨w.heap.size+1,j,none⟩) (by simp)).trans (f1 j)
 ·exact (((Below.refl _ _).alloc (Nat.le_refl _) _).alloc (by simp) _).alloc (by simp;omega) _
theorem BoxC.setO {w:World} {N M j:Nat} {p a b c u:Value} (h:BoxC w N p a b c) (hne:M≠N):BoxC (w.setCell ⟨M,j,none⟩ u) N p a b c:=by
 obtain ⟨h0,h1,h2,h3⟩:=h
 have hc:∀ i,(w.setCell ⟨M,j,none⟩ u).cell? ⟨N,i,none⟩=w.cell? ⟨N,i,none⟩:=fun i=>World.cell?_setCell_other _ _ _ _ fun e=>hne (by injection e)
 exact ⟨(hc _).trans h0,(hc _).trans h1,(hc _).trans h2,(hc _).trans h3⟩
theorem TB.set0 {w wx:World} {a0 a1 a2 a3 o0 o1 o2 o3:Value} (h:TB w wx a0 a1 a2 a3 o0 o1 o2 o3) (u:Value):TB w (wx.setCell ⟨w.heap.size+1+1,0,none⟩ u) a0 a1 a2 a3 u o1 o2 o3:=by
 obtain ⟨q0,q1,q2,q3⟩:=h.o
 have hc:∀ i,0≠i->(wx.setCell ⟨w.heap.size+1+1,0,none⟩ u).cell? ⟨w.heap.size+1+1,i,none⟩=wx.cell? ⟨w.heap.size+1+1,i,none⟩:=fun i hi=>World.cell?_setCell_other _ _ _ _ fun e=>hi (by injection e)
 exact ⟨h.p.setO (by omega),h.r.setO (by omega),⟨World.cell?_setCell_same _ _ _ q0,(hc _ (by omega)).trans q1,(hc _ (by omega)).trans q2,(hc _ (by omega)).trans q3⟩,fun j=>by rw [World.frozen?_setCell];exact h.fr j,fun j=>by rw [World.frozen?_setCell];exact h.fo j,h.be.setCell (by simp;omega) _,by simp;exact h.le⟩
theorem TB.set1 {w wx:World} {a0 a1 a2 a3 o0 o1 o2 o3:Value} (h:TB w wx a0 a1 a2 a3 o0 o1 o2 o3) (u:Value):TB w (wx.setCell ⟨w.heap.size+1+1,1,none⟩ u) a0 a1 a2 a3 o0 u o2 o3:=by
 obtain ⟨q0,q1,q2,q3⟩:=h.o
 have hc:∀ i,1≠i->(wx.setCell ⟨w.heap.size+1+1,1,none⟩ u).cell? ⟨w.heap.size+1+1,i,none⟩=wx.cell? ⟨w.heap.size+1+1,i,none⟩:=fun i hi=>World.cell?_setCell_other _ _ _ _ fun e=>hi (by injection e)
 exact ⟨h.p.setO (by omega),h.r.setO (by omega),⟨(hc _ (by omega)).trans q0,World.cell?_setCell_same _ _ _ q1,(hc _ (by omega)).trans q2,(hc _ (by omega)).trans q3⟩,fun j=>by rw [World.frozen?_setCell];exact h.fr j,fun j=>by rw [World.frozen?_setCell];exact h.fo j,h.be.setCell (by simp;omega) _,by simp;exact h.le⟩
theorem TB.set2 {w wx:World} {a0 a1 a2 a3 o0 o1 o2 o3:Value} (h:TB w wx a0 a1 a2 a3 o0 o1 o2 o3) (u:Value):TB w (wx.setCell ⟨w.heap.size+1+1,2,none⟩ u) a0 a1 a2 a3 o0 o1 u o3:=by
 obtain ⟨q0,q1,q2,q3⟩:=h.o
 have hc:∀ i,2≠i->(wx.setCell ⟨w.heap.size+1+1,2,none⟩ u).cell? ⟨w.heap.size+1+1,i,none⟩=wx.cell? ⟨w.heap.size+1+1,i,none⟩:=fun i hi=>World.cell?_setCell_other _ _ _ _ fun e=>hi (by injection e)
 exact ⟨h.p.setO (by omega),h.r.setO (by omega),⟨(hc _ (by omega)).trans q0,(hc _ (by omega)).trans q1,World.cell?_setCell_same _ _ _ q2,(hc _ (by omega)).trans q3⟩,fun j=>by rw [World.frozen?_setCell];exact h.fr j,fun j=>by rw [World.frozen?_setCell];exact h.fo j,h.be.setCell (by simp;omega) _,by simp;exact h.le⟩
theorem toSys_any (x:SysIn) (W w:World) (hs:x.size<=1048576) (hA:x.Ok W) (hW:Below W.heap.size W w):
  Calls Tryz.prog 22 #[sysV x.pa x.pn x.pc x.sa x.sn x.sc x.wa x.wn x.wc x.ha x.hn x.hc] w fun e w'=>∃ v,e=.returned v/\IsSys w' w.heap.size w'.heap.size x v/\Below w.heap.size w w':=by
 have HA:Hid (x.Ok W):=hA
 have HW:Hid (Below W.heap.size W w):=hW
 have HS:Hid (x.size<=1048576):=hs
 have HWs:Hid (W.heap.size<=w.heap.size):=hW.size
 clear hA hW hs
 go_enter Tryz.func22,Tryz.ntmps22
 have T0:Hid (TB w (((w.alloc (.cells #[.slice x.pa x.pn x.pc,.slice x.sa x.sn x.sc,.slice x.wa x.wn x.wc,.slice x.ha x.hn x.hc] 43)).alloc (zQ1)).alloc (zQ1)) (.slice x.pa x.pn x.pc) (.slice x.sa x.sn x.sc) (.slice x.wa x.wn x.wc) (.slice x.ha x.hn x.hc) (.slice none 0 0) (.slice none 0 0) (.slice none 0 0) (.slice none 0 0)):=TB.first _ _ _ _ _ _
 go_wp2_with fail
 generalize ((w.alloc (.cells #[.slice x.pa x.pn x.pc,.slice x.sa x.sn x.sc,.slice x.wa x.wn x.wc,.slice x.ha x.hn x.hc] 43)).alloc (zQ1)).alloc (zQ1)=wA at *
 refine (toInsSS_any _ _ _ _ x.pL _ x.pH W _ (SysIn.lens HS.out).1.1 HA.out.p (HW.out.trans (T0.out.be.mono HWs.out))).mono ?_
 rintro e w1 ⟨rfl,⟨bs1,o1⟩,b1⟩
 have T1:Hid (TB w w1 (.slice x.pa x.pn x.pc) (.slice x.sa x.sn x.sc) (.slice x.wa x.wn x.wc) (.slice x.ha x.hn x.hc) (.slice none 0 0) (.slice none 0 0) (.slice none 0 0) (.slice none 0 0)):=T0.out.below b1
 have O1:Hid (OutIns w1 wA.heap.size w1.heap.size x.pn x.pL bs1 x.pH):=o1
 have zA:w.heap.size+3<=wA.heap.size:=T0.out.le
 clear b1 T0 o1
 obtain ⟨⟨p0,p1,p2,p3⟩,-,⟨q0,q1,q2,q3⟩,-,fo,-,le⟩:=T1.out
 go_wp2_with fail
 have T2:Hid (TB w (w1.setCell ⟨w.heap.size+1+1,0,none⟩ (.slice (some ⟨wA.heap.size,0,none⟩) x.pn x.pn)) (.slice x.pa x.pn x.pc) (.slice x.sa x.sn x.sc) (.slice x.wa x.wn x.wc) (.slice x.ha x.hn x.hc) (.slice (some ⟨wA.heap.size,0,none⟩) x.pn x.pn) (.slice none 0 0) (.slice none 0 0) (.slice none 0 0)):=T1.out.set0 _
 have O2:Hid (OutIns (w1.setCell ⟨w.heap.size+1+1,0,none⟩ (.slice (some ⟨wA.heap.size,0,none⟩) x.pn x.pn)) wA.heap.size w1.heap.size x.pn x.pL bs1 x.pH):=O1.out.keep (by simp) fun k hk _=>zQ _ _ _ _ (by simp;omega)
 have h12:w1.heap.size=(w1.setCell ⟨w.heap.size+1+1,0,none⟩ (.slice (some ⟨wA.heap.size,0,none⟩) x.pn x.pn)).heap.size:=by simp
 have l1:wA.heap.size<w1.heap.size:=O1.out.lt
 clear O1 T1 p0 p1 p2 p3 q0 q1 q2 q3 fo le
 generalize w1.setCell ⟨w.heap.size+1+1,0,none⟩ (.slice (some ⟨wA.heap.size,0,none⟩) x.pn x.pn)=wB at *
 rw [h12] at O2 l1
 clear h12
 refine (toStateS_any _ _ _ x.sQ W wB (SysIn.lens HS.out).2.1.1 (SysIn.lensS HS.out) HA.out.s (HW.out.trans (T2.out.be.mono HWs.out))).mono ?_
 rintro e w2 ⟨rfl,⟨vs,o2⟩,b2⟩
 have T3:Hid (TB w w2 (.slice x.pa x.pn x.pc) (.slice x.sa x.sn x.sc) (.slice x.wa x.wn x.wc) (.slice x.ha x.hn x.hc) (.slice (some ⟨wA.heap.size,0,none⟩) x.pn x.pn) (.slice none 0 0) (.slice none 0 0) (.slice none 0 0)):=T2.out.below b2
 have P3:Hid (OutIns w2 wA.heap.size wB.heap.size x.pn x.pL bs1 x.pH):=O2.out.below b2 (Nat.le_refl _)
 have S3:Hid (OutState w2 wB.heap.size w2.heap.size x.sn x.sS vs):=o2
 clear b2 T2 o2 O2
 obtain ⟨⟨p0,p1,p2,p3⟩,-,⟨q0,q1,q2,q3⟩,-,fo,-,le⟩:=T3.out
 go_wp2_with fail
 have T4:Hid (TB w (w2.setCell ⟨w.heap.size+1+1,1,none⟩ (.slice (some ⟨wB.heap.size,0,none⟩) x.sn x.sn)) (.slice x.pa x.pn x.pc) (.slice x.sa x.sn x.sc) (.slice x.wa x.wn x.wc) (.slice x.ha x.hn x.hc) (.slice (some ⟨wA.heap.size,0,none⟩) x.pn x.pn) (.slice (some ⟨wB.heap.size,0,none⟩) x.sn x.sn) (.slice none 0 0) (.slice none 0 0)):=T3.out.set1 _
 have P4:Hid (OutIns (w2.setCell ⟨w.heap.size+1+1,1,none⟩ (.slice (some ⟨wB.heap.size,0,none⟩) x.sn x.sn)) wA.heap.size wB.heap.size x.pn x.pL bs1 x.pH):=P3.out.keep (by simp) fun k hk _=>zQ _ _ _ _ (by simp;omega)
 have S4':Hid (OutState (w2.setCell ⟨w.heap.size+1+1,1,none⟩ (.slice (some ⟨wB.heap.size,0,none⟩) x.sn x.sn)) wB.heap.size w2.heap.size x.sn x.sS vs):=S3.out.keep (by simp) fun k hk _=>zQ _ _ _ _ (by simp;omega)
 have h12:w2.heap.size=(w2.setCell ⟨w.heap.size+1+1,1,none⟩ (.slice (some ⟨wB.heap.size,0,none⟩) x.sn x.sn)).heap.size:=by simp
 have l2:wB.heap.size<w2.heap.size:=S3.out.lt
 clear P3 S3 T3 p0 p1 p2 p3 q0 q1 q2 q3 fo le
 generalize w2.setCell ⟨w.heap.size+1+1,1,none⟩ (.slice (some ⟨wB.heap.size,0,none⟩) x.sn x.sn)=wC at *
 rw [h12] at S4' l2
 clear h12
 refine (toItemSS_any _ _ _ _ x.wL _ x.wH W wC (SysIn.lens HS.out).2.2.1.1 HA.out.w (HW.out.trans (T4.out.be.mono HWs.out))).mono ?_
 rintro e w3 ⟨rfl,⟨bs3,o3⟩,b3⟩
 have T5:Hid (TB w w3 (.slice x.pa x.pn x.pc) (.slice x.sa x.sn x.sc) (.slice x.wa x.wn x.wc) (.slice x.ha x.hn x.hc) (.slice (some ⟨wA.heap.size,0,none⟩) x.pn x.pn) (.slice (some ⟨wB.heap.size,0,none⟩) x.sn x.sn) (.slice none 0 0) (.slice none 0 0)):=T4.out.below b3
 have P5:Hid (OutIns w3 wA.heap.size wB.heap.size x.pn x.pL bs1 x.pH):=P4.out.below b3 (by omega)
 have S5:Hid (OutState w3 wB.heap.size wC.heap.size x.sn x.sS vs):=S4'.out.below b3 (Nat.le_refl _)
 have W5:Hid (OutItem w3 wC.heap.size w3.heap.size x.wn x.wL bs3 x.wH):=o3
 clear b3 T4 o3 P4 S4'
 obtain ⟨⟨p0,p1,p2,p3⟩,-,⟨q0,q1,q2,q3⟩,-,fo,-,le⟩:=T5.out
 go_wp2_with fail
 have T6:Hid (TB w (w3.setCell ⟨w.heap.size+1+1,2,none⟩ (.slice (some ⟨wC.heap.size,0,none⟩) x.wn x.wn)) (.slice x.pa x.pn x.pc) (.slice x.sa x.sn x.sc) (.slice x.wa x.wn x.wc) (.slice x.ha x.hn x.hc) (.slice (some ⟨wA.heap.size,0,none⟩) x.pn x.pn) (.slice (some ⟨wB.heap.size,0,none⟩) x.sn x.sn) (.slice (some ⟨wC.heap.size,0,none⟩) x.wn x.wn) (.slice none 0 0)):=T5.out.set2 _
 have P6:Hid (OutIns (w3.setCell ⟨w.heap.size+1+1,2,none⟩ (.slice (some ⟨wC.heap.size,0,none⟩) x.wn x.wn)) wA.heap.size wB.heap.size x.pn x.pL bs1 x.pH):=P5.out.keep (by simp) fun k hk _=>zQ _ _ _ _ (by simp;omega)
 have S6:Hid (OutState (w3.setCell ⟨w.heap.size+1+1,2,none⟩ (.slice (some ⟨wC.heap.size,0,none⟩) x.wn x.wn)) wB.heap.size wC.heap.size x.sn x.sS vs):=S5.out.keep (by simp) fun k hk _=>zQ _ _ _ _ (by simp;omega)
 have W6:Hid (OutItem (w3.setCell ⟨w.heap.size+1+1,2,none⟩ (.slice (some ⟨wC.heap.size,0,none⟩) x.wn x.wn)) wC.heap.size w3.heap.size x.wn x.wL bs3 x.wH):=W5.out.keep (by simp) fun k hk _=>zQ _ _ _ _ (by simp;omega)
 have h12:w3.heap.size=(w3.setCell ⟨w.heap.size+1+1,2,none⟩ (.slice (some ⟨wC.heap.size,0,none⟩) x.wn x.wn)).heap.size:=by simp
 have l3:wC.heap.size<w3.heap.size:=W5.out.lt
 clear P5 S5 W5 T5 p0 p1 p2 p3 q0 q1 q2 q3 fo le
 generalize w3.setCell ⟨w.heap.size+1+1,2,none⟩ (.slice (some ⟨wC.heap.size,0,none⟩) x.wn x.wn)=wD at *
 rw [h12] at W6 l3
 clear h12
 refine (toEventSS_any _ _ _ _ x.hL _ x.hH W wD (SysIn.lens HS.out).2.2.2.1 HA.out.h (HW.out.trans (T6.out.be.mono HWs.out))).mono ?_
 rintro e w4 ⟨rfl,⟨bs4,o4⟩,b4⟩
 have T7:Hid (TB w w4 (.slice x.pa x.pn x.pc) (.slice x.sa x.sn x.sc) (.slice x.wa x.wn x.wc) (.slice x.ha x.hn x.hc) (.slice (some ⟨wA.heap.size,0,none⟩) x.pn x.pn) (.slice (some ⟨wB.heap.size,0,none⟩) x.sn x.sn) (.slice (some ⟨wC.heap.size,0,none⟩) x.wn x.wn) (.slice none 0 0)):=T6.out.below b4
 have HO:Hid (∀ W9:World,(∀ k,w.heap.size+3<=k->W9.heap[k]? = w4.heap[k]?)->W9.heap.size=w4.heap.size->IsSys W9 w.heap.size W9.heap.size x (sysV (some ⟨wA.heap.size,0,none⟩) x.pn x.pn (some ⟨wB.heap.size,0,none⟩) x.sn x.sn (some ⟨wC.heap.size,0,none⟩) x.wn x.wn (some ⟨wD.heap.size,0,none⟩) x.hn x.hn)):=by
  intro W9 hk hz
  have o4':OutEvent w4 wD.heap.size W9.heap.size x.hn x.hL bs4 x.hH:=hz ▸ o4
  exact ⟨_,_,_,_,bs1,vs,bs3,bs4,wB.heap.size,wC.heap.size,wD.heap.size,rfl,(P6.out.below b4 (by omega)).keep (by omega) fun k h1 _=>hk k (by omega),(S6.out.below b4 (by omega)).keep (by omega) fun k h1 _=>hk k (by omega),(W6.out.below b4 (Nat.le_refl _)).keep (by omega) fun k h1 _=>hk k (by omega),o4'.keep (by omega) fun k h1 _=>hk k (by omega),by omega,Nat.le_refl _,Nat.le_refl _,Nat.le_refl _⟩
 clear b4 T6 o4 P6 S6 W6
 obtain ⟨-,⟨r0,r1,r2,r3⟩,⟨q0,q1,q2,q3⟩,fr,fo,be,le⟩:=T7.out
 have BE:Hid (Below w.heap.size w w4):=be
 clear be T7
 go_wp2
 refine bodyPost_ret (v:=sysV (some ⟨wA.heap.size,0,none⟩) x.pn x.pn (some ⟨wB.heap.size,0,none⟩) x.sn x.sn (some ⟨wC.heap.size,0,none⟩) x.wn x.wn (some ⟨wD.heap.size,0,none⟩) x.hn x.hn) (by simp [results,Tryz.results22,go_sem,r0,r1,r2,r3]) rfl ⟨_,rfl,HO.out _ ?_ ?_,?_⟩
 ·intro k hk
  repeat (rw [zQ _ _ _ _ (by simp;omega)])
 ·simp
 ·have:=BE.out
  go_grown
