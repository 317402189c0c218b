import Derived.Test.YtchhijiibjijhaaGreatDoorYf13
import Derived.BigRegion
namespace Go.Proofs.YtchhijiibjijhaaGreatDoor
set_option maxRecDepth 100000
set_option maxHeartbeats 2000000
open Go.ChangeShapes Go.WideShapes Go.ChangeAt Go.RowKit Go.Deep
structure qa6 (w:World) (D hi n:Nat) (ls:Nat->Nat) (bs:Nat->Nat) (h:Nat->Nat->I2):Prop where
 cel:∀ i,i<n->w.cell? ⟨D,i,none⟩=some (.slice (some ⟨bs i,0,none⟩) (ls i) (ls i))
 bd:∀ i,i<n->D<bs i/\bs i<hi
 row:∀ i,i<n->ItAt w (bs i) 0 (ls i) (h i)
 fr:∀ i,i<n->∀ j,w.frozen? ⟨bs i,j,none⟩=false
 up:∀ i j,i<j->j<n->bs i<bs j
 le:hi<=w.heap.size
 lt:D<hi
theorem qa6.below {w w':World} {D hi n B:Nat} {ls:Nat->Nat} {bs:Nat->Nat} {h:Nat->Nat->I2} (o:qa6 w D hi n ls bs h) (hb:Below B w w') (hB:hi<=B):qa6 w' D hi n ls bs h:=
 ⟨fun i hi'=>(hb.cell (p:=⟨D,i,none⟩) (zL o.lt hB)).trans (o.cel i hi'),o.bd,fun i hi'=>(o.row i hi').below hb (zL (o.bd i hi').2 hB),fun i hi' j=>(hb.frozen (p:=⟨bs i,j,none⟩) (zL (o.bd i hi').2 hB)).trans (o.fr i hi' j),o.up,zP o.le hb.size,o.lt⟩
theorem qa6.keep {w w':World} {D hi n:Nat} {ls:Nat->Nat} {bs:Nat->Nat} {h:Nat->Nat->I2} (o:qa6 w D hi n ls bs h) (hs:w.heap.size<=w'.heap.size) (hb:∀ k,D<=k->k<hi->w'.heap[k]? = w.heap[k]?):qa6 w' D hi n ls bs h:=by
 refine ⟨fun i hi'=>(zH (hb D (Nat.le_refl _) o.lt)).trans (o.cel i hi'),o.bd,fun i hi'=>?_,fun i hi' j=>(zI (hb _ (Nat.le_of_lt (o.bd i hi').1) (o.bd i hi').2)).trans (o.fr i hi' j),o.up,zP o.le hs,o.lt⟩
 have hc:∀ j,w'.cell? ⟨bs i,j,none⟩=w.cell? ⟨bs i,j,none⟩:=fun j=>zH (hb _ (Nat.le_of_lt (o.bd i hi').1) (o.bd i hi').2)
 intro t ht
 have:=o.row i hi' t ht
 simp only [hc]
 exact this
theorem qfd (a0:Option Addr) (n cap:Nat) (aa:Nat->Option Addr) (ls cs:Nat->Nat) (L:Int) (w:World) (hr:RowS w a0 n fun i=>.slice (aa i) (ls i) (cs i)) (h:(n:Int)+(sumL ls n:Nat)<=L) (hL:L<=1048576):
  Calls Tryz.prog 39 #[.slice a0 n cap,.int .i64 L] w fun e w'=>e=.returned (.int .i64 (L - n - (sumL ls n:Nat)))/\w'=w:=by
 have hn:(n:Int)<=1048576:=by omega
 have h0:0<=L:=by omega
 have hn0:¬ (L - (n:Int)<0):=by omega
 have HR:Hid (RowS w a0 n fun i=>.slice (aa i) (ls i) (cs i)):=hr
 have HS:Hid ((n:Int)+(sumL ls n:Nat)<=L):=h
 clear hr h
 go_enter Tryz.func39,Tryz.ntmps39
 go_wp2_with fail
 go_loopw [1,5] (fun q i wr=>∃ k:Nat,k<=n/\i=.int .i64 k/\q=.int .i64 (L - n - (sumL ls k:Nat))/\wr=w) (fun _ i _=>n - (intOf i).toNat)
 case atStart=>exact ⟨0,Nat.zero_le _,rfl,by simp [sumL],rfl⟩
 case round=>
  obtain ⟨k,hk,rfl,rfl,rfl⟩:=hrel
  by_cases hlt:k<n
  ·have hlt':(k:Int)<(n:Int):=by omega
   obtain ⟨b,off,rfl,ck⟩:=HR.out.at hlt
   have hsl:=qby ls hlt
   have hS:=HS.out
   have e1:(L - n - (sumL ls k:Nat)) - (ls k:Int)=L - n - (sumL ls (k+1):Nat):=by simp only [sumL];omega
   have HE:Hid ((L - n - (sumL ls k:Nat)) - (ls k:Int)=L - n - (sumL ls (k+1):Nat)):=e1
   have e2:(ls k:Int)<=L - n - (sumL ls k:Nat):=by omega
   have e3:¬ (L - n - (sumL ls (k+1):Nat)<0):=by omega
   have e4:L - n - (sumL ls k:Nat)<=1048576:=by omega
   clear e1 hS hsl
   generalize hy:L - n - (sumL ls (k+1):Nat)=Y at *
   go_wp2_with fail
   refine (qgl _ _ _ _ _ e2 e4).mono ?_
   rintro e w1 ⟨rfl,rfl⟩
   rw [HE.out]
   clear e2 e4
   go_wp2
   go_roundw
   case rel=>exact ⟨k+1,by omega,by go_num,by rw [<- hy],by trivial⟩
   case measure=>simp [intOf];omega
  ·have hkl:k=n:=by omega
   subst hkl
   go_wp2
   go_ret
   exact ⟨rfl,rfl⟩
theorem qj2 (a0:Option Addr) (n cap:Nat) (aa:Nat->Option Addr) (ls cs:Nat->Nat) (L:Int) (w:World) (hr:RowS w a0 n fun i=>.slice (aa i) (ls i) (cs i)) (h:L<(n:Int)+(sumL ls n:Nat)) (h0:0<=L) (hL:L<=1048576) (hm:n<=maxLen) (hl:∀ i,i<n->ls i<=maxLen):
  Calls Tryz.prog 39 #[.slice a0 n cap,.int .i64 L] w fun e w'=>e=.returned (.int .i64 (-1))/\w'=w:=by
 have hm':(n:Int)<=9223372036854775807:=by unfold maxLen at hm;omega
 by_cases hn0:L - (n:Int)<0
 ·go_enter Tryz.func39,Tryz.ntmps39
  go_wp2
  go_ret
  exact ⟨rfl,rfl⟩
 have hn:(n:Int)<=1048576:=by omega
 have HR:Hid (RowS w a0 n fun i=>.slice (aa i) (ls i) (cs i)):=hr
 have HS:Hid (L<(n:Int)+(sumL ls n:Nat)):=h
 have HL:Hid (∀ i,i<n->ls i<=maxLen):=hl
 clear hr h hl hm
 go_enter Tryz.func39,Tryz.ntmps39
 go_wp2_with fail
 go_loopw [1,5] (fun q i wr=>∃ k:Nat,k<=n/\i=.int .i64 k/\q=.int .i64 (L - n - (sumL ls k:Nat))/\0<=L - n - (sumL ls k:Nat)/\wr=w) (fun _ i _=>n - (intOf i).toNat)
 case atStart=>exact ⟨0,Nat.zero_le _,rfl,by simp [sumL],by simp only [sumL];omega,rfl⟩
 case round=>
  obtain ⟨k,hk,rfl,rfl,hp,rfl⟩:=hrel
  by_cases hlt:k<n
  ·have hlt':(k:Int)<(n:Int):=by omega
   obtain ⟨b,off,rfl,ck⟩:=HR.out.at hlt
   have hml:=HL.out k hlt
   have e1:(L - n - (sumL ls k:Nat)) - (ls k:Int)=L - n - (sumL ls (k+1):Nat):=by simp only [sumL];omega
   have HE:Hid ((L - n - (sumL ls k:Nat)) - (ls k:Int)=L - n - (sumL ls (k+1):Nat)):=e1
   have e4:L - n - (sumL ls k:Nat)<=1048576:=by omega
   clear e1
   by_cases hb:(ls k:Int)<=L - n - (sumL ls k:Nat)
   ·have e3:0<=L - n - (sumL ls (k+1):Nat):=by have:=HE.out;omega
    have e3':¬ (L - n - (sumL ls (k+1):Nat)<0):=by omega
    generalize hy:L - n - (sumL ls (k+1):Nat)=Y at *
    go_wp2_with fail
    refine (qgl _ _ _ _ _ hb e4).mono ?_
    rintro e w1 ⟨rfl,rfl⟩
    rw [HE.out]
    clear hb e4 hml hp
    go_wp2
    go_roundw
    case rel=>exact ⟨k+1,by omega,by go_num,by rw [<- hy],by omega,by trivial⟩
    case measure=>simp [intOf];omega
   ·have hb':L - n - (sumL ls k:Nat)<(ls k:Int):=by omega
    go_wp2_with fail
    refine (ql3 _ _ _ _ _ hb' hp e4 hml).mono ?_
    rintro e w1 ⟨rfl,rfl⟩
    clear hb hb' e4 hml hp HE
    go_wp2
    go_ret
    exact ⟨rfl,rfl⟩
  ·have hkl:k=n:=by omega
   subst hkl
   have:=HS.out
   omega
theorem qtz:(Tryz.prog.info? 136).map (fun i=>(i.zero,i.size,i.bytes))=some (some (.slice none 0 0),1,24):=by kernel_rfl
theorem qjy (n:Nat) (hn:n<=1048576) (w:World):
  (Instr.makeSlice 33 (.int .i64 (n:Int)) (.int .i64 (n:Int))).run Tryz.prog w=.ok (.slice (some ⟨w.heap.size,0,none⟩) n n) (w.alloc (.cells (madeCells #[.slice none 0 0] n) 136)):=by
 have hinfo:=qtz
 cases hi:Tryz.prog.info? 136 with
 | none=>rw [hi] at hinfo;cases hinfo
 | some i=>
  rw [hi] at hinfo
  simp only [Option.map_some,Option.some.injEq,Prod.mk.injEq] at hinfo
  obtain ⟨hz,hs,hb⟩:=hinfo
  have h:=run_make (P:=Tryz.prog) w 33 136 i _ Tryz.underlying33 hi hz .i64 .i64 (n:Int) (n:Int) (by omega) (Int.le_refl _) (by rw [hb];omega) (by omega)
  rw [hs] at h
  simpa [Value.cells] using h
theorem qlb (w:World) (n:Nat):(w.alloc (.cells (madeCells #[.slice none 0 0] n) 136)).rowIs w.heap.size 136 n (fun _=>.slice none 0 0):=by
 refine ⟨_,blk_alloc_new _ _,size_madeCells _ _,fun i hi=>?_⟩
 simp only [madeCells]
 rw [Array.getElem?_map,Array.getElem?_range,if_pos hi]
 have:i % 1=0:=Nat.mod_one i
 exact congrArg some (by simp [this])
structure qfq (w:World) (D k:Nat) (f:Nat->Value) (ls:Nat->Nat) (bs:Nat->Nat) (h:Nat->Nat->I2):Prop where
 cel:∀ i,i<k->f i=.slice (some ⟨bs i,0,none⟩) (ls i) (ls i)
 bd:∀ i,i<k->D<bs i/\bs i<w.heap.size
 row:∀ i,i<k->ItAt w (bs i) 0 (ls i) (h i)
 fr:∀ i,i<k->∀ j,w.frozen? ⟨bs i,j,none⟩=false
 up:∀ i j,i<j->j<k->bs i<bs j
theorem qfq.step {w w1:World} {D k:Nat} {f:Nat->Value} {ls:Nat->Nat} {bs:Nat->Nat} {h:Nat->Nat->I2} (o:qfq w D k f ls bs h) (hb:Below w.heap.size w w1) (hD:D<w.heap.size) (hz:w.heap.size<w1.heap.size) (hr:ItAt w1 w.heap.size 0 (ls k) (h k)) (hf:∀ j,w1.frozen? ⟨w.heap.size,j,none⟩=false) (u:Value):
  qfq (w1.setCell ⟨D,k,none⟩ u) D (k+1) (fun i=>if i=k then .slice (some ⟨w.heap.size,0,none⟩) (ls k) (ls k) else f i) ls (fun i=>if i=k then w.heap.size else bs i) h:=by
 have hs:∀ b,b≠D->(w1.setCell ⟨D,k,none⟩ u).heap[b]? = w1.heap[b]?:=fun b hne=>zO _ _ _ _ hne
 have hat:∀ b n g,b≠D->ItAt w1 b 0 n g->ItAt (w1.setCell ⟨D,k,none⟩ u) b 0 n g:=fun b n g hne hg=>fun i hi=>by
  have hc:∀ j,(w1.setCell ⟨D,k,none⟩ u).cell? ⟨b,j,none⟩=w1.cell? ⟨b,j,none⟩:=fun j=>zH (hs b hne)
  have:=hg i hi
  simp only [hc]
  exact this
 refine ⟨fun i hi=>?_,fun i hi=>?_,fun i hi=>?_,fun i hi j=>?_,fun i j hij hj=>?_⟩
 ·by_cases e:i=k
  ·subst e;simp
  ·simp only [if_neg e];exact o.cel i (by omega)
 ·by_cases e:i=k
  ·subst e;simp;omega
  ·simp only [if_neg e,World.size_setCell];have:=o.bd i (by omega);omega
 ·by_cases e:i=k
  ·subst e;simp only [if_true];exact hat _ _ _ (by omega) hr
  ·simp only [if_neg e];have hbd:=o.bd i (by omega);exact hat _ _ _ (by omega) ((o.row i (by omega)).below hb hbd.2)
 ·by_cases e:i=k
  ·subst e;simp only [if_true];rw [World.frozen?_setCell];exact hf j
  ·simp only [if_neg e];rw [World.frozen?_setCell];have hbd:=o.bd i (by omega);exact (hb.frozen (p:=⟨bs i,j,none⟩) hbd.2).trans (o.fr i (by omega) j)
 ·by_cases e:j=k
  ·have hi:i≠k:=by omega
   simp only [if_neg hi,if_pos e]
   exact (o.bd i (by omega)).2
  ·have hi:i≠k:=by omega
   simp only [if_neg hi,if_neg e]
   exact o.up i j hij (by omega)
structure qka (W:World) (a0:Option Addr) (n:Nat) (aa:Nat->Option Addr) (ls cs:Nat->Nat) (h:Nat->Nat->I2):Prop where
 row:RowS W a0 n fun i=>.slice (aa i) (ls i) (cs i)
 cop:∀ i,i<n->qkd W (aa i) (ls i) (cs i) (h i)
theorem qn8 (a0:Option Addr) (n cap:Nat) (aa:Nat->Option Addr) (ls cs:Nat->Nat) (h:Nat->Nat->I2) (W w:World) (hn:n<=1048576) (hA:qka W a0 n aa ls cs h) (hW:Below W.heap.size W w):
  Calls Tryz.prog 46 #[.slice a0 n cap] w fun e w'=>e=.returned (.slice (some ⟨w.heap.size,0,none⟩) n n)/\(∃ bs,qa6 w' w.heap.size w'.heap.size n ls bs h)/\Below w.heap.size w w':=by
 have hl':(n:Int)<=1048576:=by omega
 have hmk:=qjy n hn
 have HA:Hid (qka W a0 n aa ls cs h):=hA
 have HW:Hid (Below W.heap.size W w):=hW
 clear hA hW
 go_enter Tryz.func46,Tryz.ntmps46
 go_wp2_with fail
 clear hmk
 go_loopw [4] (fun i wr=>∃ k:Nat,k<=n/\i=.int .i64 k/\(∃ f,wr.rowIs w.heap.size 136 n f/\Hid (∃ bs,qfq wr w.heap.size k f ls bs h))/\Below w.heap.size w wr) (fun i _=>n - (intOf i).toNat)
 case atStart=>exact ⟨0,Nat.zero_le _,rfl,⟨_,qlb w n,fun _=>0,fun i hi=>by omega,fun i hi=>by omega,fun i hi=>by omega,fun i hi=>by omega,fun i j hij hj=>by omega⟩,(Below.refl _ _).alloc (Nat.le_refl _) _⟩
 case round=>
  obtain ⟨k,hk,rfl,⟨f,hrow,HF⟩,hbw⟩:=hrel
  have hs:=hrow.lt
  by_cases hlt:k<n
  ·have hlt':(k:Int)<(n:Int):=by omega
   have HB:Hid (Below W.heap.size W wr):=HW.out.trans (hbw.mono HW.out.size)
   obtain ⟨b,off,rfl,ck⟩:=(HA.out.row.below HB.out).at hlt
   have HR:Hid (wr.rowIs w.heap.size 136 n f):=hrow
   clear hrow
   go_wp2_with fail
   refine (HA.out.cop k hlt wr HB.out).mono ?_
   rintro e w1 ⟨rfl,hi1,hz1,hb1,hf1⟩
   have hr1:w1.rowIs w.heap.size 136 n f:=HR.out.of_block (hb1.block _ hs)
   have f0:=hr1.frozen k
   have g0:=hr1.cell (i:=k) hlt
   have HR1:Hid (w1.rowIs w.heap.size 136 n f):=hr1
   have HF1:Hid (∃ bs,qfq (w1.setCell ⟨w.heap.size,k,none⟩ (.slice (some ⟨wr.heap.size,0,none⟩) (ls k) (ls k))) w.heap.size (k+1) (fun i=>if i=k then .slice (some ⟨wr.heap.size,0,none⟩) (ls k) (ls k) else f i) ls bs h):=by
    obtain ⟨bs,o⟩:=HF.out
    exact ⟨_,o.step hb1 hs hz1 hi1 hf1 _⟩
   clear hr1 hi1 HF HR hf1
   go_wp2_with fail
   exact ⟨⟨k+1,by omega,by go_num,⟨_,HR1.out.set _ _,HF1.out⟩,(hbw.trans (hb1.mono (Nat.le_of_lt hs))).setCell (Nat.le_refl _) _⟩,by simp [intOf];omega⟩
  ·have hkl:k=n:=by omega
   have HO:Hid (∃ bs,qa6 wr w.heap.size wr.heap.size n ls bs h):=by
    obtain ⟨bs,o⟩:=HF.out
    rw [hkl] at o
    exact ⟨bs,fun i hi=>by rw [hrow.cell hi,o.cel i hi],o.bd,o.row,o.fr,o.up,Nat.le_refl _,hs⟩
   clear hkl HF hrow
   go_wp2
   go_ret
   exact ⟨rfl,HO.out,hbw⟩
theorem qkv (D1 h1 D2 h2 n c1 c2:Nat) (ls b1 b2:Nat->Nat) (h:Nat->Nat->I2) (w:World) (hn:n<=1048576) (hl:∀ i,i<n->ls i<=1048576) (o1:qa6 w D1 h1 n ls b1 h) (o2:qa6 w D2 h2 n ls b2 h):
  Calls Tryz.prog 54 #[.slice (some ⟨D1,0,none⟩) n c1,.slice (some ⟨D2,0,none⟩) n c2] w fun e w'=>e=.returned (.bool true)/\Below w.heap.size w w':=by
 have hl':(n:Int)<=1048576:=by omega
 have O1:Hid (qa6 w D1 h1 n ls b1 h):=o1
 have O2:Hid (qa6 w D2 h2 n ls b2 h):=o2
 have HL:Hid (∀ i,i<n->ls i<=1048576):=hl
 clear o1 o2 hl
 go_enter Tryz.func54,Tryz.ntmps54
 go_wp2_with fail
 go_loopw [5] (fun i wr=>∃ k:Nat,k<=n/\i=.int .i64 k/\Below w.heap.size w wr) (fun i _=>n - (intOf i).toNat)
 case atStart=>exact ⟨0,Nat.zero_le _,rfl,Below.refl _ _⟩
 case round=>
  obtain ⟨k,hk,rfl,hbw⟩:=hrel
  have hs:=hbw.size
  by_cases hlt:k<n
  ·have P1:Hid (qa6 wr D1 h1 n ls b1 h):=O1.out.below hbw O1.out.le
   have P2:Hid (qa6 wr D2 h2 n ls b2 h):=O2.out.below hbw O2.out.le
   have ck:=P1.out.cel k hlt
   have dk:=P2.out.cel k hlt
   have hlt':(k:Int)<(n:Int):=by omega
   go_wp2_with fail
   first|(go_region_with (go_at_call 104;refine (qhj (b1 k) (b2 k) (ls k) (ls k) (ls k) (h k) wr.drew (HL.out k hlt) (zL (P1.out.bd k hlt).2 P1.out.le) (zL (P2.out.bd k hlt).2 P2.out.le) (P1.out.row k hlt) (P2.out.row k hlt)).mono ?_;rintro e w1 ⟨rfl,hq1⟩)) | fail
   all_goals
    go_wp2
    go_roundw
    case rel=>exact ⟨k+1,by omega,by go_num,hbw.drew.trans (hq1.mono hs)⟩
    case measure=>simp [intOf];omega
  ·go_wp2
   go_ret
   exact ⟨rfl,hbw⟩
theorem qe6 (D hi n cap:Nat) (ls bs:Nat->Nat) (h:Nat->Nat->I2) (k:Int) (w:World) (hn:n<=1048576) (hl:sumL ls n<=1048576) (k0:0<=k) (k1:k<=50000000) (o:qa6 w D hi n ls bs h):
  Calls Tryz.prog 59 #[.slice (some ⟨D,0,none⟩) n cap,.int .i64 k] w fun e w'=>e=.returned (.int .i64 (k+2*(sumL ls n:Nat)))/\qaa (fun b=>D<b/\b<hi) w w':=by
 have hl':(n:Int)<=1048576:=by omega
 have O:Hid (qa6 w D hi n ls bs h):=o
 have HL:Hid (sumL ls n<=1048576):=hl
 clear o hl
 go_enter Tryz.func59,Tryz.ntmps59
 go_wp2_with fail
 go_loopw [1,5] (fun q i wr=>∃ j:Nat,j<=n/\i=.int .i64 j/\q=.int .i64 (k+2*(sumL ls j:Nat))/\Hid (qaa (fun b=>∃ t,t<j/\b=bs t) w wr)) (fun _ i _=>n - (intOf i).toNat)
 case atStart=>exact ⟨0,Nat.zero_le _,rfl,by simp [sumL],qaa.refl _ _⟩
 case round=>
  obtain ⟨j,hj,rfl,rfl,HT⟩:=hrel
  by_cases hlt:j<n
  ·have hlt':(j:Int)<(n:Int):=by omega
   have dD:¬ ∃ t,t<j/\D=bs t:=by
    rintro ⟨t,ht,e⟩
    have:=(O.out.bd t (by omega)).1
    omega
   have dJ:¬ ∃ t,t<j/\bs j=bs t:=by
    rintro ⟨t,ht,e⟩
    have:=O.out.up t j ht hlt
    omega
   have bJ:=O.out.bd j hlt
   have le:=O.out.le
   have ck:wr.cell? ⟨D,j,none⟩=some (.slice (some ⟨bs j,0,none⟩) (ls j) (ls j)):=(HT.out.cell (zL O.out.lt le) dD j).trans (O.out.cel j hlt)
   have RM:Hid (qhs wr (bs j) (ls j)):=by
    have hb:wr.heap[bs j]? = w.heap[bs j]?:=HT.out.block (bs j) (by omega) dJ
    have hrm:qhs w (bs j) (ls j):=qhs.of_it (O.out.row j hlt) (O.out.fr j hlt)
    exact ⟨fun i hi=>(hrm.1 i hi).elim fun u e=>⟨u,(zH hb).trans e⟩,fun i=>(zI hb).trans (hrm.2 i)⟩
   have hsl:=qby ls hlt
   have hS:=HL.out
   have e1:k+2*(sumL ls j:Nat)+2*(ls j:Int)=k+2*(sumL ls (j+1):Nat):=by simp only [sumL];omega
   have HE:Hid (k+2*(sumL ls j:Nat)+2*(ls j:Int)=k+2*(sumL ls (j+1):Nat)):=e1
   have e2:0<=k+2*(sumL ls j:Nat):=by omega
   have e3:k+2*(sumL ls j:Nat)<=100000000:=by omega
   have e4:ls j<=1048576:=by omega
   clear dD bJ le e1 hS hsl
   go_wp2_with fail
   refine (qld (bs j) (ls j) (ls j) _ wr e4 e2 e3 RM.out).mono ?_
   rintro e w1 ⟨rfl,g1⟩
   rw [HE.out]
   have HT1:Hid (qaa (fun b=>∃ t,t<j+1/\b=bs t) w w1):=(HT.out.mono fun b ⟨t,ht,e⟩=>⟨t,by omega,e⟩).trans (qaa.of_grown g1 fun b e=>⟨j,by omega,by simpa using e.symm⟩)
   clear HT dJ RM e2 e3 e4 g1
   go_wp2
   go_roundw
   case rel=>exact ⟨j+1,by omega,by go_num,rfl,HT1.out⟩
   case measure=>simp [intOf];omega
  ·have hkl:j=n:=by omega
   subst hkl
   have HT1:Hid (qaa (fun b=>D<b/\b<hi) w wr):=HT.out.mono fun b ⟨t,ht,e⟩=>by
    subst e
    exact O.out.bd t ht
   clear HT
   go_wp2
   go_ret
   exact ⟨rfl,HT1.out⟩
theorem qpq {H:Type} {enc:TypeId × Value->H} {w:World} {spare:Nat->Bool} {held:Bool} {base:Nat} {a0:Option Addr} {len cap:Nat} {d:DataW H} {p:List MemPlace}
  (h:DataW.Trod enc Tryz.prog w base spare held 24 (.slice a0 len cap) d p):
  len<=maxLen/\∃ aa ls cs,RowS w a0 len (fun i=>.slice (aa i) (ls i) (cs i))/\(∀ i,i<len->ls i<=maxLen)/\((∀ i,i<len->ls i<=1048576)->∃ hh,qka w a0 len aa ls cs hh):=by
 obtain ⟨hm,f,hrow,hf⟩:=qi0 Tryz.underlying24 (el:=128) (by kernel_rfl) h
 refine ⟨hm,?_⟩
 have hpart:∀ i,i<len->∃ x:Option Addr × Nat × Nat,f i=.slice x.1 x.2.1 x.2.2/\x.2.1<=maxLen/\(x.2.1<=1048576->∃ g,qkd w x.1 x.2.1 x.2.2 g):=by
  intro i hi
  obtain ⟨m,x,hx⟩:=hf i hi
  have hsl:∃ a l c,f i=.slice a l c:=by
   rcases Go.Deep.open_slice Tryz.underlying128 hx with ⟨hcs,_⟩ | ⟨a,len',cap',m,n,D,Pl,hcs,_⟩
   ·simp at hcs
    exact ⟨_,_,_,hcs⟩
   ·simp at hcs
    exact ⟨_,_,_,hcs⟩
  obtain ⟨a,l,c,e⟩:=hsl
  rw [e] at hx
  obtain ⟨h1,h2⟩:=qsv (d:=x.1) (p:=x.2) (a0:=a) (len:=l) (cap:=c) ⟨m,by simpa [Value.cells] using hx⟩
  exact ⟨(a,l,c),e,h1,fun hs=>qr3 hs h2⟩
 obtain ⟨g,hg⟩:=Go.Deep.choose_lt (α:=Option Addr × Nat × Nat) hpart
 refine ⟨fun i=>(g i).1,fun i=>(g i).2.1,fun i=>(g i).2.2,?_,fun i hi=>(hg i hi).2.1,fun hs=>?_⟩
 ·rcases hrow with h0 | ⟨b,off,e,hlt,hc⟩
  ·exact .inl h0
  ·exact .inr ⟨b,off,e,hlt,fun i hi=>(hc i hi).trans (by rw [(hg i hi).1])⟩
 ·have hq:∀ i,i<len->∃ q:Nat->I2,qkd w (g i).1 (g i).2.1 (g i).2.2 q:=fun i hi=>(hg i hi).2.2 (hs i hi)
  have inh:Inhabited (Nat->I2):=⟨fun _=>⟨false,0⟩⟩
  obtain ⟨hh,hhh⟩:=Go.Deep.choose_lt (α:=Nat->I2) hq
  refine ⟨hh,?_,hhh⟩
  rcases hrow with h0 | ⟨b,off,e,hlt,hc⟩
  ·exact .inl h0
  ·exact .inr ⟨b,off,e,hlt,fun i hi=>(hc i hi).trans (by rw [(hg i hi).1])⟩
structure qav (w:World) (D hi n:Nat) (ls:Nat->Nat) (bs:Nat->Nat) (h:Nat->Nat->E3):Prop where
 cel:∀ i,i<n->w.cell? ⟨D,i,none⟩=some (.slice (some ⟨bs i,0,none⟩) (ls i) (ls i))
 bd:∀ i,i<n->D<bs i/\bs i<hi
 row:∀ i,i<n->EvAt w (bs i) 0 (ls i) (h i)
 fr:∀ i,i<n->∀ j,w.frozen? ⟨bs i,j,none⟩=false
 up:∀ i j,i<j->j<n->bs i<bs j
 le:hi<=w.heap.size
 lt:D<hi
theorem qav.below {w w':World} {D hi n B:Nat} {ls:Nat->Nat} {bs:Nat->Nat} {h:Nat->Nat->E3} (o:qav w D hi n ls bs h) (hb:Below B w w') (hB:hi<=B):qav w' D hi n ls bs h:=
 ⟨fun i hi'=>(hb.cell (p:=⟨D,i,none⟩) (zL o.lt hB)).trans (o.cel i hi'),o.bd,fun i hi'=>(o.row i hi').below hb (zL (o.bd i hi').2 hB),fun i hi' j=>(hb.frozen (p:=⟨bs i,j,none⟩) (zL (o.bd i hi').2 hB)).trans (o.fr i hi' j),o.up,zP o.le hb.size,o.lt⟩
theorem qav.keep {w w':World} {D hi n:Nat} {ls:Nat->Nat} {bs:Nat->Nat} {h:Nat->Nat->E3} (o:qav w D hi n ls bs h) (hs:w.heap.size<=w'.heap.size) (hb:∀ k,D<=k->k<hi->w'.heap[k]? = w.heap[k]?):qav w' D hi n ls bs h:=by
 refine ⟨fun i hi'=>(zH (hb D (Nat.le_refl _) o.lt)).trans (o.cel i hi'),o.bd,fun i hi'=>?_,fun i hi' j=>(zI (hb _ (Nat.le_of_lt (o.bd i hi').1) (o.bd i hi').2)).trans (o.fr i hi' j),o.up,zP o.le hs,o.lt⟩
 have hc:∀ j,w'.cell? ⟨bs i,j,none⟩=w.cell? ⟨bs i,j,none⟩:=fun j=>zH (hb _ (Nat.le_of_lt (o.bd i hi').1) (o.bd i hi').2)
 intro t ht
 have:=o.row i hi' t ht
 simp only [hc]
 exact this
theorem qjg (a0:Option Addr) (n cap:Nat) (aa:Nat->Option Addr) (ls cs:Nat->Nat) (L:Int) (w:World) (hr:RowS w a0 n fun i=>.slice (aa i) (ls i) (cs i)) (h:(n:Int)+(sumL ls n:Nat)<=L) (hL:L<=1048576):
  Calls Tryz.prog 40 #[.slice a0 n cap,.int .i64 L] w fun e w'=>e=.returned (.int .i64 (L - n - (sumL ls n:Nat)))/\w'=w:=by
 have hn:(n:Int)<=1048576:=by omega
 have h0:0<=L:=by omega
 have hn0:¬ (L - (n:Int)<0):=by omega
 have HR:Hid (RowS w a0 n fun i=>.slice (aa i) (ls i) (cs i)):=hr
 have HS:Hid ((n:Int)+(sumL ls n:Nat)<=L):=h
 clear hr h
 go_enter Tryz.func40,Tryz.ntmps40
 go_wp2_with fail
 go_loopw [1,5] (fun q i wr=>∃ k:Nat,k<=n/\i=.int .i64 k/\q=.int .i64 (L - n - (sumL ls k:Nat))/\wr=w) (fun _ i _=>n - (intOf i).toNat)
 case atStart=>exact ⟨0,Nat.zero_le _,rfl,by simp [sumL],rfl⟩
 case round=>
  obtain ⟨k,hk,rfl,rfl,rfl⟩:=hrel
  by_cases hlt:k<n
  ·have hlt':(k:Int)<(n:Int):=by omega
   obtain ⟨b,off,rfl,ck⟩:=HR.out.at hlt
   have hsl:=qby ls hlt
   have hS:=HS.out
   have e1:(L - n - (sumL ls k:Nat)) - (ls k:Int)=L - n - (sumL ls (k+1):Nat):=by simp only [sumL];omega
   have HE:Hid ((L - n - (sumL ls k:Nat)) - (ls k:Int)=L - n - (sumL ls (k+1):Nat)):=e1
   have e2:(ls k:Int)<=L - n - (sumL ls k:Nat):=by omega
   have e3:¬ (L - n - (sumL ls (k+1):Nat)<0):=by omega
   have e4:L - n - (sumL ls k:Nat)<=1048576:=by omega
   clear e1 hS hsl
   generalize hy:L - n - (sumL ls (k+1):Nat)=Y at *
   go_wp2_with fail
   refine (qfc _ _ _ _ _ e2 e4).mono ?_
   rintro e w1 ⟨rfl,rfl⟩
   rw [HE.out]
   clear e2 e4
   go_wp2
   go_roundw
   case rel=>exact ⟨k+1,by omega,by go_num,by rw [<- hy],by trivial⟩
   case measure=>simp [intOf];omega
  ·have hkl:k=n:=by omega
   subst hkl
   go_wp2
   go_ret
   exact ⟨rfl,rfl⟩
theorem qjf (a0:Option Addr) (n cap:Nat) (aa:Nat->Option Addr) (ls cs:Nat->Nat) (L:Int) (w:World) (hr:RowS w a0 n fun i=>.slice (aa i) (ls i) (cs i)) (h:L<(n:Int)+(sumL ls n:Nat)) (h0:0<=L) (hL:L<=1048576) (hm:n<=maxLen) (hl:∀ i,i<n->ls i<=maxLen):
  Calls Tryz.prog 40 #[.slice a0 n cap,.int .i64 L] w fun e w'=>e=.returned (.int .i64 (-1))/\w'=w:=by
 have hm':(n:Int)<=9223372036854775807:=by unfold maxLen at hm;omega
 by_cases hn0:L - (n:Int)<0
 ·go_enter Tryz.func40,Tryz.ntmps40
  go_wp2
  go_ret
  exact ⟨rfl,rfl⟩
 have hn:(n:Int)<=1048576:=by omega
 have HR:Hid (RowS w a0 n fun i=>.slice (aa i) (ls i) (cs i)):=hr
 have HS:Hid (L<(n:Int)+(sumL ls n:Nat)):=h
 have HL:Hid (∀ i,i<n->ls i<=maxLen):=hl
 clear hr h hl hm
 go_enter Tryz.func40,Tryz.ntmps40
 go_wp2_with fail
 go_loopw [1,5] (fun q i wr=>∃ k:Nat,k<=n/\i=.int .i64 k/\q=.int .i64 (L - n - (sumL ls k:Nat))/\0<=L - n - (sumL ls k:Nat)/\wr=w) (fun _ i _=>n - (intOf i).toNat)
 case atStart=>exact ⟨0,Nat.zero_le _,rfl,by simp [sumL],by simp only [sumL];omega,rfl⟩
 case round=>
  obtain ⟨k,hk,rfl,rfl,hp,rfl⟩:=hrel
  by_cases hlt:k<n
  ·have hlt':(k:Int)<(n:Int):=by omega
   obtain ⟨b,off,rfl,ck⟩:=HR.out.at hlt
   have hml:=HL.out k hlt
   have e1:(L - n - (sumL ls k:Nat)) - (ls k:Int)=L - n - (sumL ls (k+1):Nat):=by simp only [sumL];omega
   have HE:Hid ((L - n - (sumL ls k:Nat)) - (ls k:Int)=L - n - (sumL ls (k+1):Nat)):=e1
   have e4:L - n - (sumL ls k:Nat)<=1048576:=by omega
   clear e1
   by_cases hb:(ls k:Int)<=L - n - (sumL ls k:Nat)
   ·have e3:0<=L - n - (sumL ls (k+1):Nat):=by have:=HE.out;omega
    have e3':¬ (L - n - (sumL ls (k+1):Nat)<0):=by omega
    generalize hy:L - n - (sumL ls (k+1):Nat)=Y at *
    go_wp2_with fail
    refine (qfc _ _ _ _ _ hb e4).mono ?_
    rintro e w1 ⟨rfl,rfl⟩
    rw [HE.out]
    clear hb e4 hml hp
    go_wp2
    go_roundw
    case rel=>exact ⟨k+1,by omega,by go_num,by rw [<- hy],by omega,by trivial⟩
    case measure=>simp [intOf];omega
   ·have hb':L - n - (sumL ls k:Nat)<(ls k:Int):=by omega
    go_wp2_with fail
    refine (qj1 _ _ _ _ _ hb' hp e4 hml).mono ?_
    rintro e w1 ⟨rfl,rfl⟩
    clear hb hb' e4 hml hp HE
    go_wp2
    go_ret
    exact ⟨rfl,rfl⟩
  ·have hkl:k=n:=by omega
   subst hkl
   have:=HS.out
   omega
theorem qsd:(Tryz.prog.info? 75).map (fun i=>(i.zero,i.size,i.bytes))=some (some (.slice none 0 0),1,24):=by kernel_rfl
theorem qi6 (n:Nat) (hn:n<=1048576) (w:World):
  (Instr.makeSlice 34 (.int .i64 (n:Int)) (.int .i64 (n:Int))).run Tryz.prog w=.ok (.slice (some ⟨w.heap.size,0,none⟩) n n) (w.alloc (.cells (madeCells #[.slice none 0 0] n) 75)):=by
 have hinfo:=qsd
 cases hi:Tryz.prog.info? 75 with
 | none=>rw [hi] at hinfo;cases hinfo
 | some i=>
  rw [hi] at hinfo
  simp only [Option.map_some,Option.some.injEq,Prod.mk.injEq] at hinfo
  obtain ⟨hz,hs,hb⟩:=hinfo
  have h:=run_make (P:=Tryz.prog) w 34 75 i _ Tryz.underlying34 hi hz .i64 .i64 (n:Int) (n:Int) (by omega) (Int.le_refl _) (by rw [hb];omega) (by omega)
  rw [hs] at h
  simpa [Value.cells] using h
theorem qjt (w:World) (n:Nat):(w.alloc (.cells (madeCells #[.slice none 0 0] n) 75)).rowIs w.heap.size 75 n (fun _=>.slice none 0 0):=by
 refine ⟨_,blk_alloc_new _ _,size_madeCells _ _,fun i hi=>?_⟩
 simp only [madeCells]
 rw [Array.getElem?_map,Array.getElem?_range,if_pos hi]
 have:i % 1=0:=Nat.mod_one i
 exact congrArg some (by simp [this])
structure qd7 (w:World) (D k:Nat) (f:Nat->Value) (ls:Nat->Nat) (bs:Nat->Nat) (h:Nat->Nat->E3):Prop where
 cel:∀ i,i<k->f i=.slice (some ⟨bs i,0,none⟩) (ls i) (ls i)
 bd:∀ i,i<k->D<bs i/\bs i<w.heap.size
 row:∀ i,i<k->EvAt w (bs i) 0 (ls i) (h i)
 fr:∀ i,i<k->∀ j,w.frozen? ⟨bs i,j,none⟩=false
 up:∀ i j,i<j->j<k->bs i<bs j
theorem qd7.step {w w1:World} {D k:Nat} {f:Nat->Value} {ls:Nat->Nat} {bs:Nat->Nat} {h:Nat->Nat->E3} (o:qd7 w D k f ls bs h) (hb:Below w.heap.size w w1) (hD:D<w.heap.size) (hz:w.heap.size<w1.heap.size) (hr:EvAt w1 w.heap.size 0 (ls k) (h k)) (hf:∀ j,w1.frozen? ⟨w.heap.size,j,none⟩=false) (u:Value):
  qd7 (w1.setCell ⟨D,k,none⟩ u) D (k+1) (fun i=>if i=k then .slice (some ⟨w.heap.size,0,none⟩) (ls k) (ls k) else f i) ls (fun i=>if i=k then w.heap.size else bs i) h:=by
 have hs:∀ b,b≠D->(w1.setCell ⟨D,k,none⟩ u).heap[b]? = w1.heap[b]?:=fun b hne=>zO _ _ _ _ hne
 have hat:∀ b n g,b≠D->EvAt w1 b 0 n g->EvAt (w1.setCell ⟨D,k,none⟩ u) b 0 n g:=fun b n g hne hg=>fun i hi=>by
  have hc:∀ j,(w1.setCell ⟨D,k,none⟩ u).cell? ⟨b,j,none⟩=w1.cell? ⟨b,j,none⟩:=fun j=>zH (hs b hne)
  have:=hg i hi
  simp only [hc]
  exact this
 refine ⟨fun i hi=>?_,fun i hi=>?_,fun i hi=>?_,fun i hi j=>?_,fun i j hij hj=>?_⟩
 ·by_cases e:i=k
  ·subst e;simp
  ·simp only [if_neg e];exact o.cel i (by omega)
 ·by_cases e:i=k
  ·subst e;simp;omega
  ·simp only [if_neg e,World.size_setCell];have:=o.bd i (by omega);omega
 ·by_cases e:i=k
  ·subst e;simp only [if_true];exact hat _ _ _ (by omega) hr
  ·simp only [if_neg e];have hbd:=o.bd i (by omega);exact hat _ _ _ (by omega) ((o.row i (by omega)).below hb hbd.2)
 ·by_cases e:i=k
  ·subst e;simp only [if_true];rw [World.frozen?_setCell];exact hf j
  ·simp only [if_neg e];rw [World.frozen?_setCell];have hbd:=o.bd i (by omega);exact (hb.frozen (p:=⟨bs i,j,none⟩) hbd.2).trans (o.fr i (by omega) j)
 ·by_cases e:j=k
  ·have hi:i≠k:=by omega
   simp only [if_neg hi,if_pos e]
   exact (o.bd i (by omega)).2
  ·have hi:i≠k:=by omega
   simp only [if_neg hi,if_neg e]
   exact o.up i j hij (by omega)
structure qh4 (W:World) (a0:Option Addr) (n:Nat) (aa:Nat->Option Addr) (ls cs:Nat->Nat) (h:Nat->Nat->E3):Prop where
 row:RowS W a0 n fun i=>.slice (aa i) (ls i) (cs i)
 cop:∀ i,i<n->qkb W (aa i) (ls i) (cs i) (h i)
theorem ql5 (a0:Option Addr) (n cap:Nat) (aa:Nat->Option Addr) (ls cs:Nat->Nat) (h:Nat->Nat->E3) (W w:World) (hn:n<=1048576) (hA:qh4 W a0 n aa ls cs h) (hW:Below W.heap.size W w):
  Calls Tryz.prog 47 #[.slice a0 n cap] w fun e w'=>e=.returned (.slice (some ⟨w.heap.size,0,none⟩) n n)/\(∃ bs,qav w' w.heap.size w'.heap.size n ls bs h)/\Below w.heap.size w w':=by
 have hl':(n:Int)<=1048576:=by omega
 have hmk:=qi6 n hn
 have HA:Hid (qh4 W a0 n aa ls cs h):=hA
 have HW:Hid (Below W.heap.size W w):=hW
 clear hA hW
 go_enter Tryz.func47,Tryz.ntmps47
 go_wp2_with fail
 clear hmk
 go_loopw [4] (fun i wr=>∃ k:Nat,k<=n/\i=.int .i64 k/\(∃ f,wr.rowIs w.heap.size 75 n f/\Hid (∃ bs,qd7 wr w.heap.size k f ls bs h))/\Below w.heap.size w wr) (fun i _=>n - (intOf i).toNat)
 case atStart=>exact ⟨0,Nat.zero_le _,rfl,⟨_,qjt w n,fun _=>0,fun i hi=>by omega,fun i hi=>by omega,fun i hi=>by omega,fun i hi=>by omega,fun i j hij hj=>by omega⟩,(Below.refl _ _).alloc (Nat.le_refl _) _⟩
 case round=>
  obtain ⟨k,hk,rfl,⟨f,hrow,HF⟩,hbw⟩:=hrel
  have hs:=hrow.lt
  by_cases hlt:k<n
  ·have hlt':(k:Int)<(n:Int):=by omega
   have HB:Hid (Below W.heap.size W wr):=HW.out.trans (hbw.mono HW.out.size)
   obtain ⟨b,off,rfl,ck⟩:=(HA.out.row.below HB.out).at hlt
   have HR:Hid (wr.rowIs w.heap.size 75 n f):=hrow
   clear hrow
   go_wp2_with fail
   refine (HA.out.cop k hlt wr HB.out).mono ?_
   rintro e w1 ⟨rfl,hi1,hz1,hb1,hf1⟩
   have hr1:w1.rowIs w.heap.size 75 n f:=HR.out.of_block (hb1.block _ hs)
   have f0:=hr1.frozen k
   have g0:=hr1.cell (i:=k) hlt
   have HR1:Hid (w1.rowIs w.heap.size 75 n f):=hr1
   have HF1:Hid (∃ bs,qd7 (w1.setCell ⟨w.heap.size,k,none⟩ (.slice (some ⟨wr.heap.size,0,none⟩) (ls k) (ls k))) w.heap.size (k+1) (fun i=>if i=k then .slice (some ⟨wr.heap.size,0,none⟩) (ls k) (ls k) else f i) ls bs h):=by
    obtain ⟨bs,o⟩:=HF.out
    exact ⟨_,o.step hb1 hs hz1 hi1 hf1 _⟩
   clear hr1 hi1 HF HR hf1
   go_wp2_with fail
   exact ⟨⟨k+1,by omega,by go_num,⟨_,HR1.out.set _ _,HF1.out⟩,(hbw.trans (hb1.mono (Nat.le_of_lt hs))).setCell (Nat.le_refl _) _⟩,by simp [intOf];omega⟩
  ·have hkl:k=n:=by omega
   have HO:Hid (∃ bs,qav wr w.heap.size wr.heap.size n ls bs h):=by
    obtain ⟨bs,o⟩:=HF.out
    rw [hkl] at o
    exact ⟨bs,fun i hi=>by rw [hrow.cell hi,o.cel i hi],o.bd,o.row,o.fr,o.up,Nat.le_refl _,hs⟩
   clear hkl HF hrow
   go_wp2
   go_ret
   exact ⟨rfl,HO.out,hbw⟩
theorem qjn (D1 h1 D2 h2 n c1 c2:Nat) (ls b1 b2:Nat->Nat) (h:Nat->Nat->E3) (w:World) (hn:n<=1048576) (hl:∀ i,i<n->ls i<=1048576) (o1:qav w D1 h1 n ls b1 h) (o2:qav w D2 h2 n ls b2 h):
  Calls Tryz.prog 55 #[.slice (some ⟨D1,0,none⟩) n c1,.slice (some ⟨D2,0,none⟩) n c2] w fun e w'=>e=.returned (.bool true)/\Below w.heap.size w w':=by
 have hl':(n:Int)<=1048576:=by omega
 have O1:Hid (qav w D1 h1 n ls b1 h):=o1
 have O2:Hid (qav w D2 h2 n ls b2 h):=o2
 have HL:Hid (∀ i,i<n->ls i<=1048576):=hl
 clear o1 o2 hl
 go_enter Tryz.func55,Tryz.ntmps55
 go_wp2_with fail
 go_loopw [5] (fun i wr=>∃ k:Nat,k<=n/\i=.int .i64 k/\Below w.heap.size w wr) (fun i _=>n - (intOf i).toNat)
 case atStart=>exact ⟨0,Nat.zero_le _,rfl,Below.refl _ _⟩
 case round=>
  obtain ⟨k,hk,rfl,hbw⟩:=hrel
  have hs:=hbw.size
  by_cases hlt:k<n
  ·have P1:Hid (qav wr D1 h1 n ls b1 h):=O1.out.below hbw O1.out.le
   have P2:Hid (qav wr D2 h2 n ls b2 h):=O2.out.below hbw O2.out.le
   have ck:=P1.out.cel k hlt
   have dk:=P2.out.cel k hlt
   have hlt':(k:Int)<(n:Int):=by omega
   go_wp2_with fail
   first|(go_region_with (go_at_call 105;refine (qf0 (b1 k) (b2 k) (ls k) (ls k) (ls k) (h k) wr.drew (HL.out k hlt) (zL (P1.out.bd k hlt).2 P1.out.le) (zL (P2.out.bd k hlt).2 P2.out.le) (P1.out.row k hlt) (P2.out.row k hlt)).mono ?_;rintro e w1 ⟨rfl,hq1⟩)) | fail
   all_goals
    go_wp2
    go_roundw
    case rel=>exact ⟨k+1,by omega,by go_num,hbw.drew.trans (hq1.mono hs)⟩
    case measure=>simp [intOf];omega
  ·go_wp2
   go_ret
   exact ⟨rfl,hbw⟩
theorem qeg (D hi n cap:Nat) (ls bs:Nat->Nat) (h:Nat->Nat->E3) (k:Int) (w:World) (hn:n<=1048576) (hl:sumL ls n<=1048576) (k0:0<=k) (k1:k<=50000000) (o:qav w D hi n ls bs h):
  Calls Tryz.prog 60 #[.slice (some ⟨D,0,none⟩) n cap,.int .i64 k] w fun e w'=>e=.returned (.int .i64 (k+3*(sumL ls n:Nat)))/\qaa (fun b=>D<b/\b<hi) w w':=by
 have hl':(n:Int)<=1048576:=by omega
 have O:Hid (qav w D hi n ls bs h):=o
 have HL:Hid (sumL ls n<=1048576):=hl
 clear o hl
 go_enter Tryz.func60,Tryz.ntmps60
 go_wp2_with fail
 go_loopw [1,5] (fun q i wr=>∃ j:Nat,j<=n/\i=.int .i64 j/\q=.int .i64 (k+3*(sumL ls j:Nat))/\Hid (qaa (fun b=>∃ t,t<j/\b=bs t) w wr)) (fun _ i _=>n - (intOf i).toNat)
 case atStart=>exact ⟨0,Nat.zero_le _,rfl,by simp [sumL],qaa.refl _ _⟩
 case round=>
  obtain ⟨j,hj,rfl,rfl,HT⟩:=hrel
  by_cases hlt:j<n
  ·have hlt':(j:Int)<(n:Int):=by omega
   have dD:¬ ∃ t,t<j/\D=bs t:=by
    rintro ⟨t,ht,e⟩
    have:=(O.out.bd t (by omega)).1
    omega
   have dJ:¬ ∃ t,t<j/\bs j=bs t:=by
    rintro ⟨t,ht,e⟩
    have:=O.out.up t j ht hlt
    omega
   have bJ:=O.out.bd j hlt
   have le:=O.out.le
   have ck:wr.cell? ⟨D,j,none⟩=some (.slice (some ⟨bs j,0,none⟩) (ls j) (ls j)):=(HT.out.cell (zL O.out.lt le) dD j).trans (O.out.cel j hlt)
   have RM:Hid (qhr wr (bs j) (ls j)):=by
    have hb:wr.heap[bs j]? = w.heap[bs j]?:=HT.out.block (bs j) (by omega) dJ
    have hrm:qhr w (bs j) (ls j):=qhr.of_ev (O.out.row j hlt) (O.out.fr j hlt)
    exact ⟨fun i hi=>(hrm.1 i hi).elim fun u e=>⟨u,(zH hb).trans e⟩,fun i=>(zI hb).trans (hrm.2 i)⟩
   have hsl:=qby ls hlt
   have hS:=HL.out
   have e1:k+3*(sumL ls j:Nat)+3*(ls j:Int)=k+3*(sumL ls (j+1):Nat):=by simp only [sumL];omega
   have HE:Hid (k+3*(sumL ls j:Nat)+3*(ls j:Int)=k+3*(sumL ls (j+1):Nat)):=e1
   have e2:0<=k+3*(sumL ls j:Nat):=by omega
   have e3:k+3*(sumL ls j:Nat)<=100000000:=by omega
   have e4:ls j<=1048576:=by omega
   clear dD bJ le e1 hS hsl
   go_wp2_with fail
   refine (qju (bs j) (ls j) (ls j) _ wr e4 e2 e3 RM.out).mono ?_
   rintro e w1 ⟨rfl,g1⟩
   rw [HE.out]
   have HT1:Hid (qaa (fun b=>∃ t,t<j+1/\b=bs t) w w1):=(HT.out.mono fun b ⟨t,ht,e⟩=>⟨t,by omega,e⟩).trans (qaa.of_grown g1 fun b e=>⟨j,by omega,by simpa using e.symm⟩)
   clear HT dJ RM e2 e3 e4 g1
   go_wp2
   go_roundw
   case rel=>exact ⟨j+1,by omega,by go_num,rfl,HT1.out⟩
   case measure=>simp [intOf];omega
  ·have hkl:j=n:=by omega
   subst hkl
   have HT1:Hid (qaa (fun b=>D<b/\b<hi) w wr):=HT.out.mono fun b ⟨t,ht,e⟩=>by
    subst e
    exact O.out.bd t ht
   clear HT
   go_wp2
   go_ret
   exact ⟨rfl,HT1.out⟩
theorem qnm {H:Type} {enc:TypeId × Value->H} {w:World} {spare:Nat->Bool} {held:Bool} {base:Nat} {a0:Option Addr} {len cap:Nat} {d:DataW H} {p:List MemPlace}
  (h:DataW.Trod enc Tryz.prog w base spare held 25 (.slice a0 len cap) d p):
  len<=maxLen/\∃ aa ls cs,RowS w a0 len (fun i=>.slice (aa i) (ls i) (cs i))/\(∀ i,i<len->ls i<=maxLen)/\((∀ i,i<len->ls i<=1048576)->∃ hh,qh4 w a0 len aa ls cs hh):=by
 obtain ⟨hm,f,hrow,hf⟩:=qi0 Tryz.underlying25 (el:=130) (by kernel_rfl) h
 refine ⟨hm,?_⟩
 have hpart:∀ i,i<len->∃ x:Option Addr × Nat × Nat,f i=.slice x.1 x.2.1 x.2.2/\x.2.1<=maxLen/\(x.2.1<=1048576->∃ g,qkb w x.1 x.2.1 x.2.2 g):=by
  intro i hi
  obtain ⟨m,x,hx⟩:=hf i hi
  have hsl:∃ a l c,f i=.slice a l c:=by
   rcases Go.Deep.open_slice Tryz.underlying130 hx with ⟨hcs,_⟩ | ⟨a,len',cap',m,n,D,Pl,hcs,_⟩
   ·simp at hcs
    exact ⟨_,_,_,hcs⟩
   ·simp at hcs
    exact ⟨_,_,_,hcs⟩
  obtain ⟨a,l,c,e⟩:=hsl
  rw [e] at hx
  obtain ⟨h1,h2⟩:=qsu (d:=x.1) (p:=x.2) (a0:=a) (len:=l) (cap:=c) ⟨m,by simpa [Value.cells] using hx⟩
  exact ⟨(a,l,c),e,h1,fun hs=>qr1 hs h2⟩
 obtain ⟨g,hg⟩:=Go.Deep.choose_lt (α:=Option Addr × Nat × Nat) hpart
 refine ⟨fun i=>(g i).1,fun i=>(g i).2.1,fun i=>(g i).2.2,?_,fun i hi=>(hg i hi).2.1,fun hs=>?_⟩
 ·rcases hrow with h0 | ⟨b,off,e,hlt,hc⟩
  ·exact .inl h0
  ·exact .inr ⟨b,off,e,hlt,fun i hi=>(hc i hi).trans (by rw [(hg i hi).1])⟩
 ·have hq:∀ i,i<len->∃ q:Nat->E3,qkb w (g i).1 (g i).2.1 (g i).2.2 q:=fun i hi=>(hg i hi).2.2 (hs i hi)
  have inh:Inhabited (Nat->E3):=⟨fun _=>⟨0,0,0⟩⟩
  obtain ⟨hh,hhh⟩:=Go.Deep.choose_lt (α:=Nat->E3) hq
  refine ⟨hh,?_,hhh⟩
  rcases hrow with h0 | ⟨b,off,e,hlt,hc⟩
  ·exact .inl h0
  ·exact .inr ⟨b,off,e,hlt,fun i hi=>(hc i hi).trans (by rw [(hg i hi).1])⟩
theorem qkw (D1 h1 D2 h2 n c1 c2:Nat) (S:Nat->S4) (v1 v2:Nat->Value) (w:World) (hn:n<=1048576) (hl:∀ i,i<n->(S i).rs.length<=1048576/\(S i).os.length<=1048576) (o1:qaw w D1 h1 n S v1) (o2:qaw w D2 h2 n S v2):
  Calls Tryz.prog 53 #[.slice (some ⟨D1,0,none⟩) n c1,.slice (some ⟨D2,0,none⟩) n c2] w fun e w'=>e=.returned (.bool true)/\Below w.heap.size w w':=by
 have hl':(n:Int)<=1048576:=by omega
 have O1:Hid (qaw w D1 h1 n S v1):=o1
 have O2:Hid (qaw w D2 h2 n S v2):=o2
 have HL:Hid (∀ i,i<n->(S i).rs.length<=1048576/\(S i).os.length<=1048576):=hl
 clear o1 o2 hl
 go_enter Tryz.func53,Tryz.ntmps53
 go_wp2_with fail
 go_loopw [5] (fun i wr=>∃ k:Nat,k<=n/\i=.int .i64 k/\Below w.heap.size w wr) (fun i _=>n - (intOf i).toNat)
 case atStart=>exact ⟨0,Nat.zero_le _,rfl,Below.refl _ _⟩
 case round=>
  obtain ⟨k,hk,rfl,hbw⟩:=hrel
  have hs:=hbw.size
  by_cases hlt:k<n
  ·have P1:Hid (qaw wr D1 h1 n S v1):=O1.out.below hbw O1.out.le
   have P2:Hid (qaw wr D2 h2 n S v2):=O2.out.below hbw O2.out.le
   obtain ⟨ra,rc,oa,oc,e1,a0,a1,a2,a3⟩:=P1.out.cel k hlt
   obtain ⟨ra',rc',oa',oc',e2,b0,b1,b2,b3⟩:=P2.out.cel k hlt
   have hsl1:Sl wr ra (S k).rs/\Sl wr oa (S k).os:=by
    obtain ⟨x1,x2,x3,x4,e,s1,s2⟩:=(P1.out.own k hlt).read
    rw [e1] at e
    simp only [Value.agg.injEq,Array.mk.injEq,List.cons.injEq,Value.slice.injEq,and_true,true_and] at e
    obtain ⟨⟨rfl,rfl⟩,rfl,rfl⟩:=e
    exact ⟨s1,s2⟩
   have hsl2:Sl wr ra' (S k).rs/\Sl wr oa' (S k).os:=by
    obtain ⟨x1,x2,x3,x4,e,s1,s2⟩:=(P2.out.own k hlt).read
    rw [e2] at e
    simp only [Value.agg.injEq,Array.mk.injEq,List.cons.injEq,Value.slice.injEq,and_true,true_and] at e
    obtain ⟨⟨rfl,rfl⟩,rfl,rfl⟩:=e
    exact ⟨s1,s2⟩
   have H1:Hid (Sl wr ra (S k).rs/\Sl wr oa (S k).os):=hsl1
   have H2:Hid (Sl wr ra' (S k).rs/\Sl wr oa' (S k).os):=hsl2
   have hlt':(k:Int)<(n:Int):=by omega
   clear hsl1 hsl2 e1 e2
   go_wp2_with fail
   first|(go_region_with (go_at_call 103;refine (qhk _ _ ra oa ra' oa' rc oc rc' oc' (S k).rs (S k).os wr.drew (HL.out k hlt).1 (HL.out k hlt).2 H1.out.1 H1.out.2 H2.out.1 H2.out.2).mono ?_;rintro e w1 ⟨rfl,hq1⟩)) | fail
   all_goals
    go_wp2
    go_roundw
    case rel=>exact ⟨k+1,by omega,by go_num,hbw.drew.trans (hq1.mono hs)⟩
    case measure=>simp [intOf];omega
  ·go_wp2
   go_ret
   exact ⟨rfl,hbw⟩
structure MkS (w wr:World) (D j:Nat) (vs:Nat->Value):Prop where
 tch:qaa (fun b=>b=D\/∃ t,t<j/\qae (vs t) b) w wr
 cel:∀ i,j*4<=i->wr.cell? ⟨D,i,none⟩=w.cell? ⟨D,i,none⟩
 fr:∀ i,wr.frozen? ⟨D,i,none⟩=false
theorem qe7 (D hi n cap:Nat) (S:Nat->S4) (vs:Nat->Value) (k:Int) (w:World) (hn:n<=1048576) (hl:sumL (lenS S) n<=1048576) (k0:0<=k) (k1:k<=50000000) (o:qaw w D hi n S vs):
  Calls Tryz.prog 58 #[.slice (some ⟨D,0,none⟩) n cap,.int .i64 k] w fun e w'=>e=.returned (.int .i64 (k+(2*n+sumL (lenS S) n:Nat)))/\qaa (fun b=>D<=b/\b<hi) w w':=by
 have hl':(n:Int)<=1048576:=by omega
 have O:Hid (qaw w D hi n S vs):=o
 have HL:Hid (sumL (lenS S) n<=1048576):=hl
 clear o hl
 go_enter Tryz.func58,Tryz.ntmps58
 go_wp2_with fail
 go_loopw [1,5] (fun q i wr=>∃ j:Nat,j<=n/\i=.int .i64 j/\q=.int .i64 (k+(2*j+sumL (lenS S) j:Nat))/\Hid (MkS w wr D j vs)) (fun _ i _=>n - (intOf i).toNat)
 case atStart=>exact ⟨0,Nat.zero_le _,rfl,by simp [sumL],qaa.refl _ _,fun _ _=>rfl,O.out.fr⟩
 case round=>
  obtain ⟨j,hj,rfl,rfl,HT⟩:=hrel
  by_cases hlt:j<n
  ·have hlt':(j:Int)<(n:Int):=by omega
   obtain ⟨ra,rc,oa,oc,ev,a0,a1,a2,a3⟩:=O.out.cel j hlt
   have c0:=(HT.out.cel (j*4) (by omega)).trans a0
   have c1:=(HT.out.cel (j*4+1) (by omega)).trans a1
   have c2:=(HT.out.cel (j*4+2) (by omega)).trans a2
   have c3:=(HT.out.cel (j*4+3) (by omega)).trans a3
   have fz:=HT.out.fr
   have hD:D<wr.heap.size:=zL O.out.lt (zP O.out.le HT.out.tch.size)
   have how:=O.out.own j hlt
   have howr : qaf wr (D + 1) (vs j) (S j).p (S j).rs (S j).os (S j).c := how.blk fun b hb => HT.out.tch.block b (how.lt hb).2 (by
    rintro (e | ⟨t,ht,h1⟩)
    ·have:=(how.lt hb).1
     omega
    ·exact O.out.apart t j ht hlt b h1 hb)
   have hbd:∀ b,qae (vs j) b->D+1<=b:=fun b hb=>(how.lt hb).1
   rw [ev] at howr hbd
   obtain ⟨vr,vo,e,w1r,w1o,wap⟩:=howr
   simp only [Value.agg.injEq,Array.mk.injEq,List.cons.injEq,and_true,true_and] at e
   obtain ⟨rfl,rfl⟩:=e
   have OR:Hid (OwnI wr (D+1) (.slice ra (S j).rs.length rc) (S j).rs):=w1r
   have OO:Hid (OwnI wr (D+1) (.slice oa (S j).os.length oc) (S j).os):=w1o
   have AP:Hid (∀ b,(Value.slice ra (S j).rs.length rc).ownBlock=some b->(Value.slice oa (S j).os.length oc).ownBlock≠some b):=wap
   have HV:Hid (vs j=stV (S j).p ra (S j).rs.length rc oa (S j).os.length oc (S j).c):=ev
   have hsl:=qby (lenS S) hlt
   have hS:=HL.out
   have hlk:lenS S j=(S j).rs.length+(S j).os.length:=rfl
   have r1:(S j).rs.length<=1048576:=by omega
   have r2:(S j).os.length<=1048576:=by omega
   generalize hx:k+(2*j+sumL (lenS S) j:Nat)=X at *
   have x0:0<=X:=by omega
   have x1:X<=60000000:=by omega
   have HN:Hid (X+1+(S j).rs.length+(S j).os.length+1=k+(2*(j+1)+sumL (lenS S) (j+1):Nat)):=by
    show X+1+(S j).rs.length+(S j).os.length+1=k+(2*(j+1)+sumL (lenS S) (j+1):Nat)
    simp only [sumL]
    omega
   have rI:((S j).rs.length:Int)<=1048576:=by omega
   have oI:((S j).os.length:Int)<=1048576:=by omega
   clear a0 a1 a2 a3 ev wap w1r w1o how hsl hS hlk hx
   go_wp2_with fail
   refine (qce ra rc (D+1) (S j).rs _ _ r1 (by omega) (by omega) (OR.out.setBelow (by simp) _)).mono ?_
   rintro e w1 ⟨rfl,-,g1⟩
   have nR:some D≠(Value.slice ra (S j).rs.length rc).ownBlock:=fun e=>by
    have:=(OR.out.lt D e.symm).1
    omega
   have nO:some D≠(Value.slice oa (S j).os.length oc).ownBlock:=fun e=>by
    have:=(OO.out.lt D e.symm).1
    omega
   obtain ⟨d1,f1⟩:=qhw g1 (b:=D) (by simpa using hD) nR
   have OO1:Hid (OwnI w1 (D+1) (.slice oa (S j).os.length oc) (S j).os):=qf9 (OO.out.setBelow (by simp) _) g1 AP.out
   have hD1:D<w1.heap.size:=by have:=g1.size;simp at this;omega
   have G1:Hid (World.grownBy (wr.setCell ⟨D,j*4,none⟩ (.int .i64 X)) w1 (Value.slice ra (S j).rs.length rc).ownBlock):=g1
   clear g1
   go_wp2_with fail
   refine (qce oa oc (D+1) (S j).os _ _ r2 (by omega) (by omega) OO1.out).mono ?_
   rintro e w2 ⟨rfl,-,g2⟩
   obtain ⟨d2,f2⟩:=qhw g2 (b:=D) hD1 nO
   have HT2:Hid (∀ u,MkS w (w2.setCell ⟨D,j*4+3,none⟩ u) D (j+1) vs):=by
    intro u
    have t0 : qaa (fun b => b = D ∨ ∃ t, t < j + 1 ∧ qae (vs t) b) w wr := HT.out.tch.mono (by
     rintro b (e | ⟨t,ht,h1⟩)
     ·exact .inl e
     ·exact .inr ⟨t,by omega,h1⟩)
    have t1:qaa (fun b=>b=D\/∃ t,t<j+1/\qae (vs t) b) wr (wr.setCell ⟨D,j*4,none⟩ (.int .i64 X)):=qaa.of_set _ (.inl rfl) _
    have t2 : qaa (fun b => b = D ∨ ∃ t, t < j + 1 ∧ qae (vs t) b) (wr.setCell ⟨D, j * 4, none⟩ (.int .i64 X)) w1 := qaa.of_grown G1.out fun b e => .inr ⟨j, by omega, by
     rw [HV.out]
     exact (qak _ _ _ _ _).2 (.inl e)⟩
    have t3 : qaa (fun b => b = D ∨ ∃ t, t < j + 1 ∧ qae (vs t) b) w1 w2 := qaa.of_grown g2 fun b e => .inr ⟨j, by omega, by
     rw [HV.out]
     exact (qak _ _ _ _ _).2 (.inr e)⟩
    refine ⟨(((t0.trans t1).trans t2).trans t3).trans (qaa.of_set _ (.inl rfl) _),fun i hi=>?_,fun i=>?_⟩
    ·have s1:∀ (W:World) (o:Nat) (u:Value),o≠i->(W.setCell ⟨D,o,none⟩ u).cell? ⟨D,i,none⟩=W.cell? ⟨D,i,none⟩:=fun W o u h=>World.cell?_setCell_other _ _ _ _ fun e=>h (by injection e)
     rw [s1 _ _ _ (by omega),d2,d1,s1 _ _ _ (by omega)]
     exact HT.out.cel i (by omega)
    ·rw [World.frozen?_setCell,f2,f1,World.frozen?_setCell]
     exact HT.out.fr i
   clear g2 G1 OO1 OO OR AP HV HT
   go_wp2
   go_roundw
   case rel=>exact ⟨j+1,by omega,by go_num,by rw [HN.out],HT2.out _⟩
   case measure=>simp [intOf];omega
  ·have hkl:j=n:=by omega
   subst hkl
   have HT1 : Hid (qaa (fun b => D ≤ b ∧ b < hi) w wr) := HT.out.tch.mono (by
    rintro b (e | ⟨t,ht,h1⟩)
    ·subst e
     exact ⟨Nat.le_refl _,O.out.lt⟩
    ·exact ⟨by have:=((O.out.own t ht).lt h1).1;omega,O.out.bd t ht b h1⟩)
   clear HT
   go_wp2
   go_ret
   exact ⟨rfl,HT1.out⟩
theorem qi1 {H:Type} {enc:TypeId × Value->H} {w:World} {base fuel:Nat} {held:Bool} {c0 c1 c2 c3:Value} {x:DataW H × List MemPlace}
  (hf':DataW.trod enc Tryz.prog w base (fun _=>true) held fuel 126 [c0,c1,c2,c3]=some x):
  ∃ q:St8,(c0=.int .i64 q.p/\c1=.slice q.ra q.rs.length q.rc/\c2=.slice q.oa q.os.length q.oc/\c3=.int .i64 q.c)/\(q.rs.length<=maxLen/\q.os.length<=maxLen)/\Sl w q.ra q.rs/\Sl w q.oa q.os:=by
 obtain ⟨xs,m,-,-,-,hl,hx⟩:=DataW.trod_struct Tryz.underlying126 hf'
 have hl:xs.length=4:=hl
 have q0:DataW.trod enc Tryz.prog w base (fun _=>true) held m 3 [c0]=xs[0]?:=by simpa [qb7] using hx 0 _ rfl
 have q1:DataW.trod enc Tryz.prog w base (fun _=>true) held m 47 [c1]=xs[1]?:=by simpa [qmt] using hx 1 _ rfl
 have q2:DataW.trod enc Tryz.prog w base (fun _=>true) held m 47 [c2]=xs[2]?:=by simpa [qmt] using hx 2 _ rfl
 have q3:DataW.trod enc Tryz.prog w base (fun _=>true) held m 3 [c3]=xs[3]?:=by simpa [qb7] using hx 3 _ rfl
 rw [List.getElem?_eq_getElem (by omega)] at q0 q1 q2 q3
 obtain ⟨z0,e0,-,-⟩:=DataW.trod_int Tryz.underlying3 q0
 obtain ⟨z3,e3,-,-⟩:=DataW.trod_int Tryz.underlying3 q3
 obtain ⟨ra,rc,rs,rfl,hr,h1⟩:=qfl q1
 obtain ⟨oa,oc,os,rfl,ho,h2⟩:=qfl q2
 simp only [List.cons.injEq,and_true] at e0 e3
 subst e0 e3
 exact ⟨⟨z0,ra,rc,rs,oa,oc,os,z3⟩,⟨rfl,rfl,rfl,rfl⟩,⟨hr,ho⟩,h1,h2⟩
theorem qpr {H:Type} {enc:TypeId × Value->H} {w:World} {held:Bool} {base:Nat} {a0:Option Addr} {len cap:Nat} {d:DataW H} {p:List MemPlace}
  (h:DataW.Trod enc Tryz.prog w base (fun _=>true) held 23 (.slice a0 len cap) d p):
  len<=maxLen/\∃ q,qbk w a0 len q/\∀ i,i<len->(q i).rs.length<=maxLen/\(q i).os.length<=maxLen:=by
 obtain ⟨fuel,hf⟩:=h
 have inh:Inhabited St8:=⟨⟨0,none,0,[],none,0,[],0⟩⟩
 rcases Go.Deep.open_slice Tryz.underlying23 hf with ⟨hcs,_⟩ | ⟨a,len',cap',m,n,D,Pl,hcs,_,hl,hm,hmm,_,hx⟩
 ·simp [Value.cells] at hcs
  obtain ⟨_,rfl,_⟩:=hcs
  exact ⟨Nat.zero_le _,fun _=>default,⟨.inl rfl,fun i hi=>by omega⟩,fun i hi=>by omega⟩
 ·simp [Value.cells] at hcs
  obtain ⟨rfl,rfl,rfl⟩:=hcs
  refine ⟨zP hl hm,?_⟩
  have hle:len<=m:=by rw [hmm];split <;> omega
  rw [qko] at hx
  obtain ⟨b,off,spot⟩:=a
  have hcell:∀ i,i<len->∃ q:St8,(w.cell? (Addr.add (Addr.add ⟨b,off,spot⟩ (i*4)) 0)=some (.int .i64 q.p)/\w.cell? (Addr.add (Addr.add ⟨b,off,spot⟩ (i*4)) 1)=some (.slice q.ra q.rs.length q.rc)/\w.cell? (Addr.add (Addr.add ⟨b,off,spot⟩ (i*4)) 2)=some (.slice q.oa q.os.length q.oc)/\w.cell? (Addr.add (Addr.add ⟨b,off,spot⟩ (i*4)) 3)=some (.int .i64 q.c))/\(q.rs.length<=maxLen/\q.os.length<=maxLen)/\Sl w q.ra q.rs/\Sl w q.oa q.os:=by
   intro i hi
   obtain ⟨cs',h1,h2⟩:=hx i (by omega)
   obtain ⟨_,hlen,hc⟩:=World.cells?_some h1
   match cs',hlen with
   | [c0,c1,c2,c3],_=>
    obtain ⟨q,⟨rfl,rfl,rfl,rfl⟩,hb,hs⟩:=qi1 h2
    exact ⟨q,⟨hc 0 (by omega),hc 1 (by omega),hc 2 (by omega),hc 3 (by omega)⟩,hb,hs⟩
  obtain ⟨g,hg⟩:=Go.Deep.choose_lt (α:=St8) hcell
  refine ⟨g,⟨?_,fun i hi=>(hg i hi).2.2⟩,fun i hi=>(hg i hi).2.1⟩
  by_cases h0:len=0
  ·exact .inl h0
  have hspot:spot=none:=by
   have hx0:=(hg 0 (by omega)).1.1
   simpa [Addr.add] using World.cell?_spot hx0
  subst hspot
  have hI:∀ i,i<len->w.cell? ⟨b,off+i*4,none⟩=some (.int .i64 (g i).p)/\w.cell? ⟨b,off+i*4+1,none⟩=some (.slice (g i).ra (g i).rs.length (g i).rc)/\w.cell? ⟨b,off+i*4+2,none⟩=some (.slice (g i).oa (g i).os.length (g i).oc)/\w.cell? ⟨b,off+i*4+3,none⟩=some (.int .i64 (g i).c):=by
   intro i hi
   obtain ⟨⟨q0,q1,q2,q3⟩,-⟩:=hg i hi
   rw [qb5,qb5] at q0 q1 q2 q3
   exact ⟨q0,q1,q2,q3⟩
  exact .inr ⟨b,off,rfl,qgq (hI 0 (by omega)).1,hI⟩
structure SysIn where
 pa:Option Addr
 pn:Nat
 pc:Nat
 pA:Nat->Option Addr
 pL:Nat->Nat
 pC:Nat->Nat
 pH:Nat->Nat->I5
 sa:Option Addr
 sn:Nat
 sc:Nat
 sQ:Nat->St8
 wa:Option Addr
 wn:Nat
 wc:Nat
 wA:Nat->Option Addr
 wL:Nat->Nat
 wC:Nat->Nat
 wH:Nat->Nat->I2
 ha:Option Addr
 hn:Nat
 hc:Nat
 hA:Nat->Option Addr
 hL:Nat->Nat
 hC:Nat->Nat
 hH:Nat->Nat->E3
def SysIn.sS (x:SysIn):Nat->S4:=fun i=>(x.sQ i).s
def SysIn.size (x:SysIn):Nat:=x.pn+sumL x.pL x.pn+(x.sn+sumL (lenS x.sS) x.sn)+(x.wn+sumL x.wL x.wn)+(x.hn+sumL x.hL x.hn)
abbrev sysV (pa:Option Addr) (pn pc:Nat) (sa:Option Addr) (sn sc:Nat) (wa:Option Addr) (wn wc:Nat) (ha:Option Addr) (hn hc:Nat):Value:=.agg #[.slice pa pn pc,.slice sa sn sc,.slice wa wn wc,.slice ha hn hc]
structure SysIn.Row (W:World) (x:SysIn):Prop where
 p:RowS W x.pa x.pn fun i=>.slice (x.pA i) (x.pL i) (x.pC i)
 s:qbk W x.sa x.sn x.sQ
 w:RowS W x.wa x.wn fun i=>.slice (x.wA i) (x.wL i) (x.wC i)
 h:RowS W x.ha x.hn fun i=>.slice (x.hA i) (x.hL i) (x.hC i)
structure SysIn.Max (x:SysIn):Prop where
 p:x.pn<=maxLen/\∀ i,i<x.pn->x.pL i<=maxLen
 s:x.sn<=maxLen/\∀ i,i<x.sn->(x.sQ i).rs.length<=maxLen/\(x.sQ i).os.length<=maxLen
 w:x.wn<=maxLen/\∀ i,i<x.wn->x.wL i<=maxLen
 h:x.hn<=maxLen/\∀ i,i<x.hn->x.hL i<=maxLen
structure SysIn.Ok (W:World) (x:SysIn):Prop where
 p:qql W x.pa x.pn x.pA x.pL x.pC x.pH
 s:qbk W x.sa x.sn x.sQ
 w:qka W x.wa x.wn x.wA x.wL x.wC x.wH
 h:qh4 W x.ha x.hn x.hA x.hL x.hC x.hH
theorem SysIn.Ok.row {W:World} {x:SysIn} (h:x.Ok W):x.Row W:=⟨h.p.row,h.s,h.w.row,h.h.row⟩
theorem SysIn.Row.below {W w:World} {x:SysIn} (h:x.Row W) (hb:Below W.heap.size W w):x.Row w:=⟨h.p.below hb,h.s.below hb,h.w.below hb,h.h.below hb⟩
theorem qd1 (x:SysIn) (w:World) (hr:x.Row w) (h:x.size<=1048576):
  Calls Tryz.prog 9 #[sysV x.pa x.pn x.pc x.sa x.sn x.sc x.wa x.wn x.wc x.ha x.hn x.hc,.int .i64 1048576] w fun e w'=>e=.returned (.int .i64 (1048576 - (x.size:Nat)))/\Below w.heap.size w w':=by
 have HR:Hid (x.Row w):=hr
 have hh:x.size=x.pn+sumL x.pL x.pn+(x.sn+sumL (lenS x.sS) x.sn)+(x.wn+sumL x.wL x.wn)+(x.hn+sumL x.hL x.hn):=rfl
 generalize e1:(1048576:Int) - x.pn - (sumL x.pL x.pn:Nat)=L1
 generalize e2:L1 - x.sn - (sumL (lenS x.sS) x.sn:Nat)=L2
 generalize e3:L2 - x.wn - (sumL x.wL x.wn:Nat)=L3
 have n1:¬ L1<0:=by omega
 have n2:¬ L2<0:=by omega
 have n3:¬ L3<0:=by omega
 have n4:¬ L3 - x.hn - (sumL x.hL x.hn:Nat)<0:=by omega
 have q1:((x.pn:Int)+(sumL x.pL x.pn:Nat)<=1048576):=by omega
 have q2:((x.sn:Int)+(sumL (lenS x.sS) x.sn:Nat)<=L1)/\L1<=1048576:=by omega
 have q3:((x.wn:Int)+(sumL x.wL x.wn:Nat)<=L2)/\L2<=1048576:=by omega
 have q4:((x.hn:Int)+(sumL x.hL x.hn:Nat)<=L3)/\L3<=1048576:=by omega
 have e4:L3 - x.hn - (sumL x.hL x.hn:Nat)=1048576 - (x.size:Nat):=by omega
 have E1:Hid ((1048576:Int) - x.pn - (sumL x.pL x.pn:Nat)=L1):=e1
 have E2:Hid (L1 - x.sn - (sumL (lenS x.sS) x.sn:Nat)=L2):=e2
 have E3:Hid (L2 - x.wn - (sumL x.wL x.wn:Nat)=L3):=e3
 have E4:Hid (L3 - x.hn - (sumL x.hL x.hn:Nat)=1048576 - (x.size:Nat)):=e4
 have Q:Hid (((x.pn:Int)+(sumL x.pL x.pn:Nat)<=1048576)/\(((x.sn:Int)+(sumL (lenS x.sS) x.sn:Nat)<=L1)/\L1<=1048576)/\(((x.wn:Int)+(sumL x.wL x.wn:Nat)<=L2)/\L2<=1048576)/\(((x.hn:Int)+(sumL x.hL x.hn:Nat)<=L3)/\L3<=1048576)):=⟨q1,q2,q3,q4⟩
 rw [e4] at n4
 clear hr h hh e1 e2 e3 e4 q1 q2 q3 q4
 go_enter Tryz.func9,Tryz.ntmps9
 go_wp2_with fail
 refine (qc4 _ _ _ _ x.pL _ _ _ (HR.out.p.below (by go_grown)) Q.out.1 (Int.le_refl _)).mono ?_
 rintro e w1 ⟨rfl,rfl⟩
 rw [E1.out]
 go_wp2_with fail
 refine (qdk _ _ _ x.sQ _ _ (HR.out.s.below (by go_grown)) Q.out.2.1.1 Q.out.2.1.2).mono ?_
 rintro e w2 ⟨rfl,b2⟩
 rw [show ((sumL (lenS fun i=>(x.sQ i).s) x.sn:Nat):Int)=(sumL (lenS x.sS) x.sn:Nat) from rfl,E2.out]
 have B2:Hid (Below w.heap.size w w2):=qah (by go_grown) b2 (by simp)
 have hw2:=b2.size
 obtain ⟨hc2,hf2⟩:=qam b2
 clear b2
 go_wp2_with fail
 refine (qfd _ _ _ _ x.wL _ _ _ (HR.out.w.below B2.out) Q.out.2.2.1.1 Q.out.2.2.1.2).mono ?_
 rintro e w3 ⟨rfl,rfl⟩
 rw [E3.out]
 go_wp2_with fail
 refine (qjg _ _ _ _ x.hL _ _ _ (HR.out.h.below B2.out) Q.out.2.2.2.1 Q.out.2.2.2.2).mono ?_
 rintro e w4 ⟨rfl,rfl⟩
 rw [E4.out]
 go_wp2
 go_ret
 exact ⟨rfl,B2.out⟩
theorem qd0 (x:SysIn) (w:World) (hr:x.Row w) (hm:x.Max) (h:1048576<x.size):
  Calls Tryz.prog 9 #[sysV x.pa x.pn x.pc x.sa x.sn x.sc x.wa x.wn x.wc x.ha x.hn x.hc,.int .i64 1048576] w fun e w'=>e=.returned (.int .i64 (-1))/\Below w.heap.size w w':=by
 have HR:Hid (x.Row w):=hr
 have HM:Hid x.Max:=hm
 have hh:x.size=x.pn+sumL x.pL x.pn+(x.sn+sumL (lenS x.sS) x.sn)+(x.wn+sumL x.wL x.wn)+(x.hn+sumL x.hL x.hn):=rfl
 have HH:Hid (1048576<x.pn+sumL x.pL x.pn+(x.sn+sumL (lenS x.sS) x.sn)+(x.wn+sumL x.wL x.wn)+(x.hn+sumL x.hL x.hn)):=hh ▸ h
 clear hr h hh hm
 by_cases q1:(x.pn:Int)+(sumL x.pL x.pn:Nat)<=1048576
 case neg=>
  have Q1:Hid (1048576<(x.pn:Int)+(sumL x.pL x.pn:Nat)):=by show 1048576<_;omega
  clear q1
  go_enter Tryz.func9,Tryz.ntmps9
  go_wp2_with fail
  refine (ql1 _ _ _ _ x.pL _ _ _ (HR.out.p.below (by go_grown)) Q1.out (by omega) (Int.le_refl _) HM.out.p.1 HM.out.p.2).mono ?_
  rintro e w1 ⟨rfl,rfl⟩
  go_wp2
  go_ret
  exact ⟨rfl,by go_grown⟩
 generalize e1:(1048576:Int) - x.pn - (sumL x.pL x.pn:Nat)=L1
 have E1:Hid ((1048576:Int) - x.pn - (sumL x.pL x.pn:Nat)=L1):=e1
 have n1:¬ L1<0:=by omega
 have n1':0<=L1/\L1<=1048576:=by omega
 have N1:Hid (0<=L1/\L1<=1048576):=n1'
 have Q1:Hid ((x.pn:Int)+(sumL x.pL x.pn:Nat)<=1048576):=q1
 by_cases q2:(x.sn:Int)+(sumL (lenS x.sS) x.sn:Nat)<=L1
 case neg=>
  have Q2:Hid (L1<(x.sn:Int)+(sumL (lenS x.sS) x.sn:Nat)):=by show L1<_;omega
  clear q1 q2 e1 n1'
  go_enter Tryz.func9,Tryz.ntmps9
  go_wp2_with fail
  refine (qc4 _ _ _ _ x.pL _ _ _ (HR.out.p.below (by go_grown)) Q1.out (Int.le_refl _)).mono ?_
  rintro e w1 ⟨rfl,rfl⟩
  rw [E1.out]
  go_wp2_with fail
  refine (qj3 _ _ _ x.sQ _ _ (HR.out.s.below (by go_grown)) Q2.out N1.out.1 N1.out.2 HM.out.s.1 HM.out.s.2).mono ?_
  rintro e w2 ⟨rfl,b2⟩
  have B2:Hid (Below w.heap.size w w2):=qah (by go_grown) b2 (by simp)
  go_wp2
  go_ret
  exact ⟨rfl,B2.out⟩
 generalize e2:L1 - x.sn - (sumL (lenS x.sS) x.sn:Nat)=L2
 have E2:Hid (L1 - x.sn - (sumL (lenS x.sS) x.sn:Nat)=L2):=e2
 have n2:¬ L2<0:=by omega
 have n2':0<=L2/\L2<=1048576:=by omega
 have N2:Hid (0<=L2/\L2<=1048576):=n2'
 have Q2:Hid ((x.sn:Int)+(sumL (lenS x.sS) x.sn:Nat)<=L1):=q2
 by_cases q3:(x.wn:Int)+(sumL x.wL x.wn:Nat)<=L2
 case neg=>
  have Q3:Hid (L2<(x.wn:Int)+(sumL x.wL x.wn:Nat)):=by show L2<_;omega
  clear q1 q2 q3 e1 e2 n1' n2'
  go_enter Tryz.func9,Tryz.ntmps9
  go_wp2_with fail
  refine (qc4 _ _ _ _ x.pL _ _ _ (HR.out.p.below (by go_grown)) Q1.out (Int.le_refl _)).mono ?_
  rintro e w1 ⟨rfl,rfl⟩
  rw [E1.out]
  go_wp2_with fail
  refine (qdk _ _ _ x.sQ _ _ (HR.out.s.below (by go_grown)) Q2.out N1.out.2).mono ?_
  rintro e w2 ⟨rfl,b2⟩
  rw [show ((sumL (lenS fun i=>(x.sQ i).s) x.sn:Nat):Int)=(sumL (lenS x.sS) x.sn:Nat) from rfl,E2.out]
  have B2:Hid (Below w.heap.size w w2):=qah (by go_grown) b2 (by simp)
  have hw2:=b2.size
  obtain ⟨hc2,hf2⟩:=qam b2
  clear b2
  go_wp2_with fail
  refine (qj2 _ _ _ _ x.wL _ _ _ (HR.out.w.below B2.out) Q3.out N2.out.1 N2.out.2 HM.out.w.1 HM.out.w.2).mono ?_
  rintro e w3 ⟨rfl,rfl⟩
  go_wp2
  go_ret
  exact ⟨rfl,B2.out⟩
 generalize e3:L2 - x.wn - (sumL x.wL x.wn:Nat)=L3
 have E3:Hid (L2 - x.wn - (sumL x.wL x.wn:Nat)=L3):=e3
 have n3:¬ L3<0:=by omega
 have n3':0<=L3/\L3<=1048576:=by omega
 have N3:Hid (0<=L3/\L3<=1048576):=n3'
 have Q3:Hid ((x.wn:Int)+(sumL x.wL x.wn:Nat)<=L2):=q3
 have Q4:Hid (L3<(x.hn:Int)+(sumL x.hL x.hn:Nat)):=by
  show L3<_
  have:=HH.out
  omega
 clear q1 q2 q3 e1 e2 e3 n1' n2' n3' HH
 go_enter Tryz.func9,Tryz.ntmps9
 go_wp2_with fail
 refine (qc4 _ _ _ _ x.pL _ _ _ (HR.out.p.below (by go_grown)) Q1.out (Int.le_refl _)).mono ?_
 rintro e w1 ⟨rfl,rfl⟩
 rw [E1.out]
 go_wp2_with fail
 refine (qdk _ _ _ x.sQ _ _ (HR.out.s.below (by go_grown)) Q2.out N1.out.2).mono ?_
 rintro e w2 ⟨rfl,b2⟩
 rw [show ((sumL (lenS fun i=>(x.sQ i).s) x.sn:Nat):Int)=(sumL (lenS x.sS) x.sn:Nat) from rfl,E2.out]
 have B2:Hid (Below w.heap.size w w2):=qah (by go_grown) b2 (by simp)
 have hw2:=b2.size
 obtain ⟨hc2,hf2⟩:=qam b2
 clear b2
 go_wp2_with fail
 refine (qfd _ _ _ _ x.wL _ _ _ (HR.out.w.below B2.out) Q3.out N2.out.2).mono ?_
 rintro e w3 ⟨rfl,rfl⟩
 rw [E3.out]
 go_wp2_with fail
 refine (qjf _ _ _ _ x.hL _ _ _ (HR.out.h.below B2.out) Q4.out N3.out.1 N3.out.2 HM.out.h.1 HM.out.h.2).mono ?_
 rintro e w4 ⟨rfl,rfl⟩
 go_wp2
 go_ret
 exact ⟨rfl,B2.out⟩
structure ql8 (w:World) (lo hi:Nat) (x:SysIn) (v:Value) (D1 D2 D3 D4:Nat) (b1:Nat->Nat) (vs:Nat->Value) (b3 b4:Nat->Nat) (h1 h2 h3:Nat):Prop where
 val:v=sysV (some ⟨D1,0,none⟩) x.pn x.pn (some ⟨D2,0,none⟩) x.sn x.sn (some ⟨D3,0,none⟩) x.wn x.wn (some ⟨D4,0,none⟩) x.hn x.hn
 pp:qbm w D1 h1 x.pn x.pL b1 x.pH
 ss:qaw w D2 h2 x.sn x.sS vs
 ww:qa6 w D3 h3 x.wn x.wL b3 x.wH
 hh:qav w D4 hi x.hn x.hL b4 x.hH
 lo:lo<=D1
 o1:h1<=D2
 o2:h2<=D3
 o3:h3<=D4
def qch (w:World) (lo hi:Nat) (x:SysIn) (v:Value):Prop:=∃ D1 D2 D3 D4 b1 vs b3 b4 h1 h2 h3,ql8 w lo hi x v D1 D2 D3 D4 b1 vs b3 b4 h1 h2 h3
theorem ql8.hi {w:World} {lo hi:Nat} {x:SysIn} {v:Value} {D1 D2 D3 D4:Nat} {b1:Nat->Nat} {vs:Nat->Value} {b3 b4:Nat->Nat} {h1 h2 h3:Nat} (o:ql8 w lo hi x v D1 D2 D3 D4 b1 vs b3 b4 h1 h2 h3):h1<=hi/\h2<=hi/\h3<=hi/\hi<=w.heap.size/\lo<hi:=by
 have:=o.pp.lt
 have:=o.ss.lt
 have:=o.ww.lt
 have:=o.hh.lt
 have:=o.lo
 have:=o.o1
 have:=o.o2
 have:=o.o3
 have:=o.hh.le
 omega
theorem qch.below {w w':World} {lo hi:Nat} {x:SysIn} {v:Value} {B:Nat} (o:qch w lo hi x v) (hb:Below B w w') (hB:hi<=B):qch w' lo hi x v:=by
 obtain ⟨D1,D2,D3,D4,b1,vs,b3,b4,h1,h2,h3,o⟩:=o
 obtain ⟨q1,q2,q3,-,-⟩:=o.hi
 exact ⟨D1,D2,D3,D4,b1,vs,b3,b4,h1,h2,h3,o.val,o.pp.below hb (by omega),o.ss.below hb (by omega),o.ww.below hb (by omega),o.hh.below hb hB,o.lo,o.o1,o.o2,o.o3⟩
def cnt (eh:Nat->E3) (kd pr:Int) (n:Nat):Nat:=(plN eh kd pr n).length
theorem qvs (eh:Nat->E3) (kd pr:Int):cnt eh kd pr 0=0:=rfl
theorem qkq {eh:Nat->E3} {kd pr:Int} {n:Nat} (h:hitB eh kd pr n=true):cnt eh kd pr (n+1)=cnt eh kd pr n+1:=by
 unfold cnt
 rw [plN,if_pos h,List.length_append]
 rfl
theorem qo4 {eh:Nat->E3} {kd pr:Int} {n:Nat} (h:hitB eh kd pr n=false):cnt eh kd pr (n+1)=cnt eh kd pr n:=by
 unfold cnt
 rw [plN,if_neg (by rw [h];decide)]
theorem qmv (eh:Nat->E3) (kd pr:Int) (n:Nat):cnt eh kd pr n<=n:=qhm eh kd pr n
theorem qkr (eh:Nat->E3) (kd pr:Int) {a b:Nat} (h:a<=b):cnt eh kd pr a<=cnt eh kd pr b:=by
 induction b with
 | zero=>
  have:a=0:=by omega
  subst this
  exact Nat.le_refl _
 | succ b ih=>
  by_cases e:a=b+1
  ·subst e
   exact Nat.le_refl _
  ·have:=ih (by omega)
   rcases zK (hitB eh kd pr b) with t | t
   ·rw [qkq t]
    omega
   ·rw [qo4 t]
    exact this
theorem qey {eh:Nat->E3} {kd pr:Int} {i:Nat}:hitB eh kd pr i=true ↔ (eh i).k=kd/\(eh i).q=pr:=by
 simp [hitB]
structure Hs where
 n:Nat
 l:Nat->Nat
 e:Nat->Nat->E3
def Hs.Peers (x:Hs):Prop:=∀ p,p<x.n->∀ i,i<x.l p->0<=(x.e p i).q/\(x.e p i).q<(x.n:Int)
def Hs.Can (x:Hs) (d:Nat->Nat) (p:Nat):Prop:=
 d p<x.l p/\((x.e p (d p)).k=3->cnt (x.e p) 3 (x.e p (d p)).q (d p)<cnt (x.e (x.e p (d p)).q.toNat) 2 p (d (x.e p (d p)).q.toNat))
def up (d:Nat->Nat) (p:Nat):Nat->Nat:=fun i=>if i=p then d i+1 else d i
theorem qeu (d:Nat->Nat) (p:Nat):up d p p=d p+1:=by simp [up]
theorem up_other {d:Nat->Nat} {p i:Nat} (h:i≠p):up d p i=d i:=by simp [up,h]
inductive Hs.Put (x:Hs):(Nat->Nat)->Prop
 | start:x.Put (fun _=>0)
 | next {d:Nat->Nat} {p:Nat}:x.Put d->p<x.n->x.Can d p->x.Put (up d p)
def Hs.All (x:Hs) (d:Nat->Nat):Prop:=∀ p,p<x.n->d p=x.l p
def Hs.Row (x:Hs):Prop:=∃ d,x.Put d/\x.All d
theorem Hs.Put.le {x:Hs} {d:Nat->Nat} (h:x.Put d):∀ p,d p<=x.l p:=by
 induction h with
 | start=>exact fun _=>Nat.zero_le _
 | next _ _ hc ih=>
  rename_i d p _ _
  intro i
  by_cases e:i=p
  ·subst e
   rw [qeu]
   exact hc.1
  ·rw [up_other e]
   exact ih i
theorem Hs.Put.stuck {x:Hs} {d s:Nat->Nat} (h:x.Put d) (hp:x.Peers) (hs:∀ p,p<x.n->¬ x.Can s p):∀ p,p<x.n->d p<=s p:=by
 induction h with
 | start=>exact fun _ _=>Nat.zero_le _
 | next _ hpn hc ih=>
  rename_i d p _
  intro i hi
  by_cases e:i=p
  ·subst e
   rw [qeu]
   have h1:=ih i hi
   by_cases e:d i=s i
   ·exfalso
    refine hs i hi ⟨by rw [<- e];exact hc.1,fun hk=>?_⟩
    rw [<- e] at hk ⊢
    have h2:=hc.2 hk
    have hq:=hp i hi (d i) hc.1
    exact zL h2 (qkr _ _ _ (ih _ (by omega)))
   ·omega
  ·rw [up_other e]
   exact ih i hi
theorem Hs.row_iff {x:Hs} {s:Nat->Nat} (h:x.Put s) (hp:x.Peers) (hs:∀ p,p<x.n->¬ x.Can s p):x.Row ↔ x.All s:=by
 refine ⟨fun ⟨d,hd,ha⟩ p hpn=>?_,fun ha=>⟨s,h,ha⟩⟩
 have h1:=hd.stuck hp hs p hpn
 have h2:=h.le p
 have h3:=ha p hpn
 omega
def Hs.opn (x:Hs) (d:Nat->Nat) (a b:Nat):Int:=(cnt (x.e a) 2 b (d a):Int) - (cnt (x.e b) 3 a (d b):Int)
theorem Hs.opn_start (x:Hs) (a b:Nat):x.opn (fun _=>0) a b=0:=by simp [Hs.opn,qvs]
theorem Hs.can_iff {x:Hs} {d:Nat->Nat} {p:Nat} (hp:x.Peers) (hpn:p<x.n):x.Can d p ↔ d p<x.l p/\((x.e p (d p)).k=3->0<x.opn d (x.e p (d p)).q.toNat p):=by
 unfold Hs.Can Hs.opn
 refine and_congr_right fun hl=>?_
 have hq:=hp p hpn _ hl
 rw [show (((x.e p (d p)).q.toNat:Nat):Int)=(x.e p (d p)).q by omega]
 refine ⟨fun h hk=>?_,fun h hk=>?_⟩
 ·have:=h hk
  omega
 ·have:=h hk
  omega
theorem Hs.opn_up {x:Hs} {d:Nat->Nat} {p a b:Nat}:x.opn (up d p) a b=x.opn d a b+(if a=p/\(x.e p (d p)).k=2/\(x.e p (d p)).q=(b:Int) then 1 else 0) - (if b=p/\(x.e p (d p)).k=3/\(x.e p (d p)).q=(a:Int) then 1 else 0):=by
 have hA:(cnt (x.e a) 2 b (up d p a):Int)=cnt (x.e a) 2 b (d a)+(if a=p/\(x.e p (d p)).k=2/\(x.e p (d p)).q=(b:Int) then 1 else 0):=by
  by_cases e:a=p
  ·subst e
   rw [qeu]
   rcases zK (hitB (x.e a) 2 b (d a)) with t | t
   ·rw [qkq t,if_pos ⟨rfl,qey.1 t⟩]
    omega
   ·rw [qo4 t,if_neg (fun h=>by rw [qey.2 h.2] at t;cases t)]
    omega
  ·rw [up_other e,if_neg (fun h=>e h.1)]
   omega
 have hB:(cnt (x.e b) 3 a (up d p b):Int)=cnt (x.e b) 3 a (d b)+(if b=p/\(x.e p (d p)).k=3/\(x.e p (d p)).q=(a:Int) then 1 else 0):=by
  by_cases e:b=p
  ·subst e
   rw [qeu]
   rcases zK (hitB (x.e b) 3 a (d b)) with t | t
   ·rw [qkq t,if_pos ⟨rfl,qey.1 t⟩]
    omega
   ·rw [qo4 t,if_neg (fun h=>by rw [qey.2 h.2] at t;cases t)]
    omega
  ·rw [up_other e,if_neg (fun h=>e h.1)]
   omega
 unfold Hs.opn
 rw [hA,hB]
 omega
open Go.Sort
noncomputable def qB (p:Prop):Bool:=@decide p (Classical.propDecidable _)
theorem qaz {p:Prop} (h:p):qB p=true:=by simp [qB,h]
theorem qar {p:Prop} (h:¬ p):qB p=false:=by simp [qB,h]
theorem qns {p:Prop}:qB p=true ↔ p:=by simp [qB]
structure HisE (w:World) (ha:Option Addr) (hA:Nat->Option Addr) (hC:Nat->Nat) (y:Hs):Prop where
 row:RowS w ha y.n fun i=>.slice (hA i) (y.l i) (hC i)
 ev:∀ i,i<y.n->EvL w (hA i) (y.l i) (y.e i)
theorem HisE.below {w w':World} {ha:Option Addr} {hA:Nat->Option Addr} {hC:Nat->Nat} {y:Hs} (h:HisE w ha hA hC y) (hb:Below w.heap.size w w'):HisE w' ha hA hC y:=⟨h.row.below hb,fun i hi=>(h.ev i hi).below hb⟩
structure HisP (w:World) (X:Nat) (ha:Option Addr) (hc:Nat) (y:Hs) (d:Nat->Nat):Prop where
 c4:w.cell? ⟨X,4,none⟩=some (.slice ha y.n hc)
 pt:∀ i,i<4->w.cell? ⟨X,5+i,none⟩=some (.int .i64 (d i))
 op:∀ a b,a<4->b<4->w.cell? ⟨X,9+a*4+b,none⟩=some (.int .i64 (y.opn d a b))
 fr:∀ j,w.frozen? ⟨X,j,none⟩=false
theorem HisP.lt {w:World} {X:Nat} {ha:Option Addr} {hc:Nat} {y:Hs} {d:Nat->Nat} (h:HisP w X ha hc y d):X<w.heap.size:=zJ w _ h.c4
theorem HisP.blk {w w':World} {X:Nat} {ha:Option Addr} {hc:Nat} {y:Hs} {d:Nat->Nat} (h:HisP w X ha hc y d) (hb:w'.heap[X]? = w.heap[X]?):HisP w' X ha hc y d:=
 ⟨(zH hb).trans h.c4,fun i hi=>(zH hb).trans (h.pt i hi),fun a b h1 h2=>(zH hb).trans (h.op a b h1 h2),fun j=>(zI hb).trans (h.fr j)⟩
theorem HisP.below {w w':World} {X:Nat} {ha:Option Addr} {hc:Nat} {y:Hs} {d:Nat->Nat} (h:HisP w X ha hc y d) (hb:Below w.heap.size w w'):HisP w' X ha hc y d:=h.blk (hb.block X h.lt)
theorem qal {w:World} {a:Addr} {v:Value} (h:w.cell? a=some v) (o:Obj):(w.alloc o).cell? a=some v:=(World.cell?_alloc_lt w o a (zJ w _ h)).trans h
theorem qrv (X:Nat) (ha:Option Addr) (hc:Nat) (hA:Nat->Option Addr) (hC:Nat->Nat) (y:Hs) (d:Nat->Nat) (k:Nat) (w:World) (hE:HisE w ha hA hC y) (hP:HisP w X ha hc y d) (h4:y.n<=4) (hk:k<y.n) (hp:y.Peers) (hl:∀ i,i<y.n->y.l i<=200) (hd:∀ i,d i<=y.l i):
  Calls Tryz.prog 158 #[.pointer (some ⟨X,4,none⟩),.int .i64 k] w fun e w'=>e=.returned (.bool (qB (y.Can d k)))/\Below w.heap.size w w':=by
 have HE:Hid (HisE w ha hA hC y):=hE
 have HP:Hid (HisP w X ha hc y d):=hP
 have HCan:Hid (y.Can d k ↔ d k<y.l k/\((y.e k (d k)).k=3->0<y.opn d (y.e k (d k)).q.toNat k)):=Hs.can_iff hp hk
 have hk4:(k:Int)<4:=by omega
 have hk':(k:Int)<(y.n:Int):=by omega
 have hl200:(y.l k:Int)<=200:=by have:=hl k hk;omega
 have hdk:(d k:Int)<=(y.l k:Int):=by have:=hd k;omega
 obtain ⟨bh,oh,eh,ch⟩:=hE.row.at hk
 obtain ⟨c4,pt,op,-⟩:=hP
 have pk:=pt k (by omega)
 rw [eh] at c4
 clear hE
 by_cases he:d k=y.l k
 ·have HN:Hid (qB (y.Can d k)=false):=qar fun h=>by have:=h.1;omega
  rw [he] at pk
  clear op pt
  go_enter Tryz.func158,Tryz.ntmps158
  go_wp2_with fail
  go_quiet (fail)
  go_wp2
  go_ret
  rw [HN.out]
  exact ⟨rfl,yE (Below.refl _ _) _⟩
 ·have hlt:d k<y.l k:=by have:=hd k;omega
  have hlt':(d k:Int)<(y.l k:Int):=by omega
  have hne:((d k:Int) == (y.l k:Int))=false:=by
   have:¬ (d k:Int)=(y.l k:Int):=by omega
   simpa using this
  obtain ⟨b,off,ea,zb,e0,e1,e2⟩:=(HE.out.ev k hk).at hlt
  rw [ea] at ch
  have n1:w.heap.size≠X:=by have:=HP.out.lt;omega
  have n2:w.heap.size≠b:=by omega
  have n3:w.heap.size≠bh:=by have:=zJ w _ ch;simp at this;omega
  clear zb
  have hq:=hp k hk (d k) hlt
  obtain ⟨q,hqe⟩:∃ q:Nat,(y.e k (d k)).q=(q:Int):=⟨(y.e k (d k)).q.toNat,by omega⟩
  have hq4:(q:Int)<4:=by omega
  have oq:=op q k (by omega) (by omega)
  rw [hqe] at e1
  rcases zK ((y.e k (d k)).k != 3) with t | t
  ·have HN:Hid (qB (y.Can d k)=true):=qaz (HCan.out.2 ⟨hlt,fun h=>by rw [h] at t;cases t⟩)
   clear op pt hq hqe oq HCan
   generalize (y.e k (d k)).k=kd at *
   generalize (y.e k (d k)).v=vd at *
   go_enter Tryz.func158,Tryz.ntmps158
   go_wp2_with fail
   go_quiet (fail)
   go_wp2_with fail
   have BD:Hid (Below w.heap.size w (w.drewN nq)):=yE (Below.refl _ _) _
   replace n1:(w.drewN nq).heap.size≠X:=n1
   replace n2:(w.drewN nq).heap.size≠b:=n2
   replace n3:(w.drewN nq).heap.size≠bh:=n3
   replace c4:(w.drewN nq).cell? ⟨X,4,none⟩=_:=c4
   replace pk:(w.drewN nq).cell? ⟨X,5+k,none⟩=_:=pk
   replace ch:(w.drewN nq).cell? ⟨bh,oh+k,none⟩=_:=ch
   replace e0:(w.drewN nq).cell? ⟨b,off+d k*3,none⟩=_:=e0
   replace e1:(w.drewN nq).cell? ⟨b,off+d k*3+1,none⟩=_:=e1
   replace e2:(w.drewN nq).cell? ⟨b,off+d k*3+2,none⟩=_:=e2
   generalize w.drewN nq=wd at *
   have c4':=qal c4
   have pk':=qal pk
   have ch':=qal ch
   have e0':=qal e0
   have e1':=qal e1
   have e2':=qal e2
   go_region
   all_goals
    go_wp2_with fail
    go_quiet (fail)
    go_wp2
    go_ret
    rw [HN.out]
    exact ⟨rfl,yE (BD.out.trans ((zT _ _).mono BD.out.size)).drew _⟩
  ·have hk3:(y.e k (d k)).k=3:=by simpa using t
   have HN:Hid (qB (y.Can d k)=decide (0<y.opn d q k)):=by
    show qB (y.Can d k)=decide (0<y.opn d q k)
    have e:(y.e k (d k)).q.toNat=q:=by omega
    by_cases h0:0<y.opn d q k
    ·rw [decide_eq_true h0]
     exact qaz (HCan.out.2 ⟨hlt,fun _=>by rw [e];exact h0⟩)
    ·rw [decide_eq_false h0]
     refine qar fun h=>h0 ?_
     have:=(HCan.out.1 h).2 hk3
     rwa [e] at this
   rw [hk3] at e0
   clear op pt hq hqe HCan t hk3
   generalize (y.e k (d k)).v=vd at *
   generalize y.opn d q k=on at *
   go_enter Tryz.func158,Tryz.ntmps158
   go_wp2_with fail
   go_quiet (fail)
   go_wp2_with fail
   have BD:Hid (Below w.heap.size w (w.drewN nq)):=yE (Below.refl _ _) _
   replace n1:(w.drewN nq).heap.size≠X:=n1
   replace n2:(w.drewN nq).heap.size≠b:=n2
   replace n3:(w.drewN nq).heap.size≠bh:=n3
   replace c4:(w.drewN nq).cell? ⟨X,4,none⟩=_:=c4
   replace pk:(w.drewN nq).cell? ⟨X,5+k,none⟩=_:=pk
   replace ch:(w.drewN nq).cell? ⟨bh,oh+k,none⟩=_:=ch
   replace e0:(w.drewN nq).cell? ⟨b,off+d k*3,none⟩=_:=e0
   replace e1:(w.drewN nq).cell? ⟨b,off+d k*3+1,none⟩=_:=e1
   replace e2:(w.drewN nq).cell? ⟨b,off+d k*3+2,none⟩=_:=e2
   replace oq:(w.drewN nq).cell? ⟨X,9+q*4+k,none⟩=_:=oq
   generalize w.drewN nq=wd at *
   have c4':=qal c4
   have pk':=qal pk
   have ch':=qal ch
   have e0':=qal e0
   have e1':=qal e1
   have e2':=qal e2
   have oq':=qal oq
   go_region
   all_goals
    go_wp2_with fail
    go_quiet (fail)
    go_wp2
    go_ret
    rw [HN.out]
    exact ⟨rfl,yE (BD.out.trans ((zT _ _).mono BD.out.size)).drew _⟩
theorem HisP.put {w w':World} {X:Nat} {ha:Option Addr} {hc:Nat} {y:Hs} {d:Nat->Nat} {k:Nat} (h:HisP w X ha hc y d) (c4:w'.cell? ⟨X,4,none⟩=w.cell? ⟨X,4,none⟩) (pt:∀ i,i<4->w'.cell? ⟨X,5+i,none⟩=if i=k then some (.int .i64 (d k+1:Nat)) else w.cell? ⟨X,5+i,none⟩)
  (op:∀ a b,a<4->b<4->w'.cell? ⟨X,9+a*4+b,none⟩=some (.int .i64 (y.opn (up d k) a b))) (fr:∀ j,w'.frozen? ⟨X,j,none⟩=false):HisP w' X ha hc y (up d k):=by
 refine ⟨c4.trans h.c4,fun i hi=>?_,op,fr⟩
 rw [pt i hi]
 by_cases e:i=k
 ·subst e
  rw [if_pos rfl,qeu]
 ·rw [if_neg e,up_other e]
  exact h.pt i hi
theorem Hs.opn_le {y:Hs} {d:Nat->Nat} (hd:∀ i,d i<=y.l i) (hl:∀ i,i<y.n->y.l i<=200) {a b:Nat} (ha:a<y.n) (hb:b<y.n):-200<=y.opn d a b/\y.opn d a b<=200:=by
 have h1:=qmv (y.e a) 2 b (d a)
 have h2:=qmv (y.e b) 3 a (d b)
 have h3:=hd a
 have h4:=hd b
 have h5:=hl a ha
 have h6:=hl b hb
 unfold Hs.opn
 omega
theorem qim {w:World} {X i j m:Nat} {u v:Value} {o:Obj} (h1:m≠i) (h2:m≠j) (hX:X<w.heap.size):(((w.setCell ⟨X,i,none⟩ u).setCell ⟨X,j,none⟩ v).alloc o).cell? ⟨X,m,none⟩=w.cell? ⟨X,m,none⟩:=by
 rw [World.cell?_alloc_lt _ _ _ (by simpa [World.setCell] using hX),World.cell?_setCell_other _ _ _ _ (by intro e;injection e with _ e;exact h2 e.symm),World.cell?_setCell_other _ _ _ _ (by intro e;injection e with _ e;exact h1 e.symm)]
theorem qrx {w:World} {X i j:Nat} {u v:Value} {o:Obj} (h1:i≠j) (hc:(w.cell? ⟨X,i,none⟩).isSome=true) (hX:X<w.heap.size):(((w.setCell ⟨X,i,none⟩ u).setCell ⟨X,j,none⟩ v).alloc o).cell? ⟨X,i,none⟩=some u:=by
 rw [World.cell?_alloc_lt _ _ _ (by simpa [World.setCell] using hX),World.cell?_setCell_other _ _ _ _ (by intro e;injection e with _ e;exact h1 e.symm),World.cell?_setCell_same' _ _ _ hc]
theorem qry {w:World} {X i j:Nat} {u v:Value} {o:Obj} (h1:i≠j) (hc:(w.cell? ⟨X,j,none⟩).isSome=true) (hX:X<w.heap.size):(((w.setCell ⟨X,i,none⟩ u).setCell ⟨X,j,none⟩ v).alloc o).cell? ⟨X,j,none⟩=some v:=by
 rw [World.cell?_alloc_lt _ _ _ (by simpa [World.setCell] using hX),World.cell?_setCell_same']
 rw [World.cell?_setCell_other _ _ _ _ (by intro e;injection e with _ e;exact h1 e)]
 exact hc
theorem qea {w:World} {o:Obj} {X j:Nat} (hX:X<w.heap.size):(w.alloc o).frozen? ⟨X,j,none⟩=w.frozen? ⟨X,j,none⟩:=(zT w o).frozen (p:=⟨X,j,none⟩) hX
theorem HisP.put2 {w:World} {X:Nat} {ha:Option Addr} {hc:Nat} {y:Hs} {d:Nat->Nat} {k i0 j0:Nat} {on:Int} {o:Obj} (h:HisP w X ha hc y d) (hk:k<4) (hi:i0<4) (hj:j0<4) (HO:∀ a b,y.opn (up d k) a b=if a=i0/\b=j0 then on else y.opn d a b):
  HisP (((w.setCell ⟨X,9+i0*4+j0,none⟩ (.int .i64 on)).setCell ⟨X,5+k,none⟩ (.int .i64 ((d k:Int)+1))).alloc o) X ha hc y (up d k)/\qaa (fun b=>b=X) w (((w.setCell ⟨X,9+i0*4+j0,none⟩ (.int .i64 on)).setCell ⟨X,5+k,none⟩ (.int .i64 ((d k:Int)+1))).alloc o):=by
 have hX:=h.lt
 refine ⟨h.put (k:=k) (qim (by omega) (by omega) hX) (fun i hi'=>?_) (fun a b ha' hb'=>?_) (fun j=>?_),?_⟩
 ·by_cases e:i=k
  ·subst e
   rw [if_pos rfl,qry (by omega) (by rw [h.pt i hi'];rfl) hX]
   rfl
  ·rw [if_neg e]
   exact qim (by omega) (by omega) hX
 ·rw [HO]
  by_cases e:a=i0/\b=j0
  ·obtain ⟨rfl,rfl⟩:=e
   rw [if_pos ⟨rfl,rfl⟩]
   exact qrx (by omega) (by rw [h.op a b ha' hb'];rfl) hX
  ·rw [if_neg e,<- h.op a b ha' hb']
   exact qim (by omega) (by omega) hX
 ·rw [qea (by simpa [World.setCell] using hX),World.frozen?_setCell,World.frozen?_setCell]
  exact h.fr j
 ·exact ((qaa.of_set (P:=fun b=>b=X) w (a:=⟨X,_,none⟩) rfl _).trans (qaa.of_set (P:=fun b=>b=X) _ (a:=⟨X,_,none⟩) rfl _)).trans (qaa.of_below (zT _ _))
theorem HisP.put1 {w:World} {X:Nat} {ha:Option Addr} {hc:Nat} {y:Hs} {d:Nat->Nat} {k:Nat} {o:Obj} (h:HisP w X ha hc y d) (hk:k<4) (HO:∀ a b,y.opn (up d k) a b=y.opn d a b):
  HisP ((w.setCell ⟨X,5+k,none⟩ (.int .i64 ((d k:Int)+1))).alloc o) X ha hc y (up d k)/\qaa (fun b=>b=X) w ((w.setCell ⟨X,5+k,none⟩ (.int .i64 ((d k:Int)+1))).alloc o):=by
 have hX:=h.lt
 have ho:∀ m,m≠5+k->((w.setCell ⟨X,5+k,none⟩ (.int .i64 ((d k:Int)+1))).alloc o).cell? ⟨X,m,none⟩=w.cell? ⟨X,m,none⟩:=fun m hm=>by
  rw [World.cell?_alloc_lt _ _ _ (by simpa [World.setCell] using hX),World.cell?_setCell_other _ _ _ _ (by intro e;injection e with _ e;exact hm e.symm)]
 refine ⟨h.put (k:=k) (ho 4 (by omega)) (fun i hi'=>?_) (fun a b ha' hb'=>?_) (fun j=>?_),?_⟩
 ·by_cases e:i=k
  ·subst e
   rw [if_pos rfl,World.cell?_alloc_lt _ _ _ (by simpa [World.setCell] using hX),World.cell?_setCell_same' _ _ _ (by rw [h.pt i hi'];rfl)]
   rfl
  ·rw [if_neg e]
   exact ho _ (by omega)
 ·rw [HO,<- h.op a b ha' hb']
  exact ho _ (by omega)
 ·rw [qea (by simpa [World.setCell] using hX),World.frozen?_setCell]
  exact h.fr j
 ·exact (qaa.of_set (P:=fun b=>b=X) w (a:=⟨X,_,none⟩) rfl _).trans (qaa.of_below (zT _ _))
theorem HisP.dr {w:World} {X:Nat} {ha:Option Addr} {hc:Nat} {y:Hs} {d:Nat->Nat} (h:HisP w X ha hc y d):HisP w.drew X ha hc y d:=⟨h.c4,h.pt,h.op,h.fr⟩
theorem qaa.dr {P:Nat->Prop} {w w':World} (h:qaa P w w'):qaa P w w'.drew:=⟨h.os,h.tape,h.output,h.size,h.block⟩
theorem qsw (X:Nat) (ha:Option Addr) (hc:Nat) (hA:Nat->Option Addr) (hC:Nat->Nat) (y:Hs) (d:Nat->Nat) (k:Nat) (w:World) (hE:HisE w ha hA hC y) (hP:HisP w X ha hc y d) (h4:y.n<=4) (hk:k<y.n) (hp:y.Peers) (hl:∀ i,i<y.n->y.l i<=200) (hd:∀ i,d i<=y.l i) (hlt:d k<y.l k):
  Calls Tryz.prog 159 #[.pointer (some ⟨X,4,none⟩),.int .i64 k] w fun e w'=>e=.returned (.tuple #[])/\HisP w' X ha hc y (up d k)/\qaa (fun b=>b=X) w w':=by
 have HP:Hid (HisP w X ha hc y d):=hP
 have hk4:(k:Int)<4:=by omega
 have hk':(k:Int)<(y.n:Int):=by omega
 have hl200:(y.l k:Int)<=200:=by have:=hl k hk;omega
 have hlt':(d k:Int)<(y.l k:Int):=by omega
 obtain ⟨bh,oh,eh,ch⟩:=hE.row.at hk
 obtain ⟨c4,pt,op,fr⟩:=hP
 have pk:=pt k (by omega)
 rw [eh] at c4
 obtain ⟨b,off,ea,zb,e0,e1,e2⟩:=(hE.ev k hk).at hlt
 rw [ea] at ch
 have n1:w.heap.size≠X:=by have:=HP.out.lt;omega
 have n2:w.heap.size≠b:=by omega
 have n3:w.heap.size≠bh:=by have:=zJ w _ ch;simp at this;omega
 have zX:X<w.heap.size:=HP.out.lt
 have hq:=hp k hk (d k) hlt
 obtain ⟨q,hqe⟩:∃ q:Nat,(y.e k (d k)).q=(q:Int):=⟨(y.e k (d k)).q.toNat,by omega⟩
 have hq4:(q:Int)<4:=by omega
 have hqn:q<y.n:=by omega
 rw [hqe] at e1
 have c4':=qal c4
 have pk':=qal pk
 have ch':=qal ch
 have e0':=qal e0
 have e1':=qal e1
 have e2':=qal e2
 have fr':∀ j,w.frozen? ⟨X,j,none⟩=false:=fr
 rcases zK ((y.e k (d k)).k == 2) with t | t
 ·have hk2:(y.e k (d k)).k=2:=by simpa using t
  have oq:=op k q (by omega) (by omega)
  obtain ⟨o1,o2⟩:=Hs.opn_le hd hl hk hqn
  have oq':=qal oq
  rw [hk2] at e0 e0'
  have HO:Hid (∀ a b,y.opn (up d k) a b=if a=k/\b=q then y.opn d k q+1 else y.opn d a b):=fun a b=>by
   rw [Hs.opn_up,hk2,hqe]
   by_cases e:a=k/\b=q
   ·obtain ⟨rfl,rfl⟩:=e
    simp
   ·rw [if_neg e,if_neg (fun h=>e ⟨h.1,by omega⟩),if_neg (fun h=>absurd h.2.1 (by decide))]
    omega
  clear op pt t hk2 hq hqe hp hE eh ea
  generalize (y.e k (d k)).v=vd at *
  generalize y.opn d k q=on at *
  go_enter Tryz.func159,Tryz.ntmps159
  go_wp2_with fail
  go_region
  all_goals
   go_wp2_with fail
   go_region
   all_goals
    go_wp2_with fail
    go_region
    all_goals
     go_wp2_with fail
     go_end0
     have hz:=HP.out.put2 (o:=oQ0 2 q vd) (show k<4 by omega) (show k<4 by omega) (show q<4 by omega) HO.out
     exact ⟨rfl,hz.1.dr.dr.dr,hz.2.dr.dr.dr⟩
 rcases zK ((y.e k (d k)).k == 3) with t3 | t3
 ·have hk3:(y.e k (d k)).k=3:=by simpa using t3
  have oq:=op q k (by omega) (by omega)
  obtain ⟨o1,o2⟩:=Hs.opn_le hd hl hqn hk
  have oq':=qal oq
  rw [hk3] at e0 e0'
  have HO:Hid (∀ a b,y.opn (up d k) a b=if a=q/\b=k then y.opn d q k - 1 else y.opn d a b):=fun a b=>by
   rw [Hs.opn_up,hk3,hqe]
   by_cases e:a=q/\b=k
   ·obtain ⟨rfl,rfl⟩:=e
    simp
   ·rw [if_neg e,if_neg (fun h=>absurd h.2.1 (by decide)),if_neg (fun h=>e ⟨by omega,h.1⟩)]
    omega
  clear op pt t t3 hk3 hq hqe hp hE eh ea
  generalize (y.e k (d k)).v=vd at *
  generalize y.opn d q k=on at *
  go_enter Tryz.func159,Tryz.ntmps159
  go_wp2_with fail
  go_region
  all_goals
   go_wp2_with fail
   go_region
   all_goals
    go_wp2_with fail
    go_region
    all_goals
     go_wp2_with fail
     go_end0
     have hz:=HP.out.put2 (o:=oQ0 3 q vd) (show k<4 by omega) (show q<4 by omega) (show k<4 by omega) HO.out
     exact ⟨rfl,hz.1.dr.dr.dr,hz.2.dr.dr.dr⟩
 ·have HO:Hid (∀ a b,y.opn (up d k) a b=y.opn d a b):=fun a b=>by
   have t2:(y.e k (d k)).k≠2:=by simpa using t
   have t3':(y.e k (d k)).k≠3:=by simpa using t3
   rw [Hs.opn_up,if_neg (fun h=>t2 h.2.1),if_neg (fun h=>t3' h.2.1)]
   omega
  clear op pt hq hqe hp hE eh ea
  generalize (y.e k (d k)).v=vd at *
  generalize (y.e k (d k)).k=kd at *
  go_enter Tryz.func159,Tryz.ntmps159
  go_wp2_with fail
  go_region
  all_goals
   go_wp2_with fail
   go_region
   all_goals
    go_wp2_with fail
    go_end0
    have hz:=HP.out.put1 (o:=oQ0 kd q vd) (show k<4 by omega) HO.out
    exact ⟨rfl,hz.1.dr.dr,hz.2.dr.dr⟩
def NxtR (w:World) (y:Hs) (d:Nat->Nat) (e:Ending) (w':World):Prop:=
 Below w.heap.size w w'/\((∃ k,k<y.n/\y.Can d k/\e=.returned (.int .i64 (k:Nat)))\/(e=.returned (.int .i64 (-1))/\∀ p,p<y.n->¬ y.Can d p))
theorem qq4 (X:Nat) (ha:Option Addr) (hc:Nat) (hA:Nat->Option Addr) (hC:Nat->Nat) (y:Hs) (d:Nat->Nat) (w:World) (hE:HisE w ha hA hC y) (hP:HisP w X ha hc y d) (h4:y.n<=4) (hp:y.Peers) (hl:∀ i,i<y.n->y.l i<=200) (hd:∀ i,d i<=y.l i):
  Calls Tryz.prog 192 #[.pointer (some ⟨X,4,none⟩)] w (NxtR w y d):=by
 have HE:Hid (HisE w ha hA hC y):=hE
 have HP:Hid (HisP w X ha hc y d):=hP
 have HH:Hid (y.Peers/\(∀ i,i<y.n->y.l i<=200)/\∀ i,d i<=y.l i):=⟨hp,hl,hd⟩
 have hn:(y.n:Int)<=4:=by omega
 obtain ⟨c4,-,-,-⟩:=hP
 clear hE hp hl hd
 go_enter Tryz.func192,Tryz.ntmps192
 go_wp2_with fail
 clear c4
 go_loopw [9] (fun i wr=>∃ k:Nat,k<=y.n/\i=.int .i64 k/\Below w.heap.size w wr/\Hid (∀ j,j<k->¬ y.Can d j)) (fun i _=>y.n - (intOf i).toNat)
 case atStart=>exact ⟨0,Nat.zero_le _,rfl,Below.refl _ _,fun j hj=>by omega⟩
 case round=>
  obtain ⟨k,hk,rfl,hbw,HZ⟩:=hrel
  by_cases hlt:k<y.n
  ·have hlt':(k:Int)<(y.n:Int):=by omega
   go_wp2_with fail
   refine (qrv X ha hc hA hC y d k wr (HE.out.below hbw) (HP.out.below hbw) h4 hlt HH.out.1 HH.out.2.1 HH.out.2.2).mono ?_
   rintro e w1 ⟨rfl,b1⟩
   have B1:Hid (Below w.heap.size w w1):=hbw.trans (b1.mono hbw.size)
   clear b1 hbw
   by_cases hc':y.Can d k
   ·have HF:Hid (NxtR w y d (.returned (.int .i64 k)) w1):=⟨B1.out,.inl ⟨k,hlt,hc',rfl⟩⟩
    rw [qaz hc']
    clear hc' B1
    go_wp2
    go_ret
    exact HF.out
   ·have HZ':Hid (∀ j,j<k+1->¬ y.Can d j):=fun j hj=>by
     by_cases e:j=k
     ·subst e
      exact hc'
     ·exact HZ.out j (by omega)
    rw [qar hc']
    clear hc' HZ
    go_wp2
    go_roundw
    case rel=>exact ⟨k+1,by omega,by go_num,B1.out,HZ'.out⟩
    case measure=>simp [intOf];omega
  ·have HF:Hid (NxtR w y d (.returned (.int .i64 (-1))) wr):=⟨hbw,.inr ⟨rfl,fun p hp=>HZ.out p (by omega)⟩⟩
   clear HZ hbw
   go_wp2
   go_ret
   exact HF.out
theorem qrl (X:Nat) (ha:Option Addr) (hc:Nat) (hA:Nat->Option Addr) (hC:Nat->Nat) (y:Hs) (d:Nat->Nat) (w:World) (hE:HisE w ha hA hC y) (hP:HisP w X ha hc y d) (h4:y.n<=4) (hl:∀ i,i<y.n->y.l i<=200) (hd:∀ i,d i<=y.l i):
  Calls Tryz.prog 160 #[.pointer (some ⟨X,4,none⟩)] w fun e w'=>e=.returned (.bool (qB (y.All d)))/\Below w.heap.size w w':=by
 have HE:Hid (HisE w ha hA hC y):=hE
 have HP:Hid (HisP w X ha hc y d):=hP
 have HH:Hid ((∀ i,i<y.n->y.l i<=200)/\∀ i,d i<=y.l i):=⟨hl,hd⟩
 have hn:(y.n:Int)<=4:=by omega
 obtain ⟨c4,-,-,-⟩:=hP
 clear hE hl hd
 go_enter Tryz.func160,Tryz.ntmps160
 go_wp2_with fail
 clear c4
 go_loopw [10] (fun i wr=>∃ k:Nat,k<=y.n/\i=.int .i64 k/\Below w.heap.size w wr/\Hid (∀ j,j<k->d j=y.l j)) (fun i _=>y.n - (intOf i).toNat)
 case atStart=>exact ⟨0,Nat.zero_le _,rfl,Below.refl _ _,fun j hj=>by omega⟩
 case round=>
  obtain ⟨k,hk,rfl,hbw,HZ⟩:=hrel
  by_cases hlt:k<y.n
  ·have hlt':(k:Int)<(y.n:Int):=by omega
   have hk4:(k:Int)<4:=by omega
   obtain ⟨bh,oh,eh,ch⟩:=(HE.out.below hbw).row.at hlt
   have pk:=(HP.out.below hbw).pt k (by omega)
   have hd':(d k:Int)<=(y.l k:Int):=by have:=HH.out.2 k;omega
   rw [eh]
   by_cases hs:d k<y.l k
   ·have hs':(d k:Int)<(y.l k:Int):=by omega
    have HN:Hid (qB (y.All d)=false):=qar fun h=>by have:=h k hlt;omega
    clear HZ
    go_wp2
    go_ret
    rw [HN.out]
    exact ⟨rfl,hbw⟩
   ·have hs':¬ (d k:Int)<(y.l k:Int):=by omega
    have HZ':Hid (∀ j,j<k+1->d j=y.l j):=fun j hj=>by
     by_cases e:j=k
     ·subst e
      omega
     ·exact HZ.out j (by omega)
    clear HZ
    go_wp2
    go_roundw
    case rel=>exact ⟨k+1,by omega,by go_num,hbw,HZ'.out⟩
    case measure=>simp [intOf];omega
  ·have HN:Hid (qB (y.All d)=true):=qaz fun p hp=>HZ.out p (by omega)
   clear HZ
   go_wp2
   go_ret
   rw [HN.out]
   exact ⟨rfl,hbw⟩
theorem qe1 {xs ys:List Int} (hl:xs.length=ys.length) (h:∀ j,j<xs.length->zi xs j=zi ys j):xs=ys:=by
 refine List.ext_getElem hl fun i h1 h2=>?_
 have:=h i h1
 simpa [zi,List.getD_eq_getElem?_getD,List.getElem?_eq_getElem h1,List.getElem?_eq_getElem h2] using this
theorem qf1 (a0 a1:Option Addr) (c0 c1:Nat) (xs ys:List Int) (w:World) (hx:xs.length<=1048576) (hy:ys.length<=1048576) (h0:Sl w a0 xs) (h1:Sl w a1 ys):
  Calls Tryz.prog 187 #[.slice a0 xs.length c0,.slice a1 ys.length c1] w fun e w'=>e=.returned (.bool (xs == ys))/\Below w.heap.size w w':=by
 have hl':(xs.length:Int)<=1048576:=by omega
 have hl2:(ys.length:Int)<=1048576:=by omega
 by_cases hl:xs.length=ys.length
 ·have H0:Hid (Sl w a0 xs):=h0
  have H1:Hid (Sl w a1 ys):=h1
  have HL:Hid (xs.length=ys.length):=hl
  rw [<- hl]
  clear h0 h1 hl hy hl2
  go_enter Tryz.func187,Tryz.ntmps187
  go_wp2_with fail
  go_loopw [13] (fun i wr=>∃ k:Nat,k<=xs.length/\i=.int .i64 k/\Below w.heap.size w wr/\Hid (∀ j,j<k->zi xs j=zi ys j)) (fun i _=>xs.length - (intOf i).toNat)
  case atStart=>exact ⟨0,Nat.zero_le _,rfl,Below.refl _ _,fun j hj=>by omega⟩
  case round=>
   obtain ⟨k,hk,rfl,hbw,HZ⟩:=hrel
   by_cases hlt:k<xs.length
   ·have hlt2:k<ys.length:=by have:=HL.out;omega
    obtain ⟨b,off,rfl,hbl,ck⟩:=(H0.out.below hbw).at hlt
    obtain ⟨b',off',rfl,hbl',ck'⟩:=(H1.out.below hbw).at hlt2
    have hlt':(k:Int)<(xs.length:Int):=by omega
    clear hlt2
    rcases zK (zi xs k != zi ys k) with t | t
    ·have HN:Hid ((xs == ys)=false):=by
      show (xs == ys)=false
      rw [beq_eq_false_iff_ne]
      intro e
      rw [e] at t
      simp at t
     go_wp2_with fail
     go_quiet (fail)
     go_wp2
     go_ret
     rw [HN.out]
     exact ⟨rfl,yE hbw _⟩
    ·have HZ':Hid (∀ j,j<k+1->zi xs j=zi ys j):=fun j hj=>by
      by_cases e:j=k
      ·subst e
       simpa using t
      ·exact HZ.out j (by omega)
     clear HZ
     go_wp2_with fail
     go_quiet (fail)
     go_wp2
     go_roundw
     case rel=>exact ⟨k+1,by omega,by go_num,yE hbw _,HZ'.out⟩
     case measure=>simp [intOf];omega
   ·have HE:Hid ((xs == ys)=true):=by
     show (xs == ys)=true
     rw [beq_iff_eq]
     exact qe1 HL.out fun j hj=>HZ.out j (by omega)
    clear HZ
    go_wp2
    go_ret
    rw [HE.out]
    exact ⟨rfl,hbw⟩
 ·have hne:((xs.length:Int) != (ys.length:Int))=true:=by simp;omega
  have HN:Hid ((xs == ys)=false):=by
   show (xs == ys)=false
   rw [beq_eq_false_iff_ne]
   intro e
   exact hl (by rw [e])
  clear h0 h1 hl
  go_enter Tryz.func187,Tryz.ntmps187
  go_wp2
  go_ret
  rw [HN.out]
  exact ⟨rfl,Below.refl _ _⟩
def eqS (S T:S4):Bool:=(S.p == T.p) && (S.c == T.c) && (S.rs == T.rs) && (S.os == T.os)
theorem qtm {S T:S4}:eqS S T=true ↔ S=T:=by
 obtain ⟨a,b,c,d⟩:=S
 obtain ⟨a',b',c',d'⟩:=T
 simp only [eqS,Bool.and_eq_true,beq_iff_eq,S4.mk.injEq]
 exact ⟨fun ⟨⟨⟨h1,h2⟩,h3⟩,h4⟩=>⟨h1,h3,h4,h2⟩,fun ⟨h1,h3,h4,h2⟩=>⟨⟨⟨h1,h2⟩,h3⟩,h4⟩⟩
theorem qgy (S T:S4) (ra oa ra' oa':Option Addr) (rc oc rc' oc':Nat) (w:World) (l1:S.rs.length<=1048576) (l2:S.os.length<=1048576) (l3:T.rs.length<=1048576) (l4:T.os.length<=1048576) (h1:Sl w ra S.rs) (h2:Sl w oa S.os) (h3:Sl w ra' T.rs) (h4:Sl w oa' T.os):
  Calls Tryz.prog 185 #[stV S.p ra S.rs.length rc oa S.os.length oc S.c,stV T.p ra' T.rs.length rc' oa' T.os.length oc' T.c] w fun e w'=>e=.returned (.bool (eqS S T))/\Below w.heap.size w w':=by
 have H1:Hid (Sl w ra S.rs/\Sl w ra' T.rs):=⟨h1,h3⟩
 have H2:Hid (Sl w oa S.os/\Sl w oa' T.os):=⟨h2,h4⟩
 clear h1 h2 h3 h4
 rcases zK (S.p == T.p) with t1 | t1
 case inr=>
  have HE:Hid (eqS S T=false):=by
   show eqS S T=false
   simp [eqS,t1]
  go_enter Tryz.func185,Tryz.ntmps185
  go_wp2
  go_ret
  rw [HE.out]
  exact ⟨rfl,by go_grown⟩
 rcases zK (S.c == T.c) with t2 | t2
 case inr=>
  have HE:Hid (eqS S T=false):=by
   show eqS S T=false
   simp [eqS,t2]
  go_enter Tryz.func185,Tryz.ntmps185
  go_wp2
  go_ret
  rw [HE.out]
  exact ⟨rfl,by go_grown⟩
 rcases zK (S.rs == T.rs) with t3 | t3
 case inr=>
  have HE:Hid (eqS S T=false):=by
   show eqS S T=false
   simp [eqS,t3]
  have T3:Hid ((S.rs == T.rs)=false):=t3
  clear t3
  go_enter Tryz.func185,Tryz.ntmps185
  go_wp2_with fail
  refine (qf1 _ _ _ _ _ _ _ l1 l3 (H1.out.1.below (by go_grown)) (H1.out.2.below (by go_grown))).mono ?_
  rintro e w1 ⟨rfl,b1⟩
  rw [T3.out]
  have B1:Hid (Below w.heap.size w w1):=qah (by go_grown) b1 (by simp;omega)
  clear b1
  go_wp2
  go_ret
  rw [HE.out]
  exact ⟨rfl,B1.out⟩
 have HE:Hid (eqS S T=(S.os == T.os)):=by
  show eqS S T=(S.os == T.os)
  simp [eqS,t1,t2,t3]
 have T3:Hid ((S.rs == T.rs)=true):=t3
 clear t3
 go_enter Tryz.func185,Tryz.ntmps185
 go_wp2_with fail
 refine (qf1 _ _ _ _ _ _ _ l1 l3 (H1.out.1.below (by go_grown)) (H1.out.2.below (by go_grown))).mono ?_
 rintro e w1 ⟨rfl,b1⟩
 rw [T3.out]
 have B1:Hid (Below w.heap.size w w1):=qah (by go_grown) b1 (by simp;omega)
 obtain ⟨hc1,hf1⟩:=qam b1
 clear b1
 go_wp2_with fail
 refine (qf1 _ _ _ _ _ _ _ l2 l4 (H2.out.1.below B1.out) (H2.out.2.below B1.out)).mono ?_
 rintro e w2 ⟨rfl,b2⟩
 have B2:Hid (Below w.heap.size w w2):=B1.out.trans (b2.mono B1.out.size)
 clear b2 hc1 hf1
 go_wp2
 go_ret
 rw [HE.out]
 exact ⟨rfl,B2.out⟩
noncomputable def pB (p:Prop):Bool:=@decide p (Classical.propDecidable _)
theorem quo {p:Prop} (h:p):pB p=true:=by simp [pB,h]
theorem qe3 {p:Prop} (h:¬ p):pB p=false:=by simp [pB,h]
theorem qg3 (S T:S4) (ra oa ra' oa':Option Addr) (rc oc rc' oc':Nat) (w:World) (l1:S.rs.length<=1048576) (l2:S.os.length<=1048576) (_l3:T.rs.length<=1048576) (_l4:T.os.length<=1048576) (h1:Sl w ra S.rs) (h2:Sl w oa S.os) (h3:Sl w ra' T.rs) (h4:Sl w oa' T.os):
  Calls Tryz.prog 122 #[stV S.p ra S.rs.length rc oa S.os.length oc S.c,stV T.p ra' T.rs.length rc' oa' T.os.length oc' T.c] w fun e w'=>e=.returned (.bool (eqS S T))/\Below w.heap.size w w':=by
 have l1':(S.rs.length:Int)<=1048576:=by omega
 have l2':(S.os.length:Int)<=1048576:=by omega
 have H1:Hid (Sl w ra S.rs/\Sl w ra' T.rs):=⟨h1,h3⟩
 have H2:Hid (Sl w oa S.os/\Sl w oa' T.os):=⟨h2,h4⟩
 clear h1 h2 h3 h4 l1 l2
 rcases zK (S.p != T.p) with t1 | t1
 case inl=>
  have HE:Hid (eqS S T=false):=by
   show eqS S T=false
   have:(S.p == T.p)=false:=by simpa using t1
   simp [eqS,this]
  go_enter Tryz.func122,Tryz.ntmps122
  go_wp2
  go_ret
  rw [HE.out]
  exact ⟨rfl,by go_grown⟩
 rcases zK (S.c != T.c) with t2 | t2
 case inl=>
  have HE:Hid (eqS S T=false):=by
   show eqS S T=false
   have:(S.c == T.c)=false:=by simpa using t2
   simp [eqS,this]
  go_enter Tryz.func122,Tryz.ntmps122
  go_wp2
  go_ret
  rw [HE.out]
  exact ⟨rfl,by go_grown⟩
 rcases zK ((S.rs.length:Int) != (T.rs.length:Int)) with t3 | t3
 case inl=>
  have HE:Hid (eqS S T=false):=by
   show eqS S T=false
   have:(S.rs == T.rs)=false:=by
    rw [beq_eq_false_iff_ne]
    intro e
    rw [e] at t3
    simp at t3
   simp [eqS,this]
  go_enter Tryz.func122,Tryz.ntmps122
  go_wp2
  go_ret
  rw [HE.out]
  exact ⟨rfl,by go_grown⟩
 rcases zK ((S.os.length:Int) != (T.os.length:Int)) with t4 | t4
 case inl=>
  have HE:Hid (eqS S T=false):=by
   show eqS S T=false
   have:(S.os == T.os)=false:=by
    rw [beq_eq_false_iff_ne]
    intro e
    rw [e] at t4
    simp at t4
   simp [eqS,this]
  go_enter Tryz.func122,Tryz.ntmps122
  go_wp2
  go_ret
  rw [HE.out]
  exact ⟨rfl,by go_grown⟩
 have HE:Hid (eqS S T=((S.rs == T.rs) && (S.os == T.os))/\S.rs.length=T.rs.length/\S.os.length=T.os.length):=by
  have e1:(S.p == T.p)=true:=by simpa using t1
  have e2:(S.c == T.c)=true:=by simpa using t2
  have e3:S.rs.length=T.rs.length:=by simp at t3;omega
  have e4:S.os.length=T.os.length:=by simp at t4;omega
  refine ⟨?_,e3,e4⟩
  show eqS S T=_
  simp [eqS,e1,e2]
 have N1:Hid (BoxC ((w.alloc (oQ1 S.p ra S.rs.length rc oa S.os.length oc S.c)).alloc (oQ1 T.p ra' T.rs.length rc' oa' T.os.length oc' T.c)) w.heap.size (.int .i64 S.p) (.slice ra S.rs.length rc) (.slice oa S.os.length oc) (.int .i64 S.c)):=(BoxC.new w _ _ _ _ _).below (zT _ _)
 have N2:Hid (BoxC ((w.alloc (oQ1 S.p ra S.rs.length rc oa S.os.length oc S.c)).alloc (oQ1 T.p ra' T.rs.length rc' oa' T.os.length oc' T.c)) (w.heap.size+1) (.int .i64 T.p) (.slice ra' T.rs.length rc') (.slice oa' T.os.length oc') (.int .i64 T.c)):=by
  have h:=BoxC.new (w.alloc (oQ1 S.p ra S.rs.length rc oa S.os.length oc S.c)) (.int .i64 T.p) (.slice ra' T.rs.length rc') (.slice oa' T.os.length oc') (.int .i64 T.c) 133
  rw [World.size_alloc] at h
  exact h
 have NB:Hid (Below w.heap.size w ((w.alloc (oQ1 S.p ra S.rs.length rc oa S.os.length oc S.c)).alloc (oQ1 T.p ra' T.rs.length rc' oa' T.os.length oc' T.c))):=by
  show Below _ _ _
  go_grown
 go_enter Tryz.func122,Tryz.ntmps122
 go_wp2_with fail
 generalize (w.alloc (oQ1 S.p ra S.rs.length rc oa S.os.length oc S.c)).alloc (oQ1 T.p ra' T.rs.length rc' oa' T.os.length oc' T.c)=wb at *
 go_loopw [5] (fun i wr=>∃ k:Nat,k<=S.rs.length/\i=.int .i64 k/\Below wb.heap.size wb wr/\Hid (∀ j,j<k->zi S.rs j=zi T.rs j)) (fun i _=>S.rs.length - (intOf i).toNat)
 case atStart=>exact ⟨0,Nat.zero_le _,rfl,Below.refl _ _,fun j hj=>by omega⟩
 case round=>
  obtain ⟨k,hk,rfl,hbw,HZ⟩:=hrel
  have hw:Below w.heap.size w wr:=NB.out.trans (hbw.mono NB.out.size)
  obtain ⟨n0,n1,n2,n3⟩:=N1.out.below hbw
  obtain ⟨m0,m1,m2,m3⟩:=N2.out.below hbw
  by_cases hlt:k<S.rs.length
  ·have hlt2:k<T.rs.length:=by have:=HE.out;omega
   obtain ⟨b,off,rfl,hbl,ck⟩:=(H1.out.1.below hw).at hlt
   obtain ⟨b',off',rfl,hbl',ck'⟩:=(H1.out.2.below hw).at hlt2
   have hlt':(k:Int)<(S.rs.length:Int):=by omega
   have hlt2':(k:Int)<(T.rs.length:Int):=by omega
   clear hlt2
   rcases zK (zi S.rs k != zi T.rs k) with t | t
   ·have HN:Hid (eqS S T=false):=by
     show eqS S T=false
     rw [HE.out.1]
     have:(S.rs == T.rs)=false:=by
      rw [beq_eq_false_iff_ne]
      intro e
      rw [e] at t
      simp at t
     rw [this,Bool.false_and]
    go_wp2_with fail
    go_quiet (fail)
    go_wp2
    go_ret
    rw [HN.out]
    exact ⟨rfl,yE hw _⟩
   ·have HZ':Hid (∀ j,j<k+1->zi S.rs j=zi T.rs j):=fun j hj=>by
     by_cases e:j=k
     ·subst e
      simpa using t
     ·exact HZ.out j (by omega)
    clear HZ
    go_wp2_with fail
    go_quiet (fail)
    go_wp2
    go_roundw
    case rel=>exact ⟨k+1,by omega,by go_num,yE hbw _,HZ'.out⟩
    case measure=>simp [intOf];omega
  ·have HR:Hid ((S.rs == T.rs)=true):=by
    show (S.rs == T.rs)=true
    rw [beq_iff_eq]
    exact qe1 HE.out.2.1 fun j hj=>HZ.out j (by omega)
   have hkl:k=S.rs.length:=by omega
   subst hkl
   clear HZ hlt hk
   go_wp2_with fail
   clear n0 n1 n2 n3 m0 m1 m2 m3
   go_loopw [6] (fun i wr=>∃ k:Nat,k<=S.os.length/\i=.int .i64 k/\Below wb.heap.size wb wr/\Hid (∀ j,j<k->zi S.os j=zi T.os j)) (fun i _=>S.os.length - (intOf i).toNat)
   case atStart=>exact ⟨0,Nat.zero_le _,rfl,hbw,fun j hj=>by omega⟩
   case round=>
    clear hbw hw
    obtain ⟨k,hk,rfl,hbw,HZ⟩:=hrel
    have hw:Below w.heap.size w wr:=NB.out.trans (hbw.mono NB.out.size)
    obtain ⟨n0,n1,n2,n3⟩:=N1.out.below hbw
    obtain ⟨m0,m1,m2,m3⟩:=N2.out.below hbw
    by_cases hlt:k<S.os.length
    ·have hlt2:k<T.os.length:=by have:=HE.out;omega
     obtain ⟨b,off,rfl,hbl,ck⟩:=(H2.out.1.below hw).at hlt
     obtain ⟨b',off',rfl,hbl',ck'⟩:=(H2.out.2.below hw).at hlt2
     have hlt':(k:Int)<(S.os.length:Int):=by omega
     have hlt2':(k:Int)<(T.os.length:Int):=by omega
     clear hlt2
     rcases zK (zi S.os k != zi T.os k) with t | t
     ·have HN:Hid (eqS S T=false):=by
       show eqS S T=false
       rw [HE.out.1]
       have:(S.os == T.os)=false:=by
        rw [beq_eq_false_iff_ne]
        intro e
        rw [e] at t
        simp at t
       rw [this,Bool.and_false]
      go_wp2_with fail
      go_quiet (fail)
      go_wp2
      go_ret
      rw [HN.out]
      exact ⟨rfl,yE hw _⟩
     ·have HZ':Hid (∀ j,j<k+1->zi S.os j=zi T.os j):=fun j hj=>by
       by_cases e:j=k
       ·subst e
        simpa using t
       ·exact HZ.out j (by omega)
      clear HZ
      go_wp2_with fail
      go_quiet (fail)
      go_wp2
      go_roundw
      case rel=>exact ⟨k+1,by omega,by go_num,yE hbw _,HZ'.out⟩
      case measure=>simp [intOf];omega
    ·have HN:Hid (eqS S T=true):=by
      show eqS S T=true
      rw [HE.out.1,HR.out,Bool.true_and,beq_iff_eq]
      exact qe1 HE.out.2.2 fun j hj=>HZ.out j (by omega)
     clear HZ
     go_wp2
     go_ret
     rw [HN.out]
     exact ⟨rfl,hw⟩
