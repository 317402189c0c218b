import Derived.Test.YtcplnkhdclcgfaaGreatDoorUf0
import Derived.Test.YtcplnkhdclcgfaaGreatDoorUf12
import Derived.Test.YtcplnkhdclcgfaaGreatDoorUf14
import Derived.Test.YtcplnkhdclcgfaaGreatDoorUf7
import Derived.Test.YtcplnkhdclcgfaaGreatDoorUf10
import Derived.Test.YtcplnkhdclcgfaaGreatDoorUf15
import Derived.Maps.Range
import Derived.Deep.Onto
import Derived.Deep.Slices
import Derived.Lib.QuietBelow
import Derived.BigRegion
import Derived.BigQuiet
import Derived.Maps.AppendAt
import Derived.OneCell
import Derived.Test.YtcplnkhdclcgfaaGreatDoorRows
import Derived.OrdersHeld
import Derived.Deep.RegionHeld3
namespace Go.Proofs.YtcplnkhdclcgfaaGreatDoor
set_option maxRecDepth 100000
set_option maxHeartbeats 2000000
open Go.ChangeShapes Go.WideShapes Go.ChangeAt Go.RowKit Go.Deep
def sumL (ls:Nat->Nat):Nat->Nat
 | 0=>0
 | n+1=>sumL ls n+ls n
theorem sumL_mono (ls:Nat->Nat) {k n:Nat} (h:k<=n):sumL ls k<=sumL ls n:=by
 induction n with
 | zero=>
  have:k=0:=by omega
  subst this
  exact Nat.le_refl _
 | succ n ih=>
  by_cases hk:k=n+1
  ·subst hk
   exact Nat.le_refl _
  ·have:=ih (by omega)
   show sumL ls k<=sumL ls n+ls n
   omega
theorem sumL_at (ls:Nat->Nat) {k n:Nat} (h:k<n):sumL ls k+ls k<=sumL ls n:=sumL_mono ls (k:=k+1) h
def RowS (w:World) (a0:Option Addr) (n:Nat) (f:Nat->Value):Prop:=
 n=0\/∃ b off,a0=some ⟨b,off,none⟩/\b<w.heap.size/\∀ i,i<n->w.cell? ⟨b,off+i,none⟩=some (f i)
theorem RowS.below {w w':World} {a0:Option Addr} {n:Nat} {f:Nat->Value} (h:RowS w a0 n f) (hb:Below w.heap.size w w'):RowS w' a0 n f:=by
 rcases h with h | ⟨b,off,e,hlt,hc⟩
 ·exact .inl h
 ·exact .inr ⟨b,off,e,zL hlt hb.size,fun i hi=>(hb.cell (p:=⟨b,off+i,none⟩) hlt).trans (hc i hi)⟩
theorem RowS.at {w:World} {a0:Option Addr} {n:Nat} {f:Nat->Value} (h:RowS w a0 n f) {k:Nat} (hk:k<n):∃ b off,a0=some ⟨b,off,none⟩/\w.cell? ⟨b,off+k,none⟩=some (f k):=by
 rcases h with rfl | ⟨b,off,e,-,hc⟩
 ·omega
 ·exact ⟨b,off,e,hc k hk⟩
structure Touch (P:Nat->Prop) (w w':World):Prop where
 os:w'.os=w.os
 tape:w'.tape=w.tape
 output:w'.output=w.output
 size:w.heap.size<=w'.heap.size
 block:∀ k,k<w.heap.size->¬ P k->w'.heap[k]? = w.heap[k]?
theorem Touch.refl (P:Nat->Prop) (w:World):Touch P w w:=⟨rfl,rfl,rfl,Nat.le_refl _,fun _ _ _=>rfl⟩
theorem Touch.trans {P:Nat->Prop} {a b c:World} (h:Touch P a b) (k:Touch P b c):Touch P a c:=
 ⟨k.os.trans h.os,k.tape.trans h.tape,k.output.trans h.output,zP h.size k.size,fun i hi hn=>(k.block i (zL hi h.size) hn).trans (h.block i hi hn)⟩
theorem Touch.mono {P Q:Nat->Prop} {w w':World} (h:Touch P w w') (hq:∀ k,P k->Q k):Touch Q w w':=
 ⟨h.os,h.tape,h.output,h.size,fun k hk hn=>h.block k hk fun hp=>hn (hq k hp)⟩
theorem Touch.of_grown {P:Nat->Prop} {w w':World} {row:Option Nat} (h:w.grownBy w' row) (hp:∀ k,row=some k->P k):Touch P w w':=
 ⟨h.os,h.tape,h.output,h.size,fun k hk hn=>h.block k hk fun e=>hn (hp k e.symm)⟩
theorem Touch.of_below {P:Nat->Prop} {w w':World} (h:Below w.heap.size w w'):Touch P w w':=
 ⟨h.os,h.tape,h.output,h.size,fun k hk _=>h.block k hk⟩
theorem Touch.of_set {P:Nat->Prop} (w:World) {a:Addr} (ha:P a.block) (u:Value):Touch P w (w.setCell a u):=
 ⟨rfl,rfl,rfl,by simp [World.setCell],fun k _ hn=>zO _ _ _ _ fun e=>hn (e ▸ ha)⟩
theorem Touch.below {P:Nat->Prop} {w w':World} {B:Nat} (h:Touch P w w') (hB:B<=w.heap.size) (hp:∀ k,P k->B<=k):Below B w w':=
 ⟨h.os,h.tape,h.output,h.size,fun k hk=>h.block k (by omega) fun e=>by have:=hp k e;omega⟩
theorem Touch.cell {P:Nat->Prop} {w w':World} (h:Touch P w w') {b:Nat} (hb:b<w.heap.size) (hp:¬ P b) (j:Nat):w'.cell? ⟨b,j,none⟩=w.cell? ⟨b,j,none⟩:=zH (h.block b hb hp)
theorem open_rows {H:Type} {enc:TypeId × Value->H} {w:World} {spare:Nat->Bool} {held:Bool} {base:Nat} {a0:Option Addr} {len cap:Nat} {d:DataW H} {p:List MemPlace} {t el:TypeId} (hu:Tryz.prog.underlying t=some (.slice el)) (h1:Tryz.prog.cellsOf el=1)
  (h:DataW.Trod enc Tryz.prog w base spare held t (.slice a0 len cap) d p):
  len<=maxLen/\∃ f:Nat->Value,RowS w a0 len f/\∀ i,i<len->∃ m x,DataW.trod enc Tryz.prog w base spare held m el [f i]=some x:=by
 obtain ⟨fuel,hf⟩:=h
 rcases Go.Deep.open_slice hu hf with ⟨hcs,_⟩ | ⟨a,len',cap',m,n,D,Pl,hcs,_,hl,hm,hmm,_,hx⟩
 ·simp [Value.cells] at hcs
  obtain ⟨_,rfl,_⟩:=hcs
  exact ⟨Nat.zero_le _,fun _=>.int .i64 0,.inl rfl,fun i hi=>by omega⟩
 ·simp [Value.cells] at hcs
  obtain ⟨rfl,rfl,rfl⟩:=hcs
  refine ⟨zP hl hm,?_⟩
  have hle:len<=m:=by rw [hmm];split <;> omega
  rw [h1] at hx
  obtain ⟨b,off,spot⟩:=a
  have hcell:∀ i,i<len->∃ c:Value,w.cell? (Addr.add (Addr.add ⟨b,off,spot⟩ (i*1)) 0)=some c/\∃ m x,DataW.trod enc Tryz.prog w base spare held m el [c]=some x:=by
   intro i hi
   obtain ⟨cs',h1,h2⟩:=hx i (by omega)
   obtain ⟨_,hlen,hc⟩:=World.cells?_some h1
   match cs',hlen with
   | [c0],_=>exact ⟨c0,hc 0 (by omega),_,_,h2⟩
  have inh:Inhabited Value:=⟨.int .i64 0⟩
  obtain ⟨g,hg⟩:=Go.Deep.choose_lt (α:=Value) hcell
  refine ⟨g,?_,fun i hi=>(hg i hi).2⟩
  by_cases h0:len=0
  ·exact .inl h0
  have hspot:spot=none:=by
   have hx0:=(hg 0 (by omega)).1
   simpa [Addr.add] using World.cell?_spot hx0
  subst hspot
  have hI:∀ i,i<len->w.cell? ⟨b,off+i,none⟩=some (g i):=by
   intro i hi
   have q0:=(hg i hi).1
   rw [addr_addO,addr_addO,Nat.mul_one] at q0
   exact q0
  exact .inr ⟨b,off,rfl,cell_lt (hI 0 (by omega)),hI⟩
structure St8 where
 p:Int
 ra:Option Addr
 rc:Nat
 rs:List Int
 oa:Option Addr
 oc:Nat
 os:List Int
 c:Int
def St8.s (x:St8):S4:=⟨x.p,x.rs,x.os,x.c⟩
def lenS (S:Nat->S4) (i:Nat):Nat:=(S i).rs.length+(S i).os.length
structure AllState (W:World) (a0:Option Addr) (n:Nat) (q:Nat->St8):Prop where
 row:n=0\/∃ b off,a0=some ⟨b,off,none⟩/\b<W.heap.size/\∀ i,i<n->W.cell? ⟨b,off+i*4,none⟩=some (.int .i64 (q i).p)/\W.cell? ⟨b,off+i*4+1,none⟩=some (.slice (q i).ra (q i).rs.length (q i).rc)/\W.cell? ⟨b,off+i*4+2,none⟩=some (.slice (q i).oa (q i).os.length (q i).oc)/\W.cell? ⟨b,off+i*4+3,none⟩=some (.int .i64 (q i).c)
 lst:∀ i,i<n->Sl W (q i).ra (q i).rs/\Sl W (q i).oa (q i).os
theorem AllState.below {w w':World} {a0:Option Addr} {n:Nat} {q:Nat->St8} (h:AllState w a0 n q) (hb:Below w.heap.size w w'):AllState w' a0 n q:=by
 refine ⟨?_,fun i hi=>⟨(h.lst i hi).1.below hb,(h.lst i hi).2.below hb⟩⟩
 rcases h.row with h | ⟨b,off,e,hlt,hc⟩
 ·exact .inl h
 ·exact .inr ⟨b, off, e, Nat.lt_of_lt_of_le hlt hb.size, fun i hi => by
   obtain ⟨h0,h1,h2,h3⟩:=hc i hi
   exact ⟨(hb.cell hlt).trans h0,(hb.cell hlt).trans h1,(hb.cell hlt).trans h2,(hb.cell hlt).trans h3⟩⟩
theorem AllState.at {w:World} {a0:Option Addr} {n:Nat} {q:Nat->St8} (h:AllState w a0 n q) {k:Nat} (hk:k<n):∃ b off,a0=some ⟨b,off,none⟩/\w.cell? ⟨b,off+k*4,none⟩=some (.int .i64 (q k).p)/\w.cell? ⟨b,off+k*4+1,none⟩=some (.slice (q k).ra (q k).rs.length (q k).rc)/\w.cell? ⟨b,off+k*4+2,none⟩=some (.slice (q k).oa (q k).os.length (q k).oc)/\w.cell? ⟨b,off+k*4+3,none⟩=some (.int .i64 (q k).c):=by
 rcases h.row with rfl | ⟨b,off,e,-,hc⟩
 ·omega
 ·exact ⟨b,off,e,hc k hk⟩
theorem szStateS_small (a0:Option Addr) (n cap:Nat) (q:Nat->St8) (L:Int) (w:World) (hr:AllState w a0 n q) (h:(n:Int)+(sumL (lenS fun i=>(q i).s) n:Nat)<=L) (hL:L<=1048576):
  Calls Tryz.prog 56 #[.slice a0 n cap,.int .i64 L] w fun e w'=>e=.returned (.int .i64 (L - n - (sumL (lenS fun i=>(q i).s) n:Nat)))/\Below w.heap.size w w':=by
 have hn:(n:Int)<=1048576:=by omega
 have h0:0<=L:=by omega
 have hn0:¬ (L - (n:Int)<0):=by omega
 have HR:Hid (AllState w a0 n q):=hr
 have HS:Hid ((n:Int)+(sumL (lenS fun i=>(q i).s) n:Nat)<=L):=h
 clear hr h
 generalize hls:(lenS fun i=>(q i).s)=ls at *
 have HLS:Hid ((lenS fun i=>(q i).s)=ls):=hls
 clear hls
 go_enter Tryz.func56,Tryz.ntmps56
 go_wp2_with fail
 go_loopw [1,5] (fun x i wr=>∃ k:Nat,k<=n/\i=.int .i64 k/\x=.int .i64 (L - n - (sumL ls k:Nat))/\Below w.heap.size w wr) (fun _ i _=>n - (intOf i).toNat)
 case atStart=>exact ⟨0,Nat.zero_le _,rfl,by simp [sumL],Below.refl _ _⟩
 case round=>
  obtain ⟨k,hk,rfl,rfl,hbw⟩:=hrel
  by_cases hlt:k<n
  ·have hlt':(k:Int)<(n:Int):=by omega
   obtain ⟨b,off,rfl,c0,c1,c2,c3⟩:=(HR.out.below hbw).at hlt
   have hsl:=sumL_at ls hlt
   have hlk:ls k=(q k).rs.length+(q k).os.length:=by rw [<- HLS.out];rfl
   have hS:=HS.out
   have e1:(L - n - (sumL ls k:Nat)) - ((q k).rs.length:Int) - ((q k).os.length:Int)=L - n - (sumL ls (k+1):Nat):=by simp only [sumL];omega
   have HE:Hid ((L - n - (sumL ls k:Nat)) - ((q k).rs.length:Int) - ((q k).os.length:Int)=L - n - (sumL ls (k+1):Nat)):=e1
   have e2:((q k).rs.length:Int)+((q k).os.length:Int)<=L - n - (sumL ls k:Nat):=by omega
   have e3:¬ (L - n - (sumL ls (k+1):Nat)<0):=by omega
   have e4:L - n - (sumL ls k:Nat)<=1048576:=by omega
   clear e1 hS hsl hlk
   generalize hy:L - n - (sumL ls (k+1):Nat)=Y at *
   go_wp2_with fail
   refine (szState_small _ _ _ _ _ _ _ _ _ _ e2 e4).mono ?_
   rintro e w1 ⟨rfl,b1⟩
   rw [HE.out]
   clear e2 e4 c0 c1 c2 c3
   go_wp2
   go_roundw
   case rel=>exact ⟨k+1,by omega,by go_num,by rw [<- hy],hbw.trans (b1.mono hbw.size)⟩
   case measure=>simp [intOf];omega
  ·have hkl:k=n:=by omega
   subst hkl
   go_wp2
   go_ret
   exact ⟨rfl,hbw⟩
theorem szStateS_great (a0:Option Addr) (n cap:Nat) (q:Nat->St8) (L:Int) (w:World) (hr:AllState w a0 n q) (h:L<(n:Int)+(sumL (lenS fun i=>(q i).s) n:Nat)) (h0:0<=L) (hL:L<=1048576) (hm:n<=maxLen) (hl:∀ i,i<n->(q i).rs.length<=maxLen/\(q i).os.length<=maxLen):
  Calls Tryz.prog 56 #[.slice a0 n cap,.int .i64 L] w fun e w'=>e=.returned (.int .i64 (-1))/\Below w.heap.size w w':=by
 have hm':(n:Int)<=9223372036854775807:=by unfold maxLen at hm;omega
 by_cases hn0:L - (n:Int)<0
 ·go_enter Tryz.func56,Tryz.ntmps56
  go_wp2
  go_ret
  exact ⟨rfl,Below.refl _ _⟩
 have hn:(n:Int)<=1048576:=by omega
 have HR:Hid (AllState w a0 n q):=hr
 have HS:Hid (L<(n:Int)+(sumL (lenS fun i=>(q i).s) n:Nat)):=h
 have HL:Hid (∀ i,i<n->(q i).rs.length<=maxLen/\(q i).os.length<=maxLen):=hl
 clear hr h hl hm
 generalize hls:(lenS fun i=>(q i).s)=ls at *
 have HLS:Hid ((lenS fun i=>(q i).s)=ls):=hls
 clear hls
 go_enter Tryz.func56,Tryz.ntmps56
 go_wp2_with fail
 go_loopw [1,5] (fun x i wr=>∃ k:Nat,k<=n/\i=.int .i64 k/\x=.int .i64 (L - n - (sumL ls k:Nat))/\0<=L - n - (sumL ls k:Nat)/\Below w.heap.size w wr) (fun _ i _=>n - (intOf i).toNat)
 case atStart=>exact ⟨0,Nat.zero_le _,rfl,by simp [sumL],by simp only [sumL];omega,Below.refl _ _⟩
 case round=>
  obtain ⟨k,hk,rfl,rfl,hp,hbw⟩:=hrel
  by_cases hlt:k<n
  ·have hlt':(k:Int)<(n:Int):=by omega
   obtain ⟨b,off,rfl,c0,c1,c2,c3⟩:=(HR.out.below hbw).at hlt
   obtain ⟨ml1,ml2⟩:=HL.out k hlt
   have hlk:ls k=(q k).rs.length+(q k).os.length:=by rw [<- HLS.out];rfl
   have e1:(L - n - (sumL ls k:Nat)) - ((q k).rs.length:Int) - ((q k).os.length:Int)=L - n - (sumL ls (k+1):Nat):=by simp only [sumL];omega
   have HE:Hid ((L - n - (sumL ls k:Nat)) - ((q k).rs.length:Int) - ((q k).os.length:Int)=L - n - (sumL ls (k+1):Nat)):=e1
   have e4:L - n - (sumL ls k:Nat)<=1048576:=by omega
   clear e1 hlk
   by_cases hb:((q k).rs.length:Int)+((q k).os.length:Int)<=L - n - (sumL ls k:Nat)
   ·have e3:0<=L - n - (sumL ls (k+1):Nat):=by have:=HE.out;omega
    have e3':¬ (L - n - (sumL ls (k+1):Nat)<0):=by omega
    generalize hy:L - n - (sumL ls (k+1):Nat)=Y at *
    go_wp2_with fail
    refine (szState_small _ _ _ _ _ _ _ _ _ _ hb e4).mono ?_
    rintro e w1 ⟨rfl,b1⟩
    rw [HE.out]
    clear hb e4 hp c0 c1 c2 c3 ml1 ml2
    go_wp2
    go_roundw
    case rel=>exact ⟨k+1,by omega,by go_num,by rw [<- hy],by omega,hbw.trans (b1.mono hbw.size)⟩
    case measure=>simp [intOf];omega
   ·have hb':L - n - (sumL ls k:Nat)<((q k).rs.length:Int)+((q k).os.length:Int):=by omega
    go_wp2_with fail
    refine (szState_great _ _ _ _ _ _ _ _ _ _ hb' e4 hp ml1 ml2).mono ?_
    rintro e w1 ⟨rfl,b1⟩
    clear hb hb' e4 hp HE c0 c1 c2 c3 ml1 ml2
    go_wp2
    go_ret
    exact ⟨rfl,hbw.trans (b1.mono hbw.size)⟩
  ·have hkl:k=n:=by omega
   subst hkl
   have:=HS.out
   omega
theorem ownsRow_blk {w w':World} {B size n:Nat} {e:TypeId} {v:Value} {xs:List Value} (h:w.ownsRow B e size v n xs) (hb:∀ k,v.ownBlock=some k->w'.heap[k]? = w.heap[k]?):w'.ownsRow B e size v n xs:=by
 obtain ⟨h0,h⟩:=h
 refine ⟨h0,?_⟩
 rcases h with h | ⟨g,cap,cur,rfl,h1,h2,h3⟩
 ·exact .inl h
 ·exact .inr ⟨g,cap,cur,rfl,h1,(hb g rfl).trans h2,h3⟩
theorem OwnI.blk {w w':World} {B:Nat} {v:Value} {xs:List Int} (h:OwnI w B v xs) (hb:∀ k,v.ownBlock=some k->w'.heap[k]? = w.heap[k]?):OwnI w' B v xs:=ownsRow_blk h hb
theorem StOwn.blk {w w':World} {B:Nat} {v:Value} {p code:Int} {rs os:List Int} (h:StOwn w B v p rs os code) (hb:∀ k,hasBlock v k->w'.heap[k]? = w.heap[k]?):StOwn w' B v p rs os code:=by
 obtain ⟨vr,vo,rfl,h1,h2,h3⟩:=h
 exact ⟨vr,vo,rfl,h1.blk fun k hk=>hb k ((hasBlock_iff _ _ _ _ _).2 (.inl hk)),h2.blk fun k hk=>hb k ((hasBlock_iff _ _ _ _ _).2 (.inr hk)),h3⟩
def Cel4 (w:World) (D j:Nat) (S:S4) (v:Value):Prop:=∃ ra rc oa oc,v=stV S.p ra S.rs.length rc oa S.os.length oc S.c/\w.cell? ⟨D,j,none⟩=some (.int .i64 S.p)/\w.cell? ⟨D,j+1,none⟩=some (.slice ra S.rs.length rc)/\w.cell? ⟨D,j+2,none⟩=some (.slice oa S.os.length oc)/\w.cell? ⟨D,j+3,none⟩=some (.int .i64 S.c)
structure OutState (w:World) (D hi n:Nat) (S:Nat->S4) (vs:Nat->Value):Prop where
 cel:∀ i,i<n->Cel4 w D (i*4) (S i) (vs i)
 own:∀ i,i<n->StOwn w (D+1) (vs i) (S i).p (S i).rs (S i).os (S i).c
 bd:∀ i,i<n->∀ k,hasBlock (vs i) k->k<hi
 apart:∀ i j,i<j->j<n->∀ k,hasBlock (vs i) k->¬ hasBlock (vs j) k
 fr:∀ j,w.frozen? ⟨D,j,none⟩=false
 le:hi<=w.heap.size
 lt:D<hi
theorem Cel4.blk {w w':World} {D j:Nat} {S:S4} {v:Value} (h:Cel4 w D j S v) (hb:w'.heap[D]? = w.heap[D]?):Cel4 w' D j S v:=by
 obtain ⟨ra,rc,oa,oc,e,h0,h1,h2,h3⟩:=h
 exact ⟨ra,rc,oa,oc,e,(zH hb).trans h0,(zH hb).trans h1,(zH hb).trans h2,(zH hb).trans h3⟩
theorem OutState.below {w w':World} {D hi n B:Nat} {S:Nat->S4} {vs:Nat->Value} (o:OutState w D hi n S vs) (hb:Below B w w') (hB:hi<=B):OutState w' D hi n S vs:=
 have hD:w'.heap[D]? = w.heap[D]?:=hb.block D (zL o.lt hB)
 ⟨fun i hi'=>(o.cel i hi').blk hD,fun i hi'=>(o.own i hi').blk fun k hk=>hb.block k (zL (o.bd i hi' k hk) hB),o.bd,o.apart,fun j=>(zI hD).trans (o.fr j),zP o.le hb.size,o.lt⟩
theorem OutState.keep {w w':World} {D hi n:Nat} {S:Nat->S4} {vs:Nat->Value} (o:OutState w D hi n S vs) (hs:w.heap.size<=w'.heap.size) (hb:∀ k,D<=k->k<hi->w'.heap[k]? = w.heap[k]?):OutState w' D hi n S vs:=
 have hD:w'.heap[D]? = w.heap[D]?:=hb D (Nat.le_refl _) o.lt
 ⟨fun i hi'=>(o.cel i hi').blk hD,fun i hi'=>(o.own i hi').blk fun k hk=>hb k (by have:=((o.own i hi').lt hk).1;omega) (o.bd i hi' k hk),o.bd,o.apart,fun j=>(zI hD).trans (o.fr j),zP o.le hs,o.lt⟩
theorem infoSta:(Tryz.prog.info? 39).map (fun i=>(i.zero,i.size,i.bytes))=some (some (stV 0 none 0 0 none 0 0 0),4,64):=by kernel_rfl
theorem run_make_sta (n:Nat) (hn:n<=1048576) (w:World):
  (Instr.makeSlice 25 (.int .i64 (n:Int)) (.int .i64 (n:Int))).run Tryz.prog w=.ok (.slice (some ⟨w.heap.size,0,none⟩) n n) (w.alloc (.cells (madeCells (stV 0 none 0 0 none 0 0 0).cells (n*4)) 39)):=by
 have hinfo:=infoSta
 cases hi:Tryz.prog.info? 39 with
 | none=>rw [hi] at hinfo;cases hinfo
 | some i=>
  rw [hi] at hinfo
  simp only [Option.map_some,Option.some.injEq,Prod.mk.injEq] at hinfo
  obtain ⟨hz,hs,hb⟩:=hinfo
  have h:=run_make (P:=Tryz.prog) w 25 39 i _ Tryz.underlying25 hi hz .i64 .i64 (n:Int) (n:Int) (by omega) (Int.le_refl _) (by rw [hb];omega) (by omega)
  rw [hs] at h
  simpa using h
theorem madeSta_row (w:World) (n:Nat):∃ f,(w.alloc (.cells (madeCells (stV 0 none 0 0 none 0 0 0).cells (n*4)) 39)).rowIs w.heap.size 39 (n*4) f:=by
 refine ⟨fun i=>(stV 0 none 0 0 none 0 0 0).cells[i % 4]!,_,blk_alloc_new _ _,size_madeCells _ _,fun i hi=>?_⟩
 simp only [madeCells]
 rw [Array.getElem?_map,Array.getElem?_range,if_pos hi]
 rfl
structure FillS (w:World) (D k:Nat) (f:Nat->Value) (S:Nat->S4) (vs:Nat->Value):Prop where
 cel:∀ i,i<k->∃ ra rc oa oc,vs i=stV (S i).p ra (S i).rs.length rc oa (S i).os.length oc (S i).c/\f (i*4)=.int .i64 (S i).p/\f (i*4+1)=.slice ra (S i).rs.length rc/\f (i*4+2)=.slice oa (S i).os.length oc/\f (i*4+3)=.int .i64 (S i).c
 own:∀ i,i<k->StOwn w (D+1) (vs i) (S i).p (S i).rs (S i).os (S i).c
 apart:∀ i j,i<j->j<k->∀ b,hasBlock (vs i) b->¬ hasBlock (vs j) b
theorem FillS.step {w w1:World} {D k:Nat} {f:Nat->Value} {S:Nat->S4} {vs:Nat->Value} (o:FillS w D k f S vs) (hb:Below w.heap.size w w1) (hD:D<w.heap.size) {ra oa:Option Addr} {rc oc:Nat} (hv:StOwn w1 w.heap.size (stV (S k).p ra (S k).rs.length rc oa (S k).os.length oc (S k).c) (S k).p (S k).rs (S k).os (S k).c) (a b c d:Value):
  FillS ((((w1.setCell ⟨D,k*4,none⟩ a).setCell ⟨D,k*4+1,none⟩ b).setCell ⟨D,k*4+2,none⟩ c).setCell ⟨D,k*4+3,none⟩ d) D (k+1)
   (fun i=>if i=k*4+3 then .int .i64 (S k).c else if i=k*4+2 then .slice oa (S k).os.length oc else if i=k*4+1 then .slice ra (S k).rs.length rc else if i=k*4 then .int .i64 (S k).p else f i) S
   (fun i=>if i=k then stV (S k).p ra (S k).rs.length rc oa (S k).os.length oc (S k).c else vs i):=by
 have hs:∀ g,g≠D->((((w1.setCell ⟨D,k*4,none⟩ a).setCell ⟨D,k*4+1,none⟩ b).setCell ⟨D,k*4+2,none⟩ c).setCell ⟨D,k*4+3,none⟩ d).heap[g]? = w1.heap[g]?:=fun g hne=>(zO _ _ _ _ hne).trans ((zO _ _ _ _ hne).trans ((zO _ _ _ _ hne).trans (zO _ _ _ _ hne)))
 refine ⟨fun i hi=>?_,fun i hi=>?_,fun i j hij hj g h1=>?_⟩
 ·by_cases e:i=k
  ·subst e
   exact ⟨ra,rc,oa,oc,by simp,by simp,by simp,by simp,by simp⟩
  ·obtain ⟨ra',rc',oa',oc',e0,e1,e2,e3,e4⟩:=o.cel i (by omega)
   refine ⟨ra',rc',oa',oc',by simp only [if_neg e];exact e0,?_,?_,?_,?_⟩
   ·rw [if_neg (by omega),if_neg (by omega),if_neg (by omega),if_neg (by omega)];exact e1
   ·rw [if_neg (by omega),if_neg (by omega),if_neg (by omega),if_neg (by omega)];exact e2
   ·rw [if_neg (by omega),if_neg (by omega),if_neg (by omega),if_neg (by omega)];exact e3
   ·rw [if_neg (by omega),if_neg (by omega),if_neg (by omega),if_neg (by omega)];exact e4
 ·by_cases e:i=k
  ·subst e
   simp only [if_true]
   refine StOwn.blk (hv.mono (by omega)) fun g hg=>hs g ?_
   have:=(hv.lt hg).1
   omega
  ·simp only [if_neg e]
   have ho:=o.own i (by omega)
   refine (ho.below hb).blk fun g hg=>hs g ?_
   have:=(ho.lt hg).1
   omega
 ·by_cases e:j=k
  ·have hi:i≠k:=by omega
   simp only [if_neg hi] at h1
   simp only [if_pos e]
   intro h2
   have a1:=((o.own i (by omega)).lt h1).2
   have a2:=(hv.lt h2).1
   omega
  ·have hi:i≠k:=by omega
   simp only [if_neg hi] at h1
   simp only [if_neg e]
   exact o.apart i j hij (by omega) g h1
theorem toStateS_any (a0:Option Addr) (n cap:Nat) (q:Nat->St8) (W w:World) (hn:n<=1048576) (hl:∀ i,i<n->(q i).rs.length<=1048576/\(q i).os.length<=1048576) (hA:AllState W a0 n q) (hW:Below W.heap.size W w):
  Calls Tryz.prog 62 #[.slice a0 n cap] w fun e w'=>e=.returned (.slice (some ⟨w.heap.size,0,none⟩) n n)/\(∃ vs,OutState w' w.heap.size w'.heap.size n (fun i=>(q i).s) vs)/\Below w.heap.size w w':=by
 have hl':(n:Int)<=1048576:=by omega
 have hmk:=run_make_sta n hn
 have HA:Hid (AllState W a0 n q):=hA
 have HW:Hid (Below W.heap.size W w):=hW
 have HL:Hid (∀ i,i<n->(q i).rs.length<=1048576/\(q i).os.length<=1048576):=hl
 clear hA hW hl
 go_enter Tryz.func62,Tryz.ntmps62
 go_wp2_with fail
 clear hmk
 go_loopw [4] (fun i wr=>∃ k:Nat,k<=n/\i=.int .i64 k/\(∃ f,wr.rowIs w.heap.size 39 (n*4) f/\Hid (∃ vs,FillS wr w.heap.size k f (fun i=>(q i).s) vs))/\Below w.heap.size w wr) (fun i _=>n - (intOf i).toNat)
 case atStart=>
  obtain ⟨f,hf⟩:=madeSta_row w n
  exact ⟨0,Nat.zero_le _,rfl,⟨f,hf,fun _=>.int .i64 0,fun i hi=>by omega,fun i hi=>by omega,fun i j hij hj=>by omega⟩,(Below.refl _ _).alloc (Nat.le_refl _) _⟩
 case round=>
  obtain ⟨k,hk,rfl,⟨f,hrow,HF⟩,hbw⟩:=hrel
  have hs:=hrow.lt
  by_cases hlt:k<n
  ·have hlt':(k:Int)<(n:Int):=by omega
   have HB:Hid (AllState wr a0 n q):=HA.out.below (HW.out.trans (hbw.mono HW.out.size))
   obtain ⟨b,off,rfl,c0,c1,c2,c3⟩:=HB.out.at hlt
   have HR:Hid (wr.rowIs w.heap.size 39 (n*4) f):=hrow
   clear hrow
   go_wp2_with fail
   refine (toState_any _ _ _ _ _ _ (q k).rs (q k).os _ (HL.out k hlt).1 (HL.out k hlt).2 (HB.out.lst k hlt).1 (HB.out.lst k hlt).2).mono ?_
   rintro e w1 ⟨v1,rfl,o1,hb1⟩
   obtain ⟨ra1,rc1,oa1,oc1,rfl,-,-⟩:=o1.read
   have hr1:w1.rowIs w.heap.size 39 (n*4) f:=HR.out.of_block (hb1.block _ hs)
   have f0:=hr1.frozen
   have g0:=hr1.cell (i:=k*4) (by omega)
   have g1:=hr1.cell (i:=k*4+1) (by omega)
   have g2:=hr1.cell (i:=k*4+2) (by omega)
   have g3:=hr1.cell (i:=k*4+3) (by omega)
   have HR1:Hid (w1.rowIs w.heap.size 39 (n*4) f):=hr1
   have HF1:Hid (∀ a b c d:Value,∃ vs,FillS ((((w1.setCell ⟨w.heap.size,k*4,none⟩ a).setCell ⟨w.heap.size,k*4+1,none⟩ b).setCell ⟨w.heap.size,k*4+2,none⟩ c).setCell ⟨w.heap.size,k*4+3,none⟩ d) w.heap.size (k+1) (fun i=>if i=k*4+3 then .int .i64 (q k).c else if i=k*4+2 then .slice oa1 (q k).os.length oc1 else if i=k*4+1 then .slice ra1 (q k).rs.length rc1 else if i=k*4 then .int .i64 (q k).p else f i) (fun i=>(q i).s) vs):=by
    intro a b c d
    obtain ⟨vs,o⟩:=HF.out
    exact ⟨_,o.step hb1 hs (S:=fun i=>(q i).s) (k:=k) o1 a b c d⟩
   clear hr1 o1 HF HR HB c0 c1 c2 c3
   go_wp2_with fail
   exact ⟨⟨k+1,by omega,by go_num,⟨_,(((HR1.out.set _ _).set _ _).set _ _).set _ _,HF1.out _ _ _ _⟩,((((hbw.trans (hb1.mono (Nat.le_of_lt hs))).setCell (Nat.le_refl _) _).setCell (Nat.le_refl _) _).setCell (Nat.le_refl _) _).setCell (Nat.le_refl _) _⟩,by simp [intOf];omega⟩
  ·have hkl:k=n:=by omega
   have HO:Hid (∃ vs,OutState wr w.heap.size wr.heap.size n (fun i=>(q i).s) vs):=by
    obtain ⟨vs,o⟩:=HF.out
    rw [hkl] at o
    refine ⟨vs,fun i hi=>?_,o.own,fun i hi b hb=>((o.own i hi).lt hb).2,o.apart,fun j=>hrow.frozen j,Nat.le_refl _,hs⟩
    obtain ⟨ra,rc,oa,oc,e0,e1,e2,e3,e4⟩:=o.cel i hi
    exact ⟨ra,rc,oa,oc,e0,by rw [hrow.cell (by omega),e1],by rw [hrow.cell (by omega),e2],by rw [hrow.cell (by omega),e3],by rw [hrow.cell (by omega),e4]⟩
   clear hkl HF hrow
   go_wp2
   go_ret
   exact ⟨rfl,HO.out,hbw⟩
theorem eqStateS_same (D1 h1 D2 h2 n c1 c2:Nat) (S:Nat->S4) (v1 v2:Nat->Value) (w:World) (hn:n<=1048576) (hl:∀ i,i<n->(S i).rs.length<=1048576/\(S i).os.length<=1048576) (o1:OutState w D1 h1 n S v1) (o2:OutState w D2 h2 n S v2):
  Calls Tryz.prog 72 #[.slice (some ⟨D1,0,none⟩) n c1,.slice (some ⟨D2,0,none⟩) n c2] w fun e w'=>e=.returned (.bool true)/\Below w.heap.size w w':=by
 have hl':(n:Int)<=1048576:=by omega
 have O1:Hid (OutState w D1 h1 n S v1):=o1
 have O2:Hid (OutState w D2 h2 n S v2):=o2
 have HL:Hid (∀ i,i<n->(S i).rs.length<=1048576/\(S i).os.length<=1048576):=hl
 clear o1 o2 hl
 go_enter Tryz.func72,Tryz.ntmps72
 go_wp2_with fail
 go_loopw [5] (fun i wr=>∃ k:Nat,k<=n/\i=.int .i64 k/\Below w.heap.size w wr) (fun i _=>n - (intOf i).toNat)
 case atStart=>exact ⟨0,Nat.zero_le _,rfl,Below.refl _ _⟩
 case round=>
  obtain ⟨k,hk,rfl,hbw⟩:=hrel
  have hs:=hbw.size
  by_cases hlt:k<n
  ·have P1:Hid (OutState wr D1 h1 n S v1):=O1.out.below hbw O1.out.le
   have P2:Hid (OutState wr D2 h2 n S v2):=O2.out.below hbw O2.out.le
   obtain ⟨ra,rc,oa,oc,e1,a0,a1,a2,a3⟩:=P1.out.cel k hlt
   obtain ⟨ra',rc',oa',oc',e2,b0,b1,b2,b3⟩:=P2.out.cel k hlt
   have hsl1:Sl wr ra (S k).rs/\Sl wr oa (S k).os:=by
    obtain ⟨x1,x2,x3,x4,e,s1,s2⟩:=(P1.out.own k hlt).read
    rw [e1] at e
    simp only [Value.agg.injEq,Array.mk.injEq,List.cons.injEq,Value.slice.injEq,and_true,true_and] at e
    obtain ⟨⟨rfl,rfl⟩,rfl,rfl⟩:=e
    exact ⟨s1,s2⟩
   have hsl2:Sl wr ra' (S k).rs/\Sl wr oa' (S k).os:=by
    obtain ⟨x1,x2,x3,x4,e,s1,s2⟩:=(P2.out.own k hlt).read
    rw [e2] at e
    simp only [Value.agg.injEq,Array.mk.injEq,List.cons.injEq,Value.slice.injEq,and_true,true_and] at e
    obtain ⟨⟨rfl,rfl⟩,rfl,rfl⟩:=e
    exact ⟨s1,s2⟩
   have H1:Hid (Sl wr ra (S k).rs/\Sl wr oa (S k).os):=hsl1
   have H2:Hid (Sl wr ra' (S k).rs/\Sl wr oa' (S k).os):=hsl2
   have hlt':(k:Int)<(n:Int):=by omega
   clear hsl1 hsl2 e1 e2
   go_wp2_with fail
   first|(go_region_with (go_at_call 152;refine (eqState_same _ _ ra oa ra' oa' rc oc rc' oc' (S k).rs (S k).os wr.drew (HL.out k hlt).1 (HL.out k hlt).2 H1.out.1 H1.out.2 H2.out.1 H2.out.2).mono ?_;rintro e w1 ⟨rfl,hq1⟩)) | fail
   all_goals
    go_wp2
    go_roundw
    case rel=>exact ⟨k+1,by omega,by go_num,hbw.drew.trans (hq1.mono hs)⟩
    case measure=>simp [intOf];omega
  ·go_wp2
   go_ret
   exact ⟨rfl,hbw⟩
structure MkS (w wr:World) (D j:Nat) (vs:Nat->Value):Prop where
 tch:Touch (fun b=>b=D\/∃ t,t<j/\hasBlock (vs t) b) w wr
 cel:∀ i,j*4<=i->wr.cell? ⟨D,i,none⟩=w.cell? ⟨D,i,none⟩
 fr:∀ i,wr.frozen? ⟨D,i,none⟩=false
theorem markStateS_any (D hi n cap:Nat) (S:Nat->S4) (vs:Nat->Value) (k:Int) (w:World) (hn:n<=1048576) (hl:sumL (lenS S) n<=1048576) (k0:0<=k) (k1:k<=50000000) (o:OutState w D hi n S vs):
  Calls Tryz.prog 76 #[.slice (some ⟨D,0,none⟩) n cap,.int .i64 k] w fun e w'=>e=.returned (.int .i64 (k+(2*n+sumL (lenS S) n:Nat)))/\Touch (fun b=>D<=b/\b<hi) w w':=by
 have hl':(n:Int)<=1048576:=by omega
 have O:Hid (OutState w D hi n S vs):=o
 have HL:Hid (sumL (lenS S) n<=1048576):=hl
 clear o hl
 go_enter Tryz.func76,Tryz.ntmps76
 go_wp2_with fail
 go_loopw [1,5] (fun q i wr=>∃ j:Nat,j<=n/\i=.int .i64 j/\q=.int .i64 (k+(2*j+sumL (lenS S) j:Nat))/\Hid (MkS w wr D j vs)) (fun _ i _=>n - (intOf i).toNat)
 case atStart=>exact ⟨0,Nat.zero_le _,rfl,by simp [sumL],Touch.refl _ _,fun _ _=>rfl,O.out.fr⟩
 case round=>
  obtain ⟨j,hj,rfl,rfl,HT⟩:=hrel
  by_cases hlt:j<n
  ·have hlt':(j:Int)<(n:Int):=by omega
   obtain ⟨ra,rc,oa,oc,ev,a0,a1,a2,a3⟩:=O.out.cel j hlt
   have c0:=(HT.out.cel (j*4) (by omega)).trans a0
   have c1:=(HT.out.cel (j*4+1) (by omega)).trans a1
   have c2:=(HT.out.cel (j*4+2) (by omega)).trans a2
   have c3:=(HT.out.cel (j*4+3) (by omega)).trans a3
   have fz:=HT.out.fr
   have hD:D<wr.heap.size:=zL O.out.lt (zP O.out.le HT.out.tch.size)
   have how:=O.out.own j hlt
   have howr : StOwn wr (D + 1) (vs j) (S j).p (S j).rs (S j).os (S j).c := how.blk fun b hb => HT.out.tch.block b (how.lt hb).2 (by
    rintro (e | ⟨t,ht,h1⟩)
    ·have:=(how.lt hb).1
     omega
    ·exact O.out.apart t j ht hlt b h1 hb)
   have hbd:∀ b,hasBlock (vs j) b->D+1<=b:=fun b hb=>(how.lt hb).1
   rw [ev] at howr hbd
   obtain ⟨vr,vo,e,w1r,w1o,wap⟩:=howr
   simp only [Value.agg.injEq,Array.mk.injEq,List.cons.injEq,and_true,true_and] at e
   obtain ⟨rfl,rfl⟩:=e
   have OR:Hid (OwnI wr (D+1) (.slice ra (S j).rs.length rc) (S j).rs):=w1r
   have OO:Hid (OwnI wr (D+1) (.slice oa (S j).os.length oc) (S j).os):=w1o
   have AP:Hid (∀ b,(Value.slice ra (S j).rs.length rc).ownBlock=some b->(Value.slice oa (S j).os.length oc).ownBlock≠some b):=wap
   have HV:Hid (vs j=stV (S j).p ra (S j).rs.length rc oa (S j).os.length oc (S j).c):=ev
   have hsl:=sumL_at (lenS S) hlt
   have hS:=HL.out
   have hlk:lenS S j=(S j).rs.length+(S j).os.length:=rfl
   have r1:(S j).rs.length<=1048576:=by omega
   have r2:(S j).os.length<=1048576:=by omega
   generalize hx:k+(2*j+sumL (lenS S) j:Nat)=X at *
   have x0:0<=X:=by omega
   have x1:X<=60000000:=by omega
   have HN:Hid (X+1+(S j).rs.length+(S j).os.length+1=k+(2*(j+1)+sumL (lenS S) (j+1):Nat)):=by
    show X+1+(S j).rs.length+(S j).os.length+1=k+(2*(j+1)+sumL (lenS S) (j+1):Nat)
    simp only [sumL]
    omega
   have rI:((S j).rs.length:Int)<=1048576:=by omega
   have oI:((S j).os.length:Int)<=1048576:=by omega
   clear a0 a1 a2 a3 ev wap w1r w1o how hsl hS hlk hx
   go_wp2_with fail
   refine (markIntS_any ra rc (D+1) (S j).rs _ _ r1 (by omega) (by omega) (OR.out.setBelow (by simp) _)).mono ?_
   rintro e w1 ⟨rfl,-,g1⟩
   have nR:some D≠(Value.slice ra (S j).rs.length rc).ownBlock:=fun e=>by
    have:=(OR.out.lt D e.symm).1
    omega
   have nO:some D≠(Value.slice oa (S j).os.length oc).ownBlock:=fun e=>by
    have:=(OO.out.lt D e.symm).1
    omega
   obtain ⟨d1,f1⟩:=gcell g1 (b:=D) (by simpa using hD) nR
   have OO1:Hid (OwnI w1 (D+1) (.slice oa (S j).os.length oc) (S j).os):=own_apart (OO.out.setBelow (by simp) _) g1 AP.out
   have hD1:D<w1.heap.size:=by have:=g1.size;simp at this;omega
   have G1:Hid (World.grownBy (wr.setCell ⟨D,j*4,none⟩ (.int .i64 X)) w1 (Value.slice ra (S j).rs.length rc).ownBlock):=g1
   clear g1
   go_wp2_with fail
   refine (markIntS_any oa oc (D+1) (S j).os _ _ r2 (by omega) (by omega) OO1.out).mono ?_
   rintro e w2 ⟨rfl,-,g2⟩
   obtain ⟨d2,f2⟩:=gcell g2 (b:=D) hD1 nO
   have HT2:Hid (∀ u,MkS w (w2.setCell ⟨D,j*4+3,none⟩ u) D (j+1) vs):=by
    intro u
    have t0 : Touch (fun b => b = D ∨ ∃ t, t < j + 1 ∧ hasBlock (vs t) b) w wr := HT.out.tch.mono (by
     rintro b (e | ⟨t,ht,h1⟩)
     ·exact .inl e
     ·exact .inr ⟨t,by omega,h1⟩)
    have t1:Touch (fun b=>b=D\/∃ t,t<j+1/\hasBlock (vs t) b) wr (wr.setCell ⟨D,j*4,none⟩ (.int .i64 X)):=Touch.of_set _ (.inl rfl) _
    have t2 : Touch (fun b => b = D ∨ ∃ t, t < j + 1 ∧ hasBlock (vs t) b) (wr.setCell ⟨D, j * 4, none⟩ (.int .i64 X)) w1 := Touch.of_grown G1.out fun b e => .inr ⟨j, by omega, by
     rw [HV.out]
     exact (hasBlock_iff _ _ _ _ _).2 (.inl e)⟩
    have t3 : Touch (fun b => b = D ∨ ∃ t, t < j + 1 ∧ hasBlock (vs t) b) w1 w2 := Touch.of_grown g2 fun b e => .inr ⟨j, by omega, by
     rw [HV.out]
     exact (hasBlock_iff _ _ _ _ _).2 (.inr e)⟩
    refine ⟨(((t0.trans t1).trans t2).trans t3).trans (Touch.of_set _ (.inl rfl) _),fun i hi=>?_,fun i=>?_⟩
    ·have s1:∀ (W:World) (o:Nat) (u:Value),o≠i->(W.setCell ⟨D,o,none⟩ u).cell? ⟨D,i,none⟩=W.cell? ⟨D,i,none⟩:=fun W o u h=>World.cell?_setCell_other _ _ _ _ fun e=>h (by injection e)
     rw [s1 _ _ _ (by omega),d2,d1,s1 _ _ _ (by omega)]
     exact HT.out.cel i (by omega)
    ·rw [World.frozen?_setCell,f2,f1,World.frozen?_setCell]
     exact HT.out.fr i
   clear g2 G1 OO1 OO OR AP HV HT
   go_wp2
   go_roundw
   case rel=>exact ⟨j+1,by omega,by go_num,by rw [HN.out],HT2.out _⟩
   case measure=>simp [intOf];omega
  ·have hkl:j=n:=by omega
   subst hkl
   have HT1 : Hid (Touch (fun b => D ≤ b ∧ b < hi) w wr) := HT.out.tch.mono (by
    rintro b (e | ⟨t,ht,h1⟩)
    ·subst e
     exact ⟨Nat.le_refl _,O.out.lt⟩
    ·exact ⟨by have:=((O.out.own t ht).lt h1).1;omega,O.out.bd t ht b h1⟩)
   clear HT
   go_wp2
   go_ret
   exact ⟨rfl,HT1.out⟩
theorem open_stateCells {H:Type} {enc:TypeId × Value->H} {w:World} {base fuel:Nat} {held:Bool} {c0 c1 c2 c3:Value} {x:DataW H × List MemPlace}
  (hf':DataW.trod enc Tryz.prog w base (fun _=>true) held fuel 159 [c0,c1,c2,c3]=some x):
  ∃ q:St8,(c0=.int .i64 q.p/\c1=.slice q.ra q.rs.length q.rc/\c2=.slice q.oa q.os.length q.oc/\c3=.int .i64 q.c)/\(q.rs.length<=maxLen/\q.os.length<=maxLen)/\Sl w q.ra q.rs/\Sl w q.oa q.os:=by
 obtain ⟨xs,m,-,-,-,hl,hx⟩:=DataW.trod_struct Tryz.underlying159 hf'
 have hl:xs.length=4:=hl
 have q0:DataW.trod enc Tryz.prog w base (fun _=>true) held m 3 [c0]=xs[0]?:=by simpa [cellsInt] using hx 0 _ rfl
 have q1:DataW.trod enc Tryz.prog w base (fun _=>true) held m 37 [c1]=xs[1]?:=by simpa [cellsInts] using hx 1 _ rfl
 have q2:DataW.trod enc Tryz.prog w base (fun _=>true) held m 37 [c2]=xs[2]?:=by simpa [cellsInts] using hx 2 _ rfl
 have q3:DataW.trod enc Tryz.prog w base (fun _=>true) held m 3 [c3]=xs[3]?:=by simpa [cellsInt] using hx 3 _ rfl
 rw [List.getElem?_eq_getElem (by omega)] at q0 q1 q2 q3
 obtain ⟨z0,e0,-,-⟩:=DataW.trod_int Tryz.underlying3 q0
 obtain ⟨z3,e3,-,-⟩:=DataW.trod_int Tryz.underlying3 q3
 obtain ⟨ra,rc,rs,rfl,hr,h1⟩:=open_intRow q1
 obtain ⟨oa,oc,os,rfl,ho,h2⟩:=open_intRow q2
 simp only [List.cons.injEq,and_true] at e0 e3
 subst e0 e3
 exact ⟨⟨z0,ra,rc,rs,oa,oc,os,z3⟩,⟨rfl,rfl,rfl,rfl⟩,⟨hr,ho⟩,h1,h2⟩
theorem open_StateS {H:Type} {enc:TypeId × Value->H} {w:World} {held:Bool} {base:Nat} {a0:Option Addr} {len cap:Nat} {d:DataW H} {p:List MemPlace}
  (h:DataW.Trod enc Tryz.prog w base (fun _=>true) held 42 (.slice a0 len cap) d p):
  len<=maxLen/\∃ q,AllState w a0 len q/\∀ i,i<len->(q i).rs.length<=maxLen/\(q i).os.length<=maxLen:=by
 obtain ⟨fuel,hf⟩:=h
 have inh:Inhabited St8:=⟨⟨0,none,0,[],none,0,[],0⟩⟩
 rcases Go.Deep.open_slice Tryz.underlying42 hf with ⟨hcs,_⟩ | ⟨a,len',cap',m,n,D,Pl,hcs,_,hl,hm,hmm,_,hx⟩
 ·simp [Value.cells] at hcs
  obtain ⟨_,rfl,_⟩:=hcs
  exact ⟨Nat.zero_le _,fun _=>default,⟨.inl rfl,fun i hi=>by omega⟩,fun i hi=>by omega⟩
 ·simp [Value.cells] at hcs
  obtain ⟨rfl,rfl,rfl⟩:=hcs
  refine ⟨zP hl hm,?_⟩
  have hle:len<=m:=by rw [hmm];split <;> omega
  rw [cellsLawState] at hx
  obtain ⟨b,off,spot⟩:=a
  have hcell:∀ i,i<len->∃ q:St8,(w.cell? (Addr.add (Addr.add ⟨b,off,spot⟩ (i*4)) 0)=some (.int .i64 q.p)/\w.cell? (Addr.add (Addr.add ⟨b,off,spot⟩ (i*4)) 1)=some (.slice q.ra q.rs.length q.rc)/\w.cell? (Addr.add (Addr.add ⟨b,off,spot⟩ (i*4)) 2)=some (.slice q.oa q.os.length q.oc)/\w.cell? (Addr.add (Addr.add ⟨b,off,spot⟩ (i*4)) 3)=some (.int .i64 q.c))/\(q.rs.length<=maxLen/\q.os.length<=maxLen)/\Sl w q.ra q.rs/\Sl w q.oa q.os:=by
   intro i hi
   obtain ⟨cs',h1,h2⟩:=hx i (by omega)
   obtain ⟨_,hlen,hc⟩:=World.cells?_some h1
   match cs',hlen with
   | [c0,c1,c2,c3],_=>
    obtain ⟨q,⟨rfl,rfl,rfl,rfl⟩,hb,hs⟩:=open_stateCells h2
    exact ⟨q,⟨hc 0 (by omega),hc 1 (by omega),hc 2 (by omega),hc 3 (by omega)⟩,hb,hs⟩
  obtain ⟨g,hg⟩:=Go.Deep.choose_lt (α:=St8) hcell
  refine ⟨g,⟨?_,fun i hi=>(hg i hi).2.2⟩,fun i hi=>(hg i hi).2.1⟩
  by_cases h0:len=0
  ·exact .inl h0
  have hspot:spot=none:=by
   have hx0:=(hg 0 (by omega)).1.1
   simpa [Addr.add] using World.cell?_spot hx0
  subst hspot
  have hI:∀ i,i<len->w.cell? ⟨b,off+i*4,none⟩=some (.int .i64 (g i).p)/\w.cell? ⟨b,off+i*4+1,none⟩=some (.slice (g i).ra (g i).rs.length (g i).rc)/\w.cell? ⟨b,off+i*4+2,none⟩=some (.slice (g i).oa (g i).os.length (g i).oc)/\w.cell? ⟨b,off+i*4+3,none⟩=some (.int .i64 (g i).c):=by
   intro i hi
   obtain ⟨⟨q0,q1,q2,q3⟩,-⟩:=hg i hi
   rw [addr_addO,addr_addO] at q0 q1 q2 q3
   exact ⟨q0,q1,q2,q3⟩
  exact .inr ⟨b,off,rfl,cell_lt (hI 0 (by omega)).1,hI⟩
theorem append_one {ops:Array Oper} {rest:List Oper} {op:Oper} {act:Act} {Q:Exit->Act->World->Prop} (w:World) (hgd:op.guard=none) (s x:Operand)
  (ho:op.op=.call { callee:=.builtin .append,args:=#[s,x],argTypes:=#[37,37] })
  (B:Nat) (v:Value) (xs:List Int) (hs:act.eval s=v) (hv:OwnI w B v xs) (y:Int) (hx:act.eval x=.slice (some ⟨w.heap.size,0,none⟩) 1 1) (hn:xs.length<=1048576) (hB:B<=w.heap.size)
  (h:∀ v' w',OwnI w' B v' (xs ++ [y])->Below B w w'->wpList Tryz.prog ops Q rest (act.put op.dst v') w'):
  wpList Tryz.prog ops Q (op :: rest) act (w.alloc (.cells #[.int .i64 y] 3)):=by
 have hb:Below w.heap.size w (w.alloc (.cells #[.int .i64 y] 3)):=(Below.refl _ _).alloc (Nat.le_refl _) _
 refine wpList_append_ints _ hgd s x ho B 1 v (some ⟨w.heap.size,0,none⟩) xs [y] hs hx (hv.below hb) (.inr ⟨w.heap.size,0,rfl,by simp,fun i hi=>?_⟩) (by simp;omega) (by simp;omega) ?_
 ·have:i=0:=by simp at hi;omega
  subst this
  exact zW _ _ _ 0 rfl
 ·intro v' w' o g _
  refine h v' w' o (Below.grown (hb.mono hB) g (by simp;omega) (fun k hk=>(hv.lt k hk).1))
theorem append_oneN {ops:Array Oper} {rest:List Oper} {op:Oper} {act:Act} {Q:Exit->Act->World->Prop} (w:World) {N:Nat} (hN:N=w.heap.size) (hgd:op.guard=none) (s x:Operand)
  (ho:op.op=.call { callee:=.builtin .append,args:=#[s,x],argTypes:=#[37,37] })
  (B:Nat) (v:Value) (xs:List Int) (hs:act.eval s=v) (hv:OwnI w B v xs) (y:Int) (hx:act.eval x=.slice (some ⟨N,0,none⟩) 1 1) (hn:xs.length<=1048576) (hB:B<=w.heap.size)
  (h:∀ v' w',OwnI w' B v' (xs ++ [y])->Below B w w'->wpList Tryz.prog ops Q rest (act.put op.dst v') w'):
  wpList Tryz.prog ops Q (op :: rest) act (w.alloc (.cells #[.int .i64 y] 3)):=by
 subst hN
 exact append_one w hgd s x ho B v xs hs hv y hx hn hB h
theorem OwnI.to {w:World} {B:Nat} {v:Value} {xs ys:List Int} (h:OwnI w B v xs) (e:ys=xs):OwnI w B v ys:=e ▸ h
def hitB (eh:Nat->E3) (kd pr:Int) (i:Nat):Bool:=((eh i).k == kd) && ((eh i).q == pr)
def plN (eh:Nat->E3) (kd pr:Int):Nat->List Nat
 | 0=>[]
 | n+1=>if hitB eh kd pr n=true then plN eh kd pr n ++ [n] else plN eh kd pr n
def valL (eh:Nat->E3) (kd pr:Int) (n:Nat):List Int:=(plN eh kd pr n).map fun i=>(eh i).v
def plI (eh:Nat->E3) (kd pr:Int) (n:Nat):List Int:=(plN eh kd pr n).map fun i:Nat=>(i:Int)
theorem plN_le (eh:Nat->E3) (kd pr:Int):∀ n,(plN eh kd pr n).length<=n
 | 0=>Nat.le_refl _
 | n+1=>by
  unfold plN
  have:=plN_le eh kd pr n
  split
  ·simp;omega
  ·omega
theorem valL_le (eh:Nat->E3) (kd pr:Int) (n:Nat):(valL eh kd pr n).length<=n:=by
 unfold valL
 rw [List.length_map]
 exact plN_le eh kd pr n
theorem plI_le (eh:Nat->E3) (kd pr:Int) (n:Nat):(plI eh kd pr n).length<=n:=by
 unfold plI
 rw [List.length_map]
 exact plN_le eh kd pr n
theorem valL_hit {eh:Nat->E3} {kd pr:Int} {n:Nat} (hh:hitB eh kd pr n=true):valL eh kd pr (n+1)=valL eh kd pr n ++ [(eh n).v]:=by
 unfold valL
 rw [plN,if_pos hh,List.map_append]
 rfl
theorem valL_not {eh:Nat->E3} {kd pr:Int} {n:Nat} (hh:hitB eh kd pr n=false):valL eh kd pr (n+1)=valL eh kd pr n:=by
 unfold valL
 rw [plN,if_neg (by rw [hh];decide)]
theorem plI_hit {eh:Nat->E3} {kd pr:Int} {n:Nat} (hh:hitB eh kd pr n=true):plI eh kd pr (n+1)=plI eh kd pr n ++ [(n:Int)]:=by
 unfold plI
 rw [plN,if_pos hh,List.map_append]
 rfl
theorem plI_not {eh:Nat->E3} {kd pr:Int} {n:Nat} (hh:hitB eh kd pr n=false):plI eh kd pr (n+1)=plI eh kd pr n:=by
 unfold plI
 rw [plN,if_neg (by rw [hh];decide)]
def EvL (w:World) (a:Option Addr) (len:Nat) (h:Nat->E3):Prop:=len=0\/∃ b off,a=some ⟨b,off,none⟩/\b<w.heap.size/\EvAt w b off len h
theorem EvL.below {w w':World} {a:Option Addr} {len:Nat} {h:Nat->E3} (hh:EvL w a len h) (hb:Below w.heap.size w w'):EvL w' a len h:=by
 rcases hh with e | ⟨b,off,e,hlt,hc⟩
 ·exact .inl e
 ·exact .inr ⟨b,off,e,zL hlt hb.size,hc.below hb hlt⟩
theorem EvL.at {w:World} {a:Option Addr} {len:Nat} {h:Nat->E3} (hh:EvL w a len h) {k:Nat} (hk:k<len):∃ b off,a=some ⟨b,off,none⟩/\b<w.heap.size/\w.cell? ⟨b,off+k*3,none⟩=some (.int .i64 (h k).k)/\w.cell? ⟨b,off+k*3+1,none⟩=some (.int .i64 (h k).q)/\w.cell? ⟨b,off+k*3+2,none⟩=some (.int .i64 (h k).v):=by
 rcases hh with rfl | ⟨b,off,e,hlt,hc⟩
 ·omega
 ·exact ⟨b,off,e,hlt,hc k hk⟩
theorem EvL.take {w:World} {a:Option Addr} {len:Nat} {h:Nat->E3} (hh:EvL w a len h) {k:Nat} (hk:k<=len):EvL w a k h:=by
 rcases hh with rfl | ⟨b,off,e,hlt,hc⟩
 ·exact .inl (by omega)
 ·exact .inr ⟨b,off,e,hlt,fun i hi=>hc i (by omega)⟩
theorem EvL.one {w:World} {b off len:Nat} {h:Nat->E3} (hh:EvL w (some ⟨b,off,none⟩) len h) {k:Nat} (hk:k<len):EvAt w b off len h/\b<w.heap.size:=by
 rcases hh with rfl | ⟨b',off',e,hlt,hc⟩
 ·omega
 ·simp only [Option.some.injEq,Addr.mk.injEq] at e
  obtain ⟨rfl,rfl,-⟩:=e
  exact ⟨hc,hlt⟩
def cnt (eh:Nat->E3) (kd pr:Int) (n:Nat):Nat:=(plN eh kd pr n).length
theorem cnt_zero (eh:Nat->E3) (kd pr:Int):cnt eh kd pr 0=0:=rfl
theorem cnt_hit {eh:Nat->E3} {kd pr:Int} {n:Nat} (h:hitB eh kd pr n=true):cnt eh kd pr (n+1)=cnt eh kd pr n+1:=by
 unfold cnt
 rw [plN,if_pos h,List.length_append]
 rfl
theorem cnt_not {eh:Nat->E3} {kd pr:Int} {n:Nat} (h:hitB eh kd pr n=false):cnt eh kd pr (n+1)=cnt eh kd pr n:=by
 unfold cnt
 rw [plN,if_neg (by rw [h];decide)]
theorem cnt_le (eh:Nat->E3) (kd pr:Int) (n:Nat):cnt eh kd pr n<=n:=plN_le eh kd pr n
theorem cnt_mono (eh:Nat->E3) (kd pr:Int) {a b:Nat} (h:a<=b):cnt eh kd pr a<=cnt eh kd pr b:=by
 induction b with
 | zero=>
  have:a=0:=by omega
  subst this
  exact Nat.le_refl _
 | succ b ih=>
  by_cases e:a=b+1
  ·subst e
   exact Nat.le_refl _
  ·have:=ih (by omega)
   rcases zK (hitB eh kd pr b) with t | t
   ·rw [cnt_hit t]
    omega
   ·rw [cnt_not t]
    exact this
theorem hitB_iff {eh:Nat->E3} {kd pr:Int} {i:Nat}:hitB eh kd pr i=true ↔ (eh i).k=kd/\(eh i).q=pr:=by
 simp [hitB]
structure Hs where
 n:Nat
 l:Nat->Nat
 e:Nat->Nat->E3
def Hs.Peers (x:Hs):Prop:=∀ p,p<x.n->∀ i,i<x.l p->0<=(x.e p i).q/\(x.e p i).q<(x.n:Int)
def Hs.Can (x:Hs) (d:Nat->Nat) (p:Nat):Prop:=
 d p<x.l p/\((x.e p (d p)).k=3->cnt (x.e p) 3 (x.e p (d p)).q (d p)<cnt (x.e (x.e p (d p)).q.toNat) 2 p (d (x.e p (d p)).q.toNat))
def up (d:Nat->Nat) (p:Nat):Nat->Nat:=fun i=>if i=p then d i+1 else d i
theorem up_same (d:Nat->Nat) (p:Nat):up d p p=d p+1:=by simp [up]
theorem up_other {d:Nat->Nat} {p i:Nat} (h:i≠p):up d p i=d i:=by simp [up,h]
inductive Hs.Put (x:Hs):(Nat->Nat)->Prop
 | start:x.Put (fun _=>0)
 | next {d:Nat->Nat} {p:Nat}:x.Put d->p<x.n->x.Can d p->x.Put (up d p)
def Hs.All (x:Hs) (d:Nat->Nat):Prop:=∀ p,p<x.n->d p=x.l p
def Hs.Row (x:Hs):Prop:=∃ d,x.Put d/\x.All d
theorem Hs.Put.le {x:Hs} {d:Nat->Nat} (h:x.Put d):∀ p,d p<=x.l p:=by
 induction h with
 | start=>exact fun _=>Nat.zero_le _
 | next _ _ hc ih=>
  rename_i d p _ _
  intro i
  by_cases e:i=p
  ·subst e
   rw [up_same]
   exact hc.1
  ·rw [up_other e]
   exact ih i
theorem Hs.Put.stuck {x:Hs} {d s:Nat->Nat} (h:x.Put d) (hp:x.Peers) (hs:∀ p,p<x.n->¬ x.Can s p):∀ p,p<x.n->d p<=s p:=by
 induction h with
 | start=>exact fun _ _=>Nat.zero_le _
 | next _ hpn hc ih=>
  rename_i d p _
  intro i hi
  by_cases e:i=p
  ·subst e
   rw [up_same]
   have h1:=ih i hi
   by_cases e:d i=s i
   ·exfalso
    refine hs i hi ⟨by rw [<- e];exact hc.1,fun hk=>?_⟩
    rw [<- e] at hk ⊢
    have h2:=hc.2 hk
    have hq:=hp i hi (d i) hc.1
    exact zL h2 (cnt_mono _ _ _ (ih _ (by omega)))
   ·omega
  ·rw [up_other e]
   exact ih i hi
theorem Hs.row_iff {x:Hs} {s:Nat->Nat} (h:x.Put s) (hp:x.Peers) (hs:∀ p,p<x.n->¬ x.Can s p):x.Row ↔ x.All s:=by
 refine ⟨fun ⟨d,hd,ha⟩ p hpn=>?_,fun ha=>⟨s,h,ha⟩⟩
 have h1:=hd.stuck hp hs p hpn
 have h2:=h.le p
 have h3:=ha p hpn
 omega
def Hs.opn (x:Hs) (d:Nat->Nat) (a b:Nat):Int:=(cnt (x.e a) 2 b (d a):Int) - (cnt (x.e b) 3 a (d b):Int)
theorem Hs.opn_start (x:Hs) (a b:Nat):x.opn (fun _=>0) a b=0:=by simp [Hs.opn,cnt_zero]
theorem Hs.can_iff {x:Hs} {d:Nat->Nat} {p:Nat} (hp:x.Peers) (hpn:p<x.n):x.Can d p ↔ d p<x.l p/\((x.e p (d p)).k=3->0<x.opn d (x.e p (d p)).q.toNat p):=by
 unfold Hs.Can Hs.opn
 refine and_congr_right fun hl=>?_
 have hq:=hp p hpn _ hl
 rw [show (((x.e p (d p)).q.toNat:Nat):Int)=(x.e p (d p)).q by omega]
 refine ⟨fun h hk=>?_,fun h hk=>?_⟩
 ·have:=h hk
  omega
 ·have:=h hk
  omega
theorem Hs.opn_up {x:Hs} {d:Nat->Nat} {p a b:Nat}:x.opn (up d p) a b=x.opn d a b+(if a=p/\(x.e p (d p)).k=2/\(x.e p (d p)).q=(b:Int) then 1 else 0) - (if b=p/\(x.e p (d p)).k=3/\(x.e p (d p)).q=(a:Int) then 1 else 0):=by
 have hA:(cnt (x.e a) 2 b (up d p a):Int)=cnt (x.e a) 2 b (d a)+(if a=p/\(x.e p (d p)).k=2/\(x.e p (d p)).q=(b:Int) then 1 else 0):=by
  by_cases e:a=p
  ·subst e
   rw [up_same]
   rcases zK (hitB (x.e a) 2 b (d a)) with t | t
   ·rw [cnt_hit t,if_pos ⟨rfl,hitB_iff.1 t⟩]
    omega
   ·rw [cnt_not t,if_neg (fun h=>by rw [hitB_iff.2 h.2] at t;cases t)]
    omega
  ·rw [up_other e,if_neg (fun h=>e h.1)]
   omega
 have hB:(cnt (x.e b) 3 a (up d p b):Int)=cnt (x.e b) 3 a (d b)+(if b=p/\(x.e p (d p)).k=3/\(x.e p (d p)).q=(a:Int) then 1 else 0):=by
  by_cases e:b=p
  ·subst e
   rw [up_same]
   rcases zK (hitB (x.e b) 3 a (d b)) with t | t
   ·rw [cnt_hit t,if_pos ⟨rfl,hitB_iff.1 t⟩]
    omega
   ·rw [cnt_not t,if_neg (fun h=>by rw [hitB_iff.2 h.2] at t;cases t)]
    omega
  ·rw [up_other e,if_neg (fun h=>e h.1)]
   omega
 unfold Hs.opn
 rw [hA,hB]
 omega
def isI:Value->Bool
 | .int .i64 _=>true
 | _=>false
def Lst (w:World) (B:Nat) (v:Value) (n:Nat):Prop:=∃ xs,w.ownsRow B 99 5 v n xs/\xs.all isI=true
structure Tu (lo hi:Nat) (w w':World):Prop where
 os:w'.os=w.os
 tape:w'.tape=w.tape
 output:w'.output=w.output
 size:w.heap.size<=w'.heap.size
 block:∀ k,k<w.heap.size->(k<lo\/hi<=k)->w'.heap[k]? = w.heap[k]?
theorem Tu.of_below {w w':World} (h:Below w.heap.size w w'):Tu 0 0 w w':=⟨h.os,h.tape,h.output,h.size,fun k hk _=>h.block k hk⟩
theorem OwnI.ofBlock {w w':World} {B:Nat} {u:Value} {xs:List Int} (hu:OwnI w B u xs) (ha:∀ k,u.ownBlock=some k->w'.heap[k]? = w.heap[k]?):OwnI w' B u xs:=by
 rcases hu.2 with ⟨rfl,h0⟩ | ⟨g,cap,cur,rfl,hb,hg,hr⟩
 ·exact ⟨hu.1,.inl ⟨rfl,h0⟩⟩
 ·refine ⟨hu.1,.inr ⟨g,cap,cur,rfl,hb,?_,hr⟩⟩
  rw [ha g rfl]
  exact hg
theorem OwnI.slOf {w:World} {B n cap:Nat} {a0:Option Addr} {xs:List Int} (h:OwnI w B (.slice a0 n cap) xs):Sl w a0 xs:=by
 obtain ⟨a1,c1,e,s⟩:=h.form
 simp only [Value.slice.injEq] at e
 obtain ⟨rfl,-,-⟩:=e
 exact s
structure Tl (w:World) (B C N:Nat) (p c:Int) (ra:Option Addr) (rn rc:Nat) (oa:Option Addr) (on oc:Nat) (rs os:List Int):Prop where
 lo:B<=N
 hi:N<C
 sz:C<=w.heap.size
 box:BoxC w N (.int .i64 p) (.slice ra rn rc) (.slice oa on oc) (.int .i64 c)
 own:StOwn w B (stV p ra rn rc oa on oc c) p rs os c
 up:∀ k,hasBlock (stV p ra rn rc oa on oc c) k->k<C
 ne:¬ hasBlock (stV p ra rn rc oa on oc c) N
theorem Tl.tu {w w':World} {B C N:Nat} {p c:Int} {ra:Option Addr} {rn rc:Nat} {oa:Option Addr} {on oc:Nat} {rs os:List Int} {lo hi:Nat} (h:Tl w B C N p c ra rn rc oa on oc rs os) (t:Tu lo hi w w') (hd:C<=lo\/hi<=B):Tl w' B C N p c ra rn rc oa on oc rs os:=by
 obtain ⟨h1,h2,h3,⟨b0,b1,b2,b3⟩,h5,h6,h7⟩:=h
 have hb:∀ k,B<=k->k<C->w'.heap[k]? = w.heap[k]?:=fun k k1 k2=>t.block k (by omega) (by omega)
 have hN:=hb N h1 h2
 refine ⟨h1,h2,zP h3 t.size,⟨(zH hN).trans b0,(zH hN).trans b1,(zH hN).trans b2,(zH hN).trans b3⟩,?_,h6,h7⟩
 obtain ⟨o1,o2,ha⟩:=h5.parts
 refine ⟨_,_,rfl,o1.ofBlock fun k hk=>?_,o2.ofBlock fun k hk=>?_,ha⟩
 ·exact hb k (o1.lt k hk).1 (h6 k ((hasBlock_iff _ _ _ _ _).2 (.inl hk)))
 ·exact hb k (o2.lt k hk).1 (h6 k ((hasBlock_iff _ _ _ _ _).2 (.inr hk)))
theorem Tl.below {w w':World} {B C N:Nat} {p c:Int} {ra:Option Addr} {rn rc:Nat} {oa:Option Addr} {on oc:Nat} {rs os:List Int} (h:Tl w B C N p c ra rn rc oa on oc rs os) (hb:Below w.heap.size w w'):Tl w' B C N p c ra rn rc oa on oc rs os:=h.tu (Tu.of_below hb) (.inr (Nat.zero_le _))
theorem Tl.sl {w:World} {B C N:Nat} {p c:Int} {ra:Option Addr} {rn rc:Nat} {oa:Option Addr} {on oc:Nat} {rs os:List Int} (h:Tl w B C N p c ra rn rc oa on oc rs os):Sl w ra rs/\Sl w oa os:=⟨h.own.parts.1.slOf,h.own.parts.2.1.slOf⟩
theorem Tl.of_alloc {w:World} {B:Nat} {p c:Int} {ra oa:Option Addr} {rn rc on oc:Nat} {rs os:List Int} (h:StOwn w B (stV p ra rn rc oa on oc c) p rs os c) (hw:B<=w.heap.size) (t:TypeId):Tl (w.alloc (.cells #[.int .i64 p,.slice ra rn rc,.slice oa on oc,.int .i64 c] t)) B (w.heap.size+1) w.heap.size p c ra rn rc oa on oc rs os:=
 ⟨hw,Nat.lt_succ_self _,by simp,BoxC.new w _ _ _ _ _,h.below (zT _ _),fun k hk=>Nat.lt_succ_of_lt (h.lt hk).2,fun e=>Nat.lt_irrefl _ (h.lt e).2⟩
def Told (w:World) (B N:Nat) (S:S4):Prop:=∃ ra rc oa oc,BoxC w N (.int .i64 S.p) (.slice ra S.rs.length rc) (.slice oa S.os.length oc) (.int .i64 S.c)/\StOwn w B (stV S.p ra S.rs.length rc oa S.os.length oc S.c) S.p S.rs S.os S.c/\B<=N/\¬ hasBlock (stV S.p ra S.rs.length rc oa S.os.length oc S.c) N
theorem Told.tl {w:World} {B N:Nat} {S:S4} (h:Told w B N S):∃ ra rc oa oc,Tl w B w.heap.size N S.p S.c ra S.rs.length rc oa S.os.length oc S.rs S.os:=by
 obtain ⟨ra,rc,oa,oc,h1,h2,h3,h4⟩:=h
 exact ⟨ra,rc,oa,oc,h3,zJ w _ h1.1,Nat.le_refl _,h1,h2,fun k hk=>(h2.lt hk).2,h4⟩
theorem BoxC.set4 {w:World} {N:Nat} {z0 z1 z2 z3:Value} (h:BoxC w N z0 z1 z2 z3) (a b c d:Value):BoxC ((((w.setCell ⟨N,0,none⟩ a).setCell ⟨N,1,none⟩ b).setCell ⟨N,2,none⟩ c).setCell ⟨N,3,none⟩ d) N a b c d:=by
 obtain ⟨h0,h1,h2,h3⟩:=h
 exact ⟨by go_cell,by go_cell,by go_cell,by go_cell⟩
theorem grown4 (w:World) (N:Nat) (a b c d:Value):w.grownBy ((((w.setCell ⟨N,0,none⟩ a).setCell ⟨N,1,none⟩ b).setCell ⟨N,2,none⟩ c).setCell ⟨N,3,none⟩ d) (some N):=by
 repeat (refine zV ?_ (.inl rfl) _)
 exact World.grownBy.refl _ _
theorem Told.of_alloc {w:World} {B B':Nat} {S:S4} {ra oa:Option Addr} {rc oc:Nat} (h:StOwn w B' (stV S.p ra S.rs.length rc oa S.os.length oc S.c) S.p S.rs S.os S.c) (hB:B<=B') (hw:B<=w.heap.size) (t:TypeId):Told (w.alloc (.cells #[.int .i64 S.p,.slice ra S.rs.length rc,.slice oa S.os.length oc,.int .i64 S.c] t)) B w.heap.size S:=by
 refine ⟨ra,rc,oa,oc,BoxC.new w _ _ _ _ _,?_,hw,fun e=>Nat.lt_irrefl _ (h.lt e).2⟩
 obtain ⟨vr,vo,e,o1,o2,ha⟩:=h
 exact ⟨vr,vo,e,(o1.below (zT _ _)).mono hB,(o2.below (zT _ _)).mono hB,ha⟩
theorem Told.of_put {w:World} {B B' N:Nat} {S:S4} {ra oa:Option Addr} {rc oc:Nat} {z0 z1 z2 z3:Value} (h:StOwn w B' (stV S.p ra S.rs.length rc oa S.os.length oc S.c) S.p S.rs S.os S.c) (hB:B<=B') (hN:N<B') (hw:B<=N) (hZ:BoxC w N z0 z1 z2 z3):Told ((((w.setCell ⟨N,0,none⟩ (.int .i64 S.p)).setCell ⟨N,1,none⟩ (.slice ra S.rs.length rc)).setCell ⟨N,2,none⟩ (.slice oa S.os.length oc)).setCell ⟨N,3,none⟩ (.int .i64 S.c)) B N S:=
 ⟨ra,rc,oa,oc,hZ.set4 _ _ _ _,h.put4 hN hB,hw,fun e=>Nat.not_le_of_lt hN (h.lt e).1⟩
def Dx (w wr:World) (p code:Int) (ra:Option Addr) (rn rc:Nat) (oa:Option Addr) (on oc:Nat) (ek eq ev:Int):Prop:=
 Below w.heap.size w wr/\BoxC wr w.heap.size (.int .i64 p) (.slice ra rn rc) (.slice oa on oc) (.int .i64 code)/\EvC3 wr (w.heap.size+1) ek eq ev
open Go.Sort
noncomputable def qB (p:Prop):Bool:=@decide p (Classical.propDecidable _)
theorem qB_true {p:Prop} (h:p):qB p=true:=by simp [qB,h]
theorem qB_false {p:Prop} (h:¬ p):qB p=false:=by simp [qB,h]
theorem qB_iff {p:Prop}:qB p=true ↔ p:=by simp [qB]
structure HisE (w:World) (ha:Option Addr) (hA:Nat->Option Addr) (hC:Nat->Nat) (y:Hs):Prop where
 row:RowS w ha y.n fun i=>.slice (hA i) (y.l i) (hC i)
 ev:∀ i,i<y.n->EvL w (hA i) (y.l i) (y.e i)
theorem HisE.below {w w':World} {ha:Option Addr} {hA:Nat->Option Addr} {hC:Nat->Nat} {y:Hs} (h:HisE w ha hA hC y) (hb:Below w.heap.size w w'):HisE w' ha hA hC y:=⟨h.row.below hb,fun i hi=>(h.ev i hi).below hb⟩
structure HisP (w:World) (X:Nat) (ha:Option Addr) (hc:Nat) (y:Hs) (d:Nat->Nat):Prop where
 c4:w.cell? ⟨X,4,none⟩=some (.slice ha y.n hc)
 pt:∀ i,i<4->w.cell? ⟨X,5+i,none⟩=some (.int .i64 (d i))
 op:∀ a b,a<4->b<4->w.cell? ⟨X,9+a*4+b,none⟩=some (.int .i64 (y.opn d a b))
 fr:∀ j,w.frozen? ⟨X,j,none⟩=false
theorem HisP.lt {w:World} {X:Nat} {ha:Option Addr} {hc:Nat} {y:Hs} {d:Nat->Nat} (h:HisP w X ha hc y d):X<w.heap.size:=zJ w _ h.c4
theorem HisP.blk {w w':World} {X:Nat} {ha:Option Addr} {hc:Nat} {y:Hs} {d:Nat->Nat} (h:HisP w X ha hc y d) (hb:w'.heap[X]? = w.heap[X]?):HisP w' X ha hc y d:=
 ⟨(zH hb).trans h.c4,fun i hi=>(zH hb).trans (h.pt i hi),fun a b h1 h2=>(zH hb).trans (h.op a b h1 h2),fun j=>(zI hb).trans (h.fr j)⟩
theorem HisP.below {w w':World} {X:Nat} {ha:Option Addr} {hc:Nat} {y:Hs} {d:Nat->Nat} (h:HisP w X ha hc y d) (hb:Below w.heap.size w w'):HisP w' X ha hc y d:=h.blk (hb.block X h.lt)
theorem cell_allocs {w:World} {a:Addr} {v:Value} (h:w.cell? a=some v) (o:Obj):(w.alloc o).cell? a=some v:=(World.cell?_alloc_lt w o a (zJ w _ h)).trans h
theorem canPut_any (X:Nat) (ha:Option Addr) (hc:Nat) (hA:Nat->Option Addr) (hC:Nat->Nat) (y:Hs) (d:Nat->Nat) (k:Nat) (w:World) (hE:HisE w ha hA hC y) (hP:HisP w X ha hc y d) (h4:y.n<=4) (hk:k<y.n) (hp:y.Peers) (hl:∀ i,i<y.n->y.l i<=200) (hd:∀ i,d i<=y.l i):
  Calls Tryz.prog 201 #[.pointer (some ⟨X,4,none⟩),.int .i64 k] w fun e w'=>e=.returned (.bool (qB (y.Can d k)))/\Below w.heap.size w w':=by
 have HE:Hid (HisE w ha hA hC y):=hE
 have HP:Hid (HisP w X ha hc y d):=hP
 have HCan:Hid (y.Can d k ↔ d k<y.l k/\((y.e k (d k)).k=3->0<y.opn d (y.e k (d k)).q.toNat k)):=Hs.can_iff hp hk
 have hk4:(k:Int)<4:=by omega
 have hk':(k:Int)<(y.n:Int):=by omega
 have hl200:(y.l k:Int)<=200:=by have:=hl k hk;omega
 have hdk:(d k:Int)<=(y.l k:Int):=by have:=hd k;omega
 obtain ⟨bh,oh,eh,ch⟩:=hE.row.at hk
 obtain ⟨c4,pt,op,-⟩:=hP
 have pk:=pt k (by omega)
 rw [eh] at c4
 clear hE
 by_cases he:d k=y.l k
 ·have HN:Hid (qB (y.Can d k)=false):=qB_false fun h=>by have:=h.1;omega
  rw [he] at pk
  clear op pt
  go_enter Tryz.func201,Tryz.ntmps201
  go_wp2_with fail
  go_quiet (fail)
  go_wp2
  go_ret
  rw [HN.out]
  exact ⟨rfl,yE (Below.refl _ _) _⟩
 ·have hlt:d k<y.l k:=by have:=hd k;omega
  have hlt':(d k:Int)<(y.l k:Int):=by omega
  have hne:((d k:Int) == (y.l k:Int))=false:=by
   have:¬ (d k:Int)=(y.l k:Int):=by omega
   simpa using this
  obtain ⟨b,off,ea,zb,e0,e1,e2⟩:=(HE.out.ev k hk).at hlt
  rw [ea] at ch
  have n1:w.heap.size≠X:=by have:=HP.out.lt;omega
  have n2:w.heap.size≠b:=by omega
  have n3:w.heap.size≠bh:=by have:=zJ w _ ch;simp at this;omega
  clear zb
  have hq:=hp k hk (d k) hlt
  obtain ⟨q,hqe⟩:∃ q:Nat,(y.e k (d k)).q=(q:Int):=⟨(y.e k (d k)).q.toNat,by omega⟩
  have hq4:(q:Int)<4:=by omega
  have oq:=op q k (by omega) (by omega)
  rw [hqe] at e1
  rcases zK ((y.e k (d k)).k != 3) with t | t
  ·have HN:Hid (qB (y.Can d k)=true):=qB_true (HCan.out.2 ⟨hlt,fun h=>by rw [h] at t;cases t⟩)
   clear op pt hq hqe oq HCan
   generalize (y.e k (d k)).k=kd at *
   generalize (y.e k (d k)).v=vd at *
   go_enter Tryz.func201,Tryz.ntmps201
   go_wp2_with fail
   go_quiet (fail)
   go_wp2_with fail
   have BD:Hid (Below w.heap.size w (w.drewN nq)):=yE (Below.refl _ _) _
   replace n1:(w.drewN nq).heap.size≠X:=n1
   replace n2:(w.drewN nq).heap.size≠b:=n2
   replace n3:(w.drewN nq).heap.size≠bh:=n3
   replace c4:(w.drewN nq).cell? ⟨X,4,none⟩=_:=c4
   replace pk:(w.drewN nq).cell? ⟨X,5+k,none⟩=_:=pk
   replace ch:(w.drewN nq).cell? ⟨bh,oh+k,none⟩=_:=ch
   replace e0:(w.drewN nq).cell? ⟨b,off+d k*3,none⟩=_:=e0
   replace e1:(w.drewN nq).cell? ⟨b,off+d k*3+1,none⟩=_:=e1
   replace e2:(w.drewN nq).cell? ⟨b,off+d k*3+2,none⟩=_:=e2
   generalize w.drewN nq=wd at *
   have c4':=cell_allocs c4
   have pk':=cell_allocs pk
   have ch':=cell_allocs ch
   have e0':=cell_allocs e0
   have e1':=cell_allocs e1
   have e2':=cell_allocs e2
   go_region
   all_goals
    go_wp2_with fail
    go_quiet (fail)
    go_wp2
    go_ret
    rw [HN.out]
    exact ⟨rfl,yE (BD.out.trans ((zT _ _).mono BD.out.size)).drew _⟩
  ·have hk3:(y.e k (d k)).k=3:=by simpa using t
   have HN:Hid (qB (y.Can d k)=decide (0<y.opn d q k)):=by
    show qB (y.Can d k)=decide (0<y.opn d q k)
    have e:(y.e k (d k)).q.toNat=q:=by omega
    by_cases h0:0<y.opn d q k
    ·rw [decide_eq_true h0]
     exact qB_true (HCan.out.2 ⟨hlt,fun _=>by rw [e];exact h0⟩)
    ·rw [decide_eq_false h0]
     refine qB_false fun h=>h0 ?_
     have:=(HCan.out.1 h).2 hk3
     rwa [e] at this
   rw [hk3] at e0
   clear op pt hq hqe HCan t hk3
   generalize (y.e k (d k)).v=vd at *
   generalize y.opn d q k=on at *
   go_enter Tryz.func201,Tryz.ntmps201
   go_wp2_with fail
   go_quiet (fail)
   go_wp2_with fail
   have BD:Hid (Below w.heap.size w (w.drewN nq)):=yE (Below.refl _ _) _
   replace n1:(w.drewN nq).heap.size≠X:=n1
   replace n2:(w.drewN nq).heap.size≠b:=n2
   replace n3:(w.drewN nq).heap.size≠bh:=n3
   replace c4:(w.drewN nq).cell? ⟨X,4,none⟩=_:=c4
   replace pk:(w.drewN nq).cell? ⟨X,5+k,none⟩=_:=pk
   replace ch:(w.drewN nq).cell? ⟨bh,oh+k,none⟩=_:=ch
   replace e0:(w.drewN nq).cell? ⟨b,off+d k*3,none⟩=_:=e0
   replace e1:(w.drewN nq).cell? ⟨b,off+d k*3+1,none⟩=_:=e1
   replace e2:(w.drewN nq).cell? ⟨b,off+d k*3+2,none⟩=_:=e2
   replace oq:(w.drewN nq).cell? ⟨X,9+q*4+k,none⟩=_:=oq
   generalize w.drewN nq=wd at *
   have c4':=cell_allocs c4
   have pk':=cell_allocs pk
   have ch':=cell_allocs ch
   have e0':=cell_allocs e0
   have e1':=cell_allocs e1
   have e2':=cell_allocs e2
   have oq':=cell_allocs oq
   go_region
   all_goals
    go_wp2_with fail
    go_quiet (fail)
    go_wp2
    go_ret
    rw [HN.out]
    exact ⟨rfl,yE (BD.out.trans ((zT _ _).mono BD.out.size)).drew _⟩
theorem HisP.put {w w':World} {X:Nat} {ha:Option Addr} {hc:Nat} {y:Hs} {d:Nat->Nat} {k:Nat} (h:HisP w X ha hc y d) (c4:w'.cell? ⟨X,4,none⟩=w.cell? ⟨X,4,none⟩) (pt:∀ i,i<4->w'.cell? ⟨X,5+i,none⟩=if i=k then some (.int .i64 (d k+1:Nat)) else w.cell? ⟨X,5+i,none⟩)
  (op:∀ a b,a<4->b<4->w'.cell? ⟨X,9+a*4+b,none⟩=some (.int .i64 (y.opn (up d k) a b))) (fr:∀ j,w'.frozen? ⟨X,j,none⟩=false):HisP w' X ha hc y (up d k):=by
 refine ⟨c4.trans h.c4,fun i hi=>?_,op,fr⟩
 rw [pt i hi]
 by_cases e:i=k
 ·subst e
  rw [if_pos rfl,up_same]
 ·rw [if_neg e,up_other e]
  exact h.pt i hi
theorem zQ (w:World) (o:Obj):Below w.heap.size w (w.alloc o):=(Below.refl _ _).alloc (Nat.le_refl _) _
def Src (w:World) (a0:Option Addr) (cs:List Value):Prop:=cs=[]\/∃ b off,a0=some ⟨b,off,none⟩/\b<w.heap.size/\∀ j u,cs[j]? = some u->w.cell? ⟨b,off+j,none⟩=some u
theorem Src.below {w w':World} {a0:Option Addr} {cs:List Value} (h:Src w a0 cs) (hb:Below w.heap.size w w'):Src w' a0 cs:=by
 rcases h with h | ⟨b,off,e,hlt,hc⟩
 ·exact .inl h
 ·exact .inr ⟨b,off,e,zL hlt hb.size,fun j u hj=>(hb.cell (p:=⟨b,off+j,none⟩) hlt).trans (hc j u hj)⟩
structure Kind (t e:TypeId) (size bytes:Nat):Prop where
 und:Tryz.prog.underlying t=some (.slice e)
 inf:∃ i z,Tryz.prog.info? e=some i/\i.zero=some z/\i.size=size/\i.bytes=bytes/\z.cells.size=size
 pos:0<size
 sml:bytes<=64
theorem run_append_src {t e:TypeId} {size bytes:Nat} (K:Kind t e size bytes) (w:World) (ty:TypeId) (B:Nat) (v:Value) (n:Nat) (xs:List Value) (hown:w.ownsRow B e size v n xs) (a0:Option Addr) (m c:Nat) (news:List Value) (hl:news.length=m*size) (hsrc:Src w a0 news) (h1:∀ u ∈ news,u.oneCell'=true) (hnm:n+m<=4000000) (hB:B<=w.heap.size):
  ∃ v' w',(Builtin.append_ #[t,t] ty #[v,.slice a0 m c]).run Tryz.prog w=.ok v' w'/\w'.ownsRow B e size v' (n+m) (xs ++ news)/\w.grownBy w' v.ownBlock/\(v'.ownBlock=v.ownBlock\/v'.ownBlock=some w.heap.size)/\(v≠.slice none 0 0\/0<m->v'≠.slice none 0 0):=by
 obtain ⟨i,z,hi,hz,hs,hb,hzs⟩:=K.inf
 have hby:(n+m)*bytes<=140737488355328:=zP (Nat.mul_le_mul hnm K.sml) (by omega)
 cases a0 with
 | none=>
  have hn0:news=[]:=by
   rcases hsrc with h | ⟨b,off,e,_⟩
   ·exact h
   ·cases e
  subst hn0
  have hm:m=0:=by
   have:=K.pos
   simp only [List.length_nil] at hl
   rcases Nat.eq_zero_or_pos m with h | h
   ·exact h
   ·have:=Nat.mul_pos h K.pos
    omega
  subst hm
  refine ⟨v,w,?_,by simpa using hown,World.grownBy.refl _ _,.inl rfl,fun h=>h.elim id fun h=>by omega⟩
  rcases hown.2 with ⟨rfl,_⟩ | ⟨g,cap,cur,rfl,_,_,hnc,_⟩
  ·simp [Builtin.append_,run_underlying K.und,sizeOf,typeInfo,hi,Builtin.lenOf,Builtin.firstCells]
  ·simp [Builtin.append_,run_underlying K.und,sizeOf,typeInfo,hi,Builtin.lenOf,Builtin.firstCells,hnc,storeCells]
 | some a=>
  have hnews:∀ j u,news[j]? = some u->w.cell? (a.add j)=some u:=by
   rcases hsrc with h0 | ⟨b,off,e,hlt,hc⟩
   ·subst h0
    intro j u hj
    simp at hj
   ·cases e
    intro j u hj
    have ha:Addr.add ⟨b,off,none⟩ j=⟨b,off+j,none⟩:=by unfold Addr.add;split <;> simp_all
    rw [ha]
    exact hc j u hj
  obtain ⟨v',w',r1,r2,r3,r4,r5⟩:=run_append_own_at (P:=Tryz.prog) w B t ty e i z size bytes K.und hi hz hs hb hzs K.pos v n xs hown a m c news hl hnews h1 (by unfold maxLen;omega) hby hB
  exact ⟨v',w',r1,r2,r3,r5,fun h e=>h.elim (fun h=>h (r4.1 e).1) fun h=>by have:=(r4.1 e).2;omega⟩
theorem step_append_src {ops:Array Oper} {rest:List Oper} {op:Oper} {act:Act} {Q:Exit->Act->World->Prop} {t e:TypeId} {size bytes:Nat} (K:Kind t e size bytes) (w:World) (hgd:op.guard=none) (s x:Operand)
  (ho:op.op=.call { callee:=.builtin .append,args:=#[s,x],argTypes:=#[t,t] })
  (B:Nat) (v:Value) (n:Nat) (xs:List Value) (hs:act.eval s=v) (hown:w.ownsRow B e size v n xs) (a0:Option Addr) (m c:Nat) (news:List Value) (hx:act.eval x=.slice a0 m c) (hl:news.length=m*size) (hsrc:Src w a0 news) (h1:∀ u ∈ news,u.oneCell'=true) (hnm:n+m<=4000000) (hB:B<=w.heap.size)
  (h:∀ v' w',w'.ownsRow B e size v' (n+m) (xs ++ news)->w.grownBy w' v.ownBlock->(v'.ownBlock=v.ownBlock\/v'.ownBlock=some w.heap.size)->(v≠.slice none 0 0\/0<m->v'≠.slice none 0 0)->wpList Tryz.prog ops Q rest (act.put op.dst v') w'):
  wpList Tryz.prog ops Q (op :: rest) act w:=by
 obtain ⟨v',w',r1,r2,r3,r4,r5⟩:=run_append_src K w op.type B v n xs hown a0 m c news hl hsrc h1 hnm hB
 refine wpList_plain hgd fun K hK=>?_
 unfold Oper.wp execOp
 simp only [ho,resolve,invoke,builtin,Sem.run_bind,Sem.run_pure,Result.andThen_ok,List.map_toArray,List.map_cons,List.map_nil,hs,hx,r1]
 exact hK _ _ (h v' w' r2 r3 r4 r5)
theorem step_append_srcN {ops:Array Oper} {rest:List Oper} {op:Oper} {act:Act} {Q:Exit->Act->World->Prop} {t e:TypeId} {size bytes:Nat} (K:Kind t e size bytes) (w:World) {N:Nat} (hN:N=w.heap.size) (hgd:op.guard=none) (s x:Operand)
  (ho:op.op=.call { callee:=.builtin .append,args:=#[s,x],argTypes:=#[t,t] })
  (a0:Option Addr) (m c:Nat) (news:List Value) (hs:act.eval s=.slice (some ⟨N,0,none⟩) 0 0) (hx:act.eval x=.slice a0 m c) (hl:news.length=m*size) (hsrc:Src w a0 news) (h1:∀ u ∈ news,u.oneCell'=true) (hnm:m<=4000000)
  (h:∀ v' w',w'.ownsRow w.heap.size e size v' m news->Below w.heap.size w w'->v'≠.slice none 0 0->wpList Tryz.prog ops Q rest (act.put op.dst v') w'):
  wpList Tryz.prog ops Q (op :: rest) act (w.alloc (.cells #[] e)):=by
 subst hN
 have hb:Below w.heap.size w (w.alloc (.cells #[] e)):=zQ _ _
 refine step_append_src K _ hgd s x ho w.heap.size (.slice (some ⟨w.heap.size,0,none⟩) 0 0) 0 [] hs (World.ownsRow_made (base:=w.heap.size) (e:=e) (size:=size) w #[] 0 (Nat.le_refl _) (by unfold maxLen;omega) (by simp)) a0 m c news hx hl (hsrc.below hb) h1 (by omega) (by simp) ?_
 intro v' w' o g _ hne
 rw [Nat.zero_add,List.nil_append] at o
 exact h v' w' o (hb.grown g (by simp) (fun k hk=>by cases hk;exact Nat.le_refl _)) (hne (.inl (by simp)))
theorem step_append_val {ops:Array Oper} {rest:List Oper} {op:Oper} {act:Act} {Q:Exit->Act->World->Prop} {t e:TypeId} {size bytes:Nat} (K:Kind t e size bytes) (w:World) {N:Nat} (hN:N=w.heap.size) (hgd:op.guard=none) (s x:Operand)
  (ho:op.op=.call { callee:=.builtin .append,args:=#[s,x],argTypes:=#[t,t] })
  (B:Nat) (v:Value) (n:Nat) (xs:List Value) (hs:act.eval s=v) (hown:w.ownsRow B e size v n xs) (cs:Array Value) (hx:act.eval x=.slice (some ⟨N,0,none⟩) 1 1) (hl:cs.size=size) (h1:∀ u ∈ cs.toList,u.oneCell'=true) (hn:n<=2000000) (hB:B<=w.heap.size)
  (h:∀ v' w',w'.ownsRow B e size v' (n+1) (xs ++ cs.toList)->w.grownBy w' v.ownBlock->(∀ j,v'.ownBlock=some j->v.ownBlock=some j\/w.heap.size<=j)->v'≠.slice none 0 0->wpList Tryz.prog ops Q rest (act.put op.dst v') w'):
  wpList Tryz.prog ops Q (op :: rest) act (w.alloc (.cells cs e)):=by
 subst hN
 have hb:Below w.heap.size w (w.alloc (.cells cs e)):=zQ _ _
 refine step_append_src K _ hgd s x ho B v n xs hs (hown.alloc _) (some ⟨w.heap.size,0,none⟩) 1 1 cs.toList hx (by simp [hl]) (.inr ⟨w.heap.size,0,rfl,by simp,fun j u hj=>?_⟩) h1 (by omega) (by simp;omega) ?_
 ·rw [Nat.zero_add,zW _ _ _ j rfl]
  simpa using hj
 ·intro v' w' o g hbk hne
  refine h v' w' o ⟨g.os,g.tape,g.output,zP hb.size g.size,fun j hj hne=>(g.block j (zL hj hb.size) hne).trans (hb.block j hj)⟩ (fun j hj=>?_) (hne (.inr (by omega)))
  rcases hbk with a | a
  ·exact .inl (a.symm.trans hj)
  ·rw [hj] at a
   simp only [Option.some.injEq] at a
   right
   rw [a]
   simp
def Nz (z:Bool) (e:TypeId):Prop:=z=true\/e=99
theorem nzI {z:Bool}:Nz z 99:=.inr rfl
theorem nzT (e:TypeId):Nz true e:=.inl rfl
structure LL (z:Bool) (e:TypeId) (sz:Nat) (E:TypeId) (w:World) (P:Nat->Prop) (v:Value) (n:Nat) (u:Nat->Value) (L:Nat->Nat) (c:Nat->List Value):Prop where
 row:w.ownsRow 0 E 1 v n ((List.range n).map u)
 own:∀ i,i<n->w.ownsRow 0 e sz (u i) (L i) (c i)
 rb:∀ k,v.ownBlock=some k->P k
 ob:∀ i,i<n->∀ k,(u i).ownBlock=some k->P k
 ra:∀ i,i<n->∀ k,(u i).ownBlock=some k->v.ownBlock≠some k
 oa:∀ i j,i<n->j<n->i≠j->∀ k,(u i).ownBlock=some k->(u j).ownBlock≠some k
 nn:Nz z e->∀ i,i<n->u i≠.slice none 0 0
theorem ownsRow_blkL {w w':World} {B size n:Nat} {e:TypeId} {v:Value} {xs:List Value} (h:w.ownsRow B e size v n xs) (hb:∀ k,v.ownBlock=some k->w'.heap[k]? = w.heap[k]?):w'.ownsRow B e size v n xs:=by
 refine ⟨h.1,?_⟩
 rcases h.2 with hn | ⟨g,cap,cur,rfl,hB,hg,hr⟩
 ·exact .inl hn
 ·exact .inr ⟨g,cap,cur,rfl,hB,(hb g rfl).trans hg,hr⟩
theorem ownsRow_base0 {w:World} {B size n:Nat} {e:TypeId} {v:Value} {xs:List Value} (h:w.ownsRow B e size v n xs):w.ownsRow 0 e size v n xs:=h.mono (Nat.zero_le _)
section
variable {z:Bool} {e:TypeId} {sz:Nat} {E:TypeId} {w:World} {P:Nat->Prop} {v:Value} {n:Nat} {u:Nat->Value} {L:Nat->Nat} {c:Nat->List Value}
theorem LL.keep (o:LL z e sz E w P v n u L c) {w':World} (hb:∀ k,P k->k<w.heap.size->w'.heap[k]? = w.heap[k]?):LL z e sz E w' P v n u L c:=
 ⟨ownsRow_blkL o.row fun k hk=>hb k (o.rb k hk) (o.row.lt k hk).2,fun i hi=>ownsRow_blkL (o.own i hi) fun k hk=>hb k (o.ob i hi k hk) ((o.own i hi).lt k hk).2,o.rb,o.ob,o.ra,o.oa,o.nn⟩
theorem LL.below (o:LL z e sz E w P v n u L c) {w':World} (hb:Below w.heap.size w w'):LL z e sz E w' P v n u L c:=o.keep fun k _ hk=>hb.block k hk
theorem LL.mono (o:LL z e sz E w P v n u L c) {P':Nat->Prop} (h:∀ k,P k->k<w.heap.size->P' k):LL z e sz E w P' v n u L c:=
 ⟨o.row,o.own,fun k hk=>h k (o.rb k hk) (o.row.lt k hk).2,fun i hi k hk=>h k (o.ob i hi k hk) ((o.own i hi).lt k hk).2,o.ra,o.oa,o.nn⟩
theorem LL.pushG (o:LL z e sz E w P v n u L c) {w1 w2:World} {u' v':Value} (hsz:w.heap.size<=w1.heap.size) (hb:∀ k,P k->k<w.heap.size->w1.heap[k]? = w.heap[k]?) (hu:w1.ownsRow w.heap.size e sz u' (L n) (c n)) (hne:Nz z e->u'≠.slice none 0 0) (hv:w2.ownsRow 0 E 1 v' (n+1) ((List.range n).map u ++ [u'])) (g:w1.grownBy w2 v.ownBlock)
  (hv':∀ j,v'.ownBlock=some j->v.ownBlock=some j\/w1.heap.size<=j) {P':Nat->Prop} (hP:∀ k,P k->k<w.heap.size->P' k) (hP':∀ k,w.heap.size<=k->k<w2.heap.size->P' k):LL z e sz E w2 P' v' (n+1) (fun j=>if j=n then u' else u j) L c:=by
 have hvlt:∀ k,v.ownBlock=some k->k<w.heap.size:=fun k hk=>(o.row.lt k hk).2
 have hu2 : w2.ownsRow w.heap.size e sz u' (L n) (c n) := hu.kept g (by
  cases hk:u'.ownBlock with
  | none=>exact .inl rfl
  | some k=>
   refine .inr fun e=>?_
   have q1:=(hu.lt k hk).1
   have q2:=hvlt k e.symm
   omega)
 have ho2:∀ i,i<n->w2.ownsRow 0 e sz (u i) (L i) (c i):=fun i hi=>ownsRow_blkL (o.own i hi) fun k hk=>(g.block k (zL ((o.own i hi).lt k hk).2 hsz) fun e=>o.ra i hi k hk e.symm).trans (hb k (o.ob i hi k hk) ((o.own i hi).lt k hk).2)
 have lts:∀ i,i<n->∀ k,(u i).ownBlock=some k->k<w.heap.size:=fun i hi k hk=>((o.own i hi).lt k hk).2
 refine ⟨?_,fun i hi=>?_,fun k hk=>?_,fun i hi k hk=>?_,fun i hi k hk=>?_,fun i j hi hj hij k hk=>?_,fun hz i hi=>?_⟩
 ·have e:(List.range (n+1)).map (fun j=>if j=n then u' else u j)=(List.range n).map u ++ [u']:=by
   rw [List.range_succ,List.map_append]
   simp only [List.map_cons,List.map_nil,if_true]
   congr 1
   exact List.map_congr_left fun j hj=>by
    rw [if_neg]
    have:=List.mem_range.1 hj
    omega
  rw [e]
  exact hv
 ·by_cases ei:i=n
  ·subst ei
   rw [if_pos rfl]
   exact ownsRow_base0 hu2
  ·rw [if_neg ei]
   exact ho2 i (by omega)
 ·rcases hv' k hk with h | h
  ·exact hP k (o.rb k h) (hvlt k h)
  ·exact hP' k (zP hsz h) (hv.lt k hk).2
 ·by_cases ei:i=n
  ·simp only [if_pos ei] at hk
   exact hP' k (hu.lt k hk).1 (hu2.lt k hk).2
  ·simp only [if_neg ei] at hk
   exact hP k (o.ob i (by omega) k hk) (lts i (by omega) k hk)
 ·intro hvk
  by_cases ei:i=n
  ·simp only [if_pos ei] at hk
   rcases hv' k hvk with h | h
   ·have:=hvlt k h
    have:=(hu.lt k hk).1
    omega
   ·have:=(hu.lt k hk).2
    omega
  ·simp only [if_neg ei] at hk
   rcases hv' k hvk with h | h
   ·exact o.ra i (by omega) k hk h
   ·have:=lts i (by omega) k hk
    omega
 ·intro hjk
  by_cases ei:i=n
  ·have ej:j≠n:=fun e=>hij (by omega)
   simp only [if_pos ei] at hk
   simp only [if_neg ej] at hjk
   have:=lts j (by omega) k hjk
   have:=(hu.lt k hk).1
   omega
  ·simp only [if_neg ei] at hk
   by_cases ej:j=n
   ·simp only [if_pos ej] at hjk
    have:=lts i (by omega) k hk
    have:=(hu.lt k hjk).1
    omega
   ·simp only [if_neg ej] at hjk
    exact o.oa i j (by omega) (by omega) hij k hk hjk
 ·by_cases ei:i=n
  ·rw [if_pos ei]
   exact hne hz
  ·rw [if_neg ei]
   exact o.nn hz i (by omega)
theorem LL.push (o:LL z e sz E w P v n u L c) {w1 w2:World} {u' v':Value} (b1:Below w.heap.size w w1) (hu:w1.ownsRow w.heap.size e sz u' (L n) (c n)) (hne:Nz z e->u'≠.slice none 0 0) (hv:w2.ownsRow 0 E 1 v' (n+1) ((List.range n).map u ++ [u'])) (g:w1.grownBy w2 v.ownBlock)
  (hv':∀ j,v'.ownBlock=some j->v.ownBlock=some j\/w1.heap.size<=j) {P':Nat->Prop} (hP:∀ k,P k->k<w.heap.size->P' k) (hP':∀ k,w.heap.size<=k->k<w2.heap.size->P' k):LL z e sz E w2 P' v' (n+1) (fun j=>if j=n then u' else u j) L c:=
 o.pushG b1.size (fun k _ hk=>b1.block k hk) hu hne hv g hv' hP hP'
theorem LL.nil (e:TypeId) (sz:Nat) (E:TypeId) (w:World) (P:Nat->Prop) (u:Nat->Value) (L:Nat->Nat) (c:Nat->List Value):LL z e sz E w P (.slice none 0 0) 0 u L c:=
 ⟨World.ownsRow_nil _ _ _ _,fun i hi=>(by omega),fun k hk=>(by cases hk),fun i hi=>(by omega),fun i hi=>(by omega),fun i j hi=>(by omega),fun _ i hi=>by omega⟩
theorem LL.new (e:TypeId) (sz:Nat) (E:TypeId) (w:World) (P:Nat->Prop) (hP:P w.heap.size) (u:Nat->Value) (L:Nat->Nat) (c:Nat->List Value):LL z e sz E (w.alloc (.cells #[] E)) P (.slice (some ⟨w.heap.size,0,none⟩) 0 0) 0 u L c:=
 ⟨World.ownsRow_made (base:=0) (e:=E) (size:=1) w #[] 0 (Nat.zero_le _) (by unfold maxLen;omega) rfl,fun i hi=>(by omega),fun k hk=>(by cases hk;exact hP),fun i hi=>(by omega),fun i hi=>(by omega),fun i j hi=>(by omega),fun _ i hi=>by omega⟩
theorem LL.cell (o:LL z e sz E w P v n u L c) {i:Nat} (hi:i<n):∃ g cap,v=.slice (some ⟨g,0,none⟩) n cap/\P g/\g<w.heap.size/\w.cell? ⟨g,i,none⟩=some (u i)/\∀ j,w.frozen? ⟨g,j,none⟩=false:=by
 rcases o.row.2 with ⟨_,h0⟩ | ⟨g,cap,cur,rfl,hb,hg,hr⟩
 ·omega
 ·refine ⟨g,cap,rfl,o.rb g rfl,(o.row.lt g rfl).2,?_,fun j=>o.row.frozenAt j⟩
  rw [o.row.cellAt i (by omega)]
  simp [hi]
theorem LL.put {g cap:Nat} (o:LL z e sz E w P (.slice (some ⟨g,0,none⟩) n cap) n u L c) {i:Nat} (hi:i<n) {w1:World} {u':Value} {m:Nat} {c':List Value} (_hs:w.heap.size<=w1.heap.size) (g1:∀ k,k<w.heap.size->(u i).ownBlock≠some k->w1.heap[k]? = w.heap[k]?)
  (hu:w1.ownsRow 0 e sz u' m c') (hne:Nz z e->u'≠.slice none 0 0) (hb:∀ k,u'.ownBlock=some k->(u i).ownBlock=some k\/w.heap.size<=k) {P':Nat->Prop} (hP:∀ k,P k->k<w.heap.size->P' k) (hP':∀ k,w.heap.size<=k->k<w1.heap.size->P' k):
  LL z e sz E (w1.setCell ⟨g,i,none⟩ u') P' (.slice (some ⟨g,0,none⟩) n cap) n (fun j=>if j=i then u' else u j) (fun j=>if j=i then m else L j) (fun j=>if j=i then c' else c j):=by
 have hg:g<w.heap.size:=(o.row.lt g rfl).2
 have hgi:(u i).ownBlock≠some g:=fun e=>o.ra i hi g e rfl
 have row1:w1.ownsRow 0 E 1 (.slice (some ⟨g,0,none⟩) n cap) n ((List.range n).map u):=ownsRow_blkL o.row fun k hk=>by
  cases hk
  exact g1 g hg hgi
 have hu'g:u'.ownBlock≠some g:=fun e=>by
  rcases hb g e with h | h
  ·exact hgi h
  ·omega
 have lts:∀ j,j<n->∀ k,(u j).ownBlock=some k->k<w.heap.size:=fun j hj k hk=>((o.own j hj).lt k hk).2
 refine ⟨?_,fun j hj=>?_,fun k hk=>?_,fun j hj k hk=>?_,fun j hj k hk=>?_,fun a b ha hb' hab k hk=>?_,fun hz j hj=>?_⟩
 ·have h:=(World.ownsRow.stored row1 i u').1
  have e:(List.range n).map (fun j=>if j=i then u' else u j)=((List.range n).map u).set i u':=by
   apply List.ext_getElem (by simp)
   intro j h1 h2
   simp only [List.getElem_map,List.getElem_range,List.getElem_set]
   by_cases q:j=i
   ·rw [if_pos q,if_pos q.symm]
   ·rw [if_neg q,if_neg fun e=>q e.symm]
  rw [e]
  exact h
 ·by_cases ej:j=i
  ·subst ej
   simp only [if_true]
   exact ownsRow_setCell_other hu hu'g _
  ·simp only [if_neg ej]
   refine ownsRow_setCell_other (ownsRow_blkL (o.own j hj) fun k hk=>g1 k (lts j hj k hk) fun e=>o.oa j i hj hi ej k hk e) (fun e=>o.ra j hj g e rfl) _
 ·cases hk
  exact hP g (o.rb g rfl) hg
 ·by_cases ej:j=i
  ·simp only [if_pos ej] at hk
   rcases hb k hk with h | h
   ·exact hP k (o.ob i hi k h) (lts i hi k h)
   ·exact hP' k h (hu.lt k hk).2
  ·simp only [if_neg ej] at hk
   exact hP k (o.ob j hj k hk) (lts j hj k hk)
 ·intro hvk
  cases hvk
  by_cases ej:j=i
  ·simp only [if_pos ej] at hk
   exact hu'g hk
  ·simp only [if_neg ej] at hk
   exact o.ra j hj g hk rfl
 ·intro hbk
  by_cases ea:a=i
  ·have eb:b≠i:=fun e=>hab (by omega)
   simp only [if_pos ea] at hk
   simp only [if_neg eb] at hbk
   rcases hb k hk with h | h
   ·exact o.oa b i hb' hi eb k hbk h
   ·have:=lts b hb' k hbk
    omega
  ·simp only [if_neg ea] at hk
   by_cases eb:b=i
   ·simp only [if_pos eb] at hbk
    rcases hb k hbk with h | h
    ·exact o.oa a i ha hi ea k hk h
    ·have:=lts a ha k hk
     omega
   ·simp only [if_neg eb] at hbk
    exact o.oa a b ha hb' hab k hk hbk
 ·by_cases ej:j=i
  ·simp only [if_pos ej]
   exact hne hz
  ·simp only [if_neg ej]
   exact o.nn hz j hj
end
open Go
section
variable {P:Program} {ops:Array Oper} {Q:Exit->Act->World->Prop} {md:Region.Mode} {S:World->Prop} {G:Nat->Bool}
def wpG (P:Program) (md:Region.Mode) (ops:Array Oper) (Q:Exit->Act->World->Prop) (S:World->Prop) (G:Nat->Bool):Nat->Array Bool->Act->World->Prop
 | 0,listed,a,w=>Region.ready md ops listed=[]/\Q .normal a w
 | fuel+1,listed,a,w=>(Region.ready md ops listed=[]->Q .normal a w)/\∀ i ∈ Region.ready md ops listed,wpOp P ops Q i (fun a' w'=>(S w->G i=false->S w')/\wpG P md ops Q S G fuel (listed.setIfInBounds i true) a' w') a w
theorem wpAny_of_G:∀ (fuel:Nat) (listed:Array Bool) (a:Act) (w:World),wpG P md ops Q S G fuel listed a w->wpAny P md ops Q fuel listed a w
 | 0,_,_,_,h=>h
 | fuel+1,_,_,_,h=>⟨h.1,fun i hi=>wpOp_mono (fun a' w' h'=>wpAny_of_G fuel _ a' w' h'.2) (h.2 i hi)⟩
def waitG (md:Region.Mode) (ops:Array Oper) (G:Nat->Bool) (listed:Array Bool) (i:Nat):Bool:=
 (List.range ops.size).all fun j=>!G j || listed.getD j true || match ops[j]? with
  | some oj=>oj.after.any fun e=>Region.binds md e && e.on == i
  | none=>true
theorem waitG_spec {listed:Array Bool} {i:Nat} (h:waitG md ops G listed i=true) {j:Nat} {oj:Oper} (hj:ops[j]? = some oj) (hg:G j=true) (hu:listed.getD j true=false):∃ e ∈ oj.after,Region.binds md e=true/\e.on=i:=by
 simp only [waitG,List.all_eq_true,List.mem_range] at h
 have h1:=h j (Array.getElem?_eq_some_iff.1 hj).1
 simp only [hj,hg,hu,Bool.not_true,Bool.false_or] at h1
 obtain ⟨e,he,hb⟩:=Array.any_eq_true'.1 h1
 simp only [Bool.and_eq_true,beq_iff_eq] at hb
 exact ⟨e,he,hb.1,hb.2⟩
theorem wpG_first {i:Nat} {oi:Oper} {v:Value} (hi:ops[i]? = some oi) (hsel:∀ (j:Nat) (o:Oper) cs b,ops[j]? = some o->o.op≠.select cs b)
  (hQ:∀ c a w,Q (.panic c) (a.put oi.dst v) w->Q (.panic c) a w):
  ∀ (fuel:Nat) (listed:Array Bool) (a:Act) (w:World),
   (∀ j oj,ops[j]? = some oj->j≠i->listed.getD j true=false->(∀ e ∈ oj.after,Region.binds md e=true->e.on≠i)->oi.apart ops oj=true)->
   (∀ j oj,ops[j]? = some oj->G j=true->listed.getD j true=false->∃ e ∈ oj.after,Region.binds md e=true/\e.on=i)->
   i ∈ Region.ready md ops listed->YieldsIf P ops S oi v a->S w->
   wpG P md ops Q S G fuel (listed.setIfInBounds i true) (a.put oi.dst v) w->wpG P md ops Q S G (fuel+1) listed a w:=by
 intro fuel
 induction fuel with
 | zero=>
  intro listed a w _ _ hr hy hS H
  refine ⟨fun h=>(by rw [h] at hr;cases hr),fun j hj=>?_⟩
  by_cases hji:j=i
  ·subst hji
   exact hy.wpOp hi hS ⟨fun _ _=>hS,H⟩
  ·have:=ready_mono hj hji
   rw [H.1] at this
   cases this
 | succ fuel ih=>
  intro listed a w hfree hG hr hy hS H
  refine ⟨fun h=>(by rw [h] at hr;cases hr),fun j hj=>?_⟩
  by_cases hji:j=i
  ·subst hji
   exact hy.wpOp hi hS ⟨fun _ _=>hS,H⟩
  ·obtain ⟨hjun,oj,hoj,hall⟩:=mem_ready.1 hj
   have hiun:=(mem_ready.1 hr).1
   have hnot:∀ e ∈ oj.after,Region.binds md e=true->e.on≠i:=fun e he hb heq=>by
    have h1:=hall e he hb
    rw [heq] at h1
    rcases Nat.lt_or_ge i listed.size with h' | h'
    ·simp [h'] at hiun h1
     rw [hiun] at h1
     cases h1
    ·simp [Array.getElem?_eq_none h'] at h1
   have hGj:G j=false:=by
    cases hg:G j with
    | false=>rfl
    | true=>
     obtain ⟨e,he,hb,heq⟩:=hG j oj hoj hg hjun
     exact absurd heq (hnot e he hb)
   have h2:=wpOp_putIf hoj (hfree j oj hoj hji hjun hnot) (fun cs b=>hsel i oi cs b hi) (fun cs b=>hsel j oj cs b hoj) hQ hy (H.2 j (ready_mono hj hji))
   have hun':∀ k,(listed.setIfInBounds j true).getD k true=false->listed.getD k true=false:=fun k hk=>by
    by_cases hjk:j=k
    ·subst hjk
     exact hjun
    ·rw [_root_.Go.getD_set_ne true hjk] at hk
     exact hk
   refine wpOp_mono (fun a' w' h3=>⟨h3.2.1,ih (listed.setIfInBounds j true) a' w' (fun k ok hk hki hun hno=>hfree k ok hk hki (hun' k hun) hno) (fun k ok hk hg hun=>hG k ok hk hg (hun' k hun)) (ready_mono hr (Ne.symm hji)) h3.1 (h3.2.1 hS hGj) ?_⟩) h2
   rw [Array.setIfInBounds_comm _ _ hji]
   exact h3.2.2
theorem wpG_firstW {i:Nat} {oi:Oper} {v:Value} (hi:ops[i]? = some oi) (hsel:∀ (j:Nat) (o:Oper) cs b,ops[j]? = some o->o.op≠.select cs b)
  (hQ:∀ c a w,Q (.panic c) (a.put oi.dst v) w->Q (.panic c) a w):
  ∀ (fuel:Nat) (listed:Array Bool) (a:Act) (w:World),
   (∀ j oj,ops[j]? = some oj->j≠i->listed.getD j true=false->(∀ e ∈ oj.after,Region.binds md e=true->e.on≠i)->oi.apart ops oj=true)->
   i ∈ Region.ready md ops listed->YieldsIf P ops (fun _=>True) oi v a->
   wpG P md ops Q S G fuel (listed.setIfInBounds i true) (a.put oi.dst v) w->wpG P md ops Q S G (fuel+1) listed a w:=by
 intro fuel
 induction fuel with
 | zero=>
  intro listed a w _ hr hy H
  refine ⟨fun h=>(by rw [h] at hr;cases hr),fun j hj=>?_⟩
  by_cases hji:j=i
  ·subst hji
   exact hy.wpOp hi trivial ⟨fun h _=>h,H⟩
  ·have:=ready_mono hj hji
   rw [H.1] at this
   cases this
 | succ fuel ih=>
  intro listed a w hfree hr hy H
  refine ⟨fun h=>(by rw [h] at hr;cases hr),fun j hj=>?_⟩
  by_cases hji:j=i
  ·subst hji
   exact hy.wpOp hi trivial ⟨fun h _=>h,H⟩
  ·obtain ⟨hjun,oj,hoj,hall⟩:=mem_ready.1 hj
   have hiun:=(mem_ready.1 hr).1
   have hnot:∀ e ∈ oj.after,Region.binds md e=true->e.on≠i:=fun e he hb heq=>by
    have h1:=hall e he hb
    rw [heq] at h1
    rcases Nat.lt_or_ge i listed.size with h' | h'
    ·simp [h'] at hiun h1
     rw [hiun] at h1
     cases h1
    ·simp [Array.getElem?_eq_none h'] at h1
   have h2:=wpOp_putIf hoj (hfree j oj hoj hji hjun hnot) (fun cs b=>hsel i oi cs b hi) (fun cs b=>hsel j oj cs b hoj) hQ hy (H.2 j (ready_mono hj hji))
   have hun':∀ k,(listed.setIfInBounds j true).getD k true=false->listed.getD k true=false:=fun k hk=>by
    by_cases hjk:j=k
    ·subst hjk
     exact hjun
    ·rw [_root_.Go.getD_set_ne true hjk] at hk
     exact hk
   refine wpOp_mono (fun a' w' h3=>⟨h3.2.1,ih (listed.setIfInBounds j true) a' w' (fun k ok hk hki hun hno=>hfree k ok hk hki (hun' k hun) hno) (ready_mono hr (Ne.symm hji)) h3.1 ?_⟩) h2
   rw [Array.setIfInBounds_comm _ _ hji]
   exact h3.2.2
theorem wpG_takeW (i:Nat) {oi:Oper} {fuel:Nat} {listed:Array Bool} {a:Act} {w:World} (hi0:ops.toList[i]? = some oi) (hs:Region.noSelect ops=true) (hf:Region.free md ops listed i=true) (hr:(Region.ready md ops listed).contains i=true)
  (hQ:∀ v c a w,Q (.panic c) (a.put oi.dst v) w->Q (.panic c) a w) (hw:Region.wanted oi (yielded ops a.tmps)=true)
  (h:∃ v,(∀ w,(execOp a.eval oi).run P w=.ok (.value v) w)/\wpG P md ops Q S G fuel (listed.setIfInBounds i true) (a.put oi.dst v) w):wpG P md ops Q S G (fuel+1) listed a w:=by
 obtain ⟨v,hv,h⟩:=h
 have hi:ops[i]? = some oi:=by rw [<- Array.getElem?_toList];exact hi0
 exact wpG_firstW hi (Region.noSelect_spec hs) (hQ v) fuel listed a w (Region.free_spec hi hf) (by simpa using hr) (.inl ⟨hw,fun w _=>hv w⟩) h
theorem wpG_take (i:Nat) {oi:Oper} {fuel:Nat} {listed:Array Bool} {a:Act} {w:World} (hi0:ops.toList[i]? = some oi) (hS:S w)
  (h:∃ v,(∀ w,S w->(execOp a.eval oi).run P w=.ok (.value v) w)/\wpG P md ops Q S G fuel (listed.setIfInBounds i true) (a.put oi.dst v) w) (hs:Region.noSelect ops=true:=by kernel_rfl) (hf:Region.free md ops listed i=true:=by kernel_rfl) (hr:(Region.ready md ops listed).contains i=true:=by kernel_rfl) (hg:waitG md ops G listed i=true:=by kernel_rfl)
  (hQ:∀ v c a w,Q (.panic c) (a.put oi.dst v) w->Q (.panic c) a w:=by exact fun _ _ _ _ h=>h) (hw:Region.wanted oi (yielded ops a.tmps)=true:=by rfl):wpG P md ops Q S G (fuel+1) listed a w:=by
 obtain ⟨v,hv,h⟩:=h
 have hi:ops[i]? = some oi:=by rw [<- Array.getElem?_toList];exact hi0
 exact wpG_first hi (Region.noSelect_spec hs) (hQ v) fuel listed a w (Region.free_spec hi hf) (fun j oj hj hgj hu=>waitG_spec hg hj hgj hu) (by simpa using hr) (.inl ⟨hw,hv⟩) hS h
theorem wpG_skip (i:Nat) {oi:Oper} {fuel:Nat} {listed:Array Bool} {a:Act} {w:World} (hi0:ops.toList[i]? = some oi)
  (h:wpG P md ops Q S G fuel (listed.setIfInBounds i true) (a.put oi.dst undef) w) (hs:Region.noSelect ops=true:=by kernel_rfl) (hf:Region.free md ops listed i=true:=by kernel_rfl) (hr:(Region.ready md ops listed).contains i=true:=by kernel_rfl)
  (hQ:∀ v c a w,Q (.panic c) (a.put oi.dst v) w->Q (.panic c) a w:=by exact fun _ _ _ _ h=>h) (hw:Region.wanted oi (yielded ops a.tmps)=false:=by rfl):wpG P md ops Q S G (fuel+1) listed a w:=by
 have hi:ops[i]? = some oi:=by rw [<- Array.getElem?_toList];exact hi0
 exact wpG_firstW hi (Region.noSelect_spec hs) (hQ undef) fuel listed a w (Region.free_spec hi hf) (by simpa using hr) (.inr ⟨hw,rfl⟩) h
def wpGT (P:Program) (md:Region.Mode) (ops:Array Oper) (Q:Exit->Act->World->Prop) (S:World->Prop) (G:Nat->Bool) (_:List Nat) (fuel:Nat) (listed:Array Bool) (a:Act) (w:World):Prop:=wpG P md ops Q S G fuel listed a w
theorem wpGT_of (is:List Nat) {fuel:Nat} {listed:Array Bool} {a:Act} {w:World} (h:wpGT P md ops Q S G is fuel listed a w):wpG P md ops Q S G fuel listed a w:=h
theorem wpGT_nil {fuel:Nat} {listed:Array Bool} {a:Act} {w:World} (h:wpG P md ops Q S G fuel listed a w):wpGT P md ops Q S G [] fuel listed a w:=h
theorem wpGT_take {i:Nat} {is:List Nat} {oi:Oper} {fuel:Nat} {listed:Array Bool} {a:Act} {w:World} (hi0:ops.toList[i]? = some oi) (hS:S w)
  (h:∃ v,(∀ w,S w->(execOp a.eval oi).run P w=.ok (.value v) w)/\wpGT P md ops Q S G is fuel (listed.setIfInBounds i true) (a.put oi.dst v) w) (hs:Region.noSelect ops=true:=by kernel_rfl) (hf:Region.free md ops listed i=true:=by kernel_rfl) (hr:(Region.ready md ops listed).contains i=true:=by kernel_rfl) (hg:waitG md ops G listed i=true:=by kernel_rfl)
  (hQ:∀ v c a w,Q (.panic c) (a.put oi.dst v) w->Q (.panic c) a w:=by exact fun _ _ _ _ h=>h) (hw:Region.wanted oi (yielded ops a.tmps)=true:=by rfl):wpGT P md ops Q S G (i :: is) (fuel+1) listed a w:=wpG_take i hi0 hS h hs hf hr hg hQ hw
theorem wpG_one (i:Nat) {oi:Oper} {fuel:Nat} {listed:Array Bool} {a:Act} {w:World} (hi0:ops.toList[i]? = some oi) (hr:Region.ready md ops listed=[i])
  (h:∀ K':Act->World->Prop,Shut (∀ a w,(G i=false->S w)->wpG P md ops Q S G fuel (listed.setIfInBounds i true) a w->K' a w)->if Region.wanted oi (yielded ops a.tmps)=true then Oper.wp P oi a w K' Q else K' (a.put oi.dst undef) w):wpG P md ops Q S G (fuel+1) listed a w:=
 ⟨fun h0 => (by rw [hr] at h0; cases h0), fun j hj => by
  rw [hr] at hj
  obtain rfl:=List.mem_singleton.1 hj
  have hi:ops[j]? = some oi:=by rw [<- Array.getElem?_toList];exact hi0
  exact wpOp_step hi fun K' hK=>h K' fun a w h1 h2=>hK a w ⟨fun _=>h1,h2⟩⟩
theorem wpG_two (i j:Nat) {oi oj:Oper} {fuel:Nat} {listed:Array Bool} {a:Act} {w:World} (hi0:ops.toList[i]? = some oi) (hj0:ops.toList[j]? = some oj) (hr:Region.ready md ops listed=[i,j])
  (h:∀ K':Act->World->Prop,Shut (∀ a w,(G i=false->S w)->wpG P md ops Q S G fuel (listed.setIfInBounds i true) a w->K' a w)->if Region.wanted oi (yielded ops a.tmps)=true then Oper.wp P oi a w K' Q else K' (a.put oi.dst undef) w)
  (h':∀ K':Act->World->Prop,Shut (∀ a w,(G j=false->S w)->wpG P md ops Q S G fuel (listed.setIfInBounds j true) a w->K' a w)->if Region.wanted oj (yielded ops a.tmps)=true then Oper.wp P oj a w K' Q else K' (a.put oj.dst undef) w):wpG P md ops Q S G (fuel+1) listed a w:=
 ⟨fun h0 => (by rw [hr] at h0; cases h0), fun k hk => by
  rw [hr] at hk
  have hi:ops[i]? = some oi:=by rw [<- Array.getElem?_toList];exact hi0
  have hj:ops[j]? = some oj:=by rw [<- Array.getElem?_toList];exact hj0
  rcases List.mem_cons.1 hk with rfl | hk
  ·exact wpOp_step hi fun K' hK=>h K' fun a w h1 h2=>hK a w ⟨fun _=>h1,h2⟩
  ·obtain rfl:=List.mem_singleton.1 hk
   exact wpOp_step hj fun K' hK=>h' K' fun a w h1 h2=>hK a w ⟨fun _=>h1,h2⟩⟩
theorem wpG_done {listed:Array Bool} {a:Act} {w:World} (hr:Region.ready md ops listed=[]) (h:Q .normal a w):∀ fuel,wpG P md ops Q S G fuel listed a w
 | 0=>⟨hr,h⟩
 | _+1=>⟨fun _=>h,by rw [hr];simp⟩
theorem wp_region_G {id:Nat} {a:Act} {w:World} (S:World->Prop) (G:Nat->Bool) (hm:P.follows .mixedOrders=true) (h:wpG P .any ops Q S G ops.size (Array.replicate ops.size false) a w.drew):(Code.region id ops true).wp P Q a w:=
 wp_region_any hm (wpAny_of_G _ _ _ _ h)
end
theorem stepR_callD {ops:Array Oper} {o:Oper} {a:Act} {w:World} {K:Act->World->Prop} {Q:Exit->Act->World->Prop} {E:Prop} (hw:Region.wanted o (yielded ops a.tmps)=true) (f:FuncId) (args:Array Operand) (ts:Array TypeId)
  (ho:o.op=.call { callee:=.value (.func f),args:=args,argTypes:=ts }) (vals:Array Value) (hv:args.map a.eval=vals) (hen:∀ vs wx,(callFunc f vs).run Tryz.prog wx=.ok (.enter f vs) wx) {post:Ending->World->Prop} (hc:Calls Tryz.prog f vals w post)
  (h:∀ e w',post e w'->∃ v,e=.returned v/\K (a.put o.dst v) w'):
  if Region.wanted o (yielded ops a.tmps)=true then Oper.wp Tryz.prog o a w K Q else E:=by
 rw [if_pos hw]
 have hr:(execOp a.eval o).run Tryz.prog w=.ok (.enter f vals) w:=by
  unfold execOp
  simp [ho,resolve,invoke,hv,hen,Act.eval,Deferred.ofValue]
 unfold Oper.wp
 rw [hr,Oper.upon_enter]
 refine hc.mono fun e w' hp=>?_
 obtain ⟨v,rfl,hk⟩:=h e w' hp
 exact hk
