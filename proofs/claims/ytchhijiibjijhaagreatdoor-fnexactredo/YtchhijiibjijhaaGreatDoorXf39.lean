import Derived.Test.YtchhijiibjijhaaGreatDoorXf35
import Derived.Maps.OwnSet
import Derived.DeepKeys4
import Derived.Carry
namespace Go.Proofs.YtchhijiibjijhaaGreatDoor
set_option maxRecDepth 100000
set_option maxHeartbeats 2000000
open Go.ChangeShapes Go.WideShapes Go.ChangeAt Go.RowKit Go.Deep
structure Wo2 where
 m:Int
 v:Int
abbrev woV (m v:Int):Value:=.agg #[.int .i64 m,.int .i64 v]
def WoAt (w:World) (b off len:Nat) (h:Nat->Wo2):Prop:=∀ i,i<len->
 w.cell? ⟨b,off+i*2,none⟩=some (.int .i64 (h i).m)/\w.cell? ⟨b,off+i*2+1,none⟩=some (.int .i64 (h i).v)
theorem WoAt.below {w w':World} {B b off len:Nat} {h:Nat->Wo2} (hh:WoAt w b off len h) (hb:Below B w w') (hB:b<B):WoAt w' b off len h:=by
 intro i hi
 obtain ⟨h0,h1⟩:=hh i hi
 exact ⟨(hb.cell hB).trans h0,(hb.cell hB).trans h1⟩
theorem qye:(Tryz.prog.info? 72).map (fun i=>(i.zero,i.size,i.bytes))=some (some (woV 0 0),2,16):=by kernel_rfl
theorem qie (n:Nat) (hn:n<=1048576) (w:World):
  (Instr.makeSlice 40 (.int .i64 (n:Int)) (.int .i64 (n:Int))).run Tryz.prog w=.ok (.slice (some ⟨w.heap.size,0,none⟩) n n) (w.alloc (.cells (madeCells (woV 0 0).cells (n*2)) 72)):=by
 have hinfo:=qye
 cases hi:Tryz.prog.info? 72 with
 | none=>rw [hi] at hinfo;cases hinfo
 | some i=>
  rw [hi] at hinfo
  simp only [Option.map_some,Option.some.injEq,Prod.mk.injEq] at hinfo
  obtain ⟨hz,hs,hb⟩:=hinfo
  have h:=run_make (P:=Tryz.prog) w 40 72 i _ Tryz.underlying40 hi hz .i64 .i64 (n:Int) (n:Int) (by omega) (Int.le_refl _) (by rw [hb];omega) (by omega)
  rw [hs] at h
  simpa using h
theorem qr2 (w:World) (n:Nat):(w.alloc (.cells (madeCells (woV 0 0).cells (n*2)) 72)).rowIs w.heap.size 72 (n*2) (fun i=>if i % 2=0 then .int .i64 0 else .int .i64 0):=by
 refine ⟨_,blk_alloc_new _ _,size_madeCells _ _,fun i hi=>?_⟩
 have h3:i % 2<2:=Nat.mod_lt _ (by omega)
 have:∀ j,j<2->(#[Value.int .i64 0,.int .i64 0]:Array Value)[j]! = if j=0 then .int .i64 0 else .int .i64 0:=by
  intro j hj
  match j,hj with
  | 0,_=>rfl
  | 1,_=>rfl
 simp only [madeCells,Value.cells]
 rw [Array.getElem?_map,Array.getElem?_range,if_pos hi]
 exact congrArg some (this (i % 2) h3)
def qdj (f:Nat->Value) (h:Nat->Wo2) (k:Nat):Prop:=∀ i,i<k->
 f (i*2)=.int .i64 (h i).m/\f (i*2+1)=.int .i64 (h i).v
theorem qdj.at {w:World} {b:Nat} {t:TypeId} {len k:Nat} {f:Nat->Value} {h:Nat->Wo2} (hh:qdj f h k) (hr:w.rowIs b t (len*2) f) (hk:k<=len):WoAt w b 0 k h:=by
 intro i hi
 obtain ⟨h0,h1⟩:=hh i hi
 refine ⟨?_,?_⟩
 ·rw [hr.cell (by omega),Nat.zero_add,h0]
 ·rw [hr.cell (by omega),Nat.zero_add,h1]
theorem qdj.step {w:World} {b:Nat} {t:TypeId} {len k:Nat} {f:Nat->Value} {h:Nat->Wo2} (hr:w.rowIs b t (len*2) f) (hh:qdj f h k):
  ∃ f',((w.setCell ⟨b,k*2,none⟩ (.int .i64 (h k).m)).setCell ⟨b,k*2+1,none⟩ (.int .i64 (h k).v)).rowIs b t (len*2) f'/\qdj f' h (k+1):=by
 refine ⟨_,(hr.set _ _).set _ _,fun i hi=>?_⟩
 by_cases hik:i=k
 ·subst hik
  simp
 ·have hlt:i<k:=by omega
  obtain ⟨h0,h1⟩:=hh i hlt
  refine ⟨?_,?_⟩
  ·rw [if_neg (by omega),if_neg (by omega)];exact h0
  ·rw [if_neg (by omega),if_neg (by omega)];exact h1
theorem qus (m v:Int) (w:World):
  Calls Tryz.prog 48 #[woV m v] w fun e w'=>e=.returned (woV m v)/\Below w.heap.size w w':=by
 go_enter Tryz.func48,Tryz.ntmps48
 go_wp2
 refine bodyPost_ret (v:=woV m v) (by simp [results,Tryz.results48,go_sem]) rfl ⟨rfl,?_⟩
 go_grown
theorem qrk (m v:Int) (w:World):
  Calls Tryz.prog 56 #[woV m v,woV m v] w fun e w'=>e=.returned (.bool true)/\Below w.heap.size w w':=by
 go_enter Tryz.func56,Tryz.ntmps56
 go_wp2
 go_ret
 exact ⟨rfl,by go_grown⟩
theorem qnr (a0:Option Addr) (len cap:Nat) (L:Int) (w:World) (h:(len:Int)<=L) (hL:L<=1048576):
  Calls Tryz.prog 10 #[.slice a0 len cap,.int .i64 L] w fun e w'=>e=.returned (.int .i64 (L - (len:Int)))/\w'=w:=by
 have h1:(len:Int)<=1048576:=by omega
 have h2:0<=L:=by omega
 have h3:¬ (L - (len:Int)<0):=by omega
 go_enter Tryz.func10,Tryz.ntmps10
 go_wp2
 go_ret
 exact ⟨rfl,rfl⟩
theorem qnq (a0:Option Addr) (len cap:Nat) (L:Int) (w:World) (h:L<(len:Int)) (h0:0<=L) (hL:L<=1048576) (hm:len<=maxLen):
  Calls Tryz.prog 10 #[.slice a0 len cap,.int .i64 L] w fun e w'=>e=.returned (.int .i64 (-1))/\w'=w:=by
 unfold maxLen at hm
 have h2:(len:Int)<=9223372036854775807:=by omega
 have h3:L - (len:Int)<0:=by omega
 go_enter Tryz.func10,Tryz.ntmps10
 go_wp2
 go_ret
 exact ⟨rfl,rfl⟩
theorem qpx (b off len cap:Nat) (h:Nat->Wo2) (w:World) (hlen:len<=1048576) (hb:b<w.heap.size) (hc:WoAt w b off len h):
  Calls Tryz.prog 13 #[.slice (some ⟨b,off,none⟩) len cap] w fun e w'=>e=.returned (.slice (some ⟨w.heap.size,0,none⟩) len len)/\WoAt w' w.heap.size 0 len h/\w.heap.size<w'.heap.size/\Below w.heap.size w w'/\∀ j,w'.frozen? ⟨w.heap.size,j,none⟩=false:=by
 have hl':(len:Int)<=1048576:=by omega
 have hmk:=qie len hlen
 have HC:Hid (WoAt w b off len h):=hc
 clear hc
 go_enter Tryz.func13,Tryz.ntmps13
 go_wp2_with fail
 clear hmk
 go_loopw [4] (fun i wr=>∃ k:Nat,k<=len/\i=.int .i64 k/\(∃ f,wr.rowIs w.heap.size 72 (len*2) f/\Hid (qdj f h k))/\Below w.heap.size w wr) (fun i _=>len - (intOf i).toNat)
 case atStart=>exact ⟨0,Nat.zero_le _,rfl,⟨_,qr2 w len,fun i hi=>by omega⟩,(Below.refl _ _).alloc (Nat.le_refl _) _⟩
 case round=>
  obtain ⟨k,hk,rfl,⟨f,hrow,HF⟩,hbw⟩:=hrel
  have hs:=hrow.lt
  by_cases hlt:k<len
  ·obtain ⟨c0,c1⟩:=HC.out.below hbw hb k hlt
   have HR:Hid (wr.rowIs w.heap.size 72 (len*2) f):=hrow
   clear hrow
   go_wp2_with fail
   refine (qus _ _ _).mono ?_
   rintro e w1 ⟨rfl,hb1⟩
   have hr1:w1.rowIs w.heap.size 72 (len*2) f:=HR.out.of_block (hb1.block _ hs)
   have f0:=hr1.frozen (k*2)
   have f1:=hr1.frozen (k*2+1)
   have g0:=hr1.cell (i:=k*2) (by omega)
   have g1:=hr1.cell (i:=k*2+1) (by omega)
   have HR1:Hid (w1.rowIs w.heap.size 72 (len*2) f):=hr1
   clear hr1
   go_wp2_with fail
   exact ⟨⟨k+1,by omega,by go_num,qdj.step HR1.out HF.out,((hbw.trans (hb1.mono (Nat.le_of_lt hs))).setCell (Nat.le_refl _) _).setCell (Nat.le_refl _) _⟩,by simp [intOf];omega⟩
  ·have hkl:k=len:=by omega
   have HI:Hid (WoAt wr w.heap.size 0 len h):=by
    have:=HF.out.at hrow hk
    rw [hkl] at this
    exact this
   have HZ:Hid (∀ j,wr.frozen? ⟨w.heap.size,j,none⟩=false):=fun j=>hrow.frozen j
   clear hkl HF hrow
   go_wp2
   go_ret
   exact ⟨rfl,HI.out,hs,hbw,HZ.out⟩
theorem qhb (a0:Option Addr) (cap:Nat) (h:Nat->Wo2) (w:World):
  Calls Tryz.prog 13 #[.slice a0 0 cap] w fun e w'=>e=.returned (.slice (some ⟨w.heap.size,0,none⟩) 0 0)/\WoAt w' w.heap.size 0 0 h/\w.heap.size<w'.heap.size/\Below w.heap.size w w'/\∀ j,w'.frozen? ⟨w.heap.size,j,none⟩=false:=by
 have hmk:∀ w:World,(Instr.makeSlice 40 (.int .i64 0) (.int .i64 0)).run Tryz.prog w=.ok (.slice (some ⟨w.heap.size,0,none⟩) 0 0) (w.alloc (.cells (madeCells (woV 0 0).cells (0*2)) 72)):=fun w=>qie 0 (by omega) w
 go_enter Tryz.func13,Tryz.ntmps13
 go_wp2_with fail
 clear hmk
 go_rounds 1
 go_ret
 exact ⟨rfl,fun i hi=>by omega,by simp,(Below.refl _ _).alloc (Nat.le_refl _) _,fun j=>yB _ _ _ j rfl⟩
def qjl (w:World) (a0:Option Addr) (len cap:Nat) (h:Nat->Wo2):Prop:=∀ wx,Below w.heap.size w wx->
 Calls Tryz.prog 13 #[.slice a0 len cap] wx fun e w'=>e=.returned (.slice (some ⟨wx.heap.size,0,none⟩) len len)/\WoAt w' wx.heap.size 0 len h/\wx.heap.size<w'.heap.size/\Below wx.heap.size wx w'/\∀ j,w'.frozen? ⟨wx.heap.size,j,none⟩=false
theorem qoi {W:World} {a0:Option Addr} {len cap:Nat} (hl:len<=1048576) (hr:len=0\/∃ b off h,a0=some ⟨b,off,none⟩/\b<W.heap.size/\WoAt W b off len h):∃ h,qjl W a0 len cap h:=by
 rcases hr with rfl | ⟨b,off,h,rfl,hb,hI⟩
 ·exact ⟨fun _=>⟨0,0⟩,fun wx _=>qhb a0 cap _ wx⟩
 ·exact ⟨h,fun wx hB=>qpx b off len cap h wx hl (zL hb hB.size) (hI.below hB hb)⟩
theorem qos (b1 b2 len c1 c2:Nat) (h:Nat->Wo2) (w:World) (hlen:len<=1048576) (hb1:b1<w.heap.size) (hb2:b2<w.heap.size) (hc1:WoAt w b1 0 len h) (hc2:WoAt w b2 0 len h):
  Calls Tryz.prog 16 #[.slice (some ⟨b1,0,none⟩) len c1,.slice (some ⟨b2,0,none⟩) len c2] w fun e w'=>e=.returned (.bool true)/\Below w.heap.size w w':=by
 have hl':(len:Int)<=1048576:=by omega
 have HC1:Hid (WoAt w b1 0 len h):=hc1
 have HC2:Hid (WoAt w b2 0 len h):=hc2
 clear hc1 hc2
 go_enter Tryz.func16,Tryz.ntmps16
 go_wp2_with fail
 go_loopw [5] (fun i wr=>∃ k:Nat,k<=len/\i=.int .i64 k/\Below w.heap.size w wr) (fun i _=>len - (intOf i).toNat)
 case atStart=>exact ⟨0,Nat.zero_le _,rfl,Below.refl _ _⟩
 case round=>
  obtain ⟨k,hk,rfl,hbw⟩:=hrel
  have hs:=hbw.size
  by_cases hlt:k<len
  ·obtain ⟨c0,c1⟩:=HC1.out.below hbw hb1 k hlt
   obtain ⟨d0,d1⟩:=HC2.out.below hbw hb2 k hlt
   have hlt':(k:Int)<(len:Int):=by omega
   rw [Nat.zero_add] at c0 c1 d0 d1
   go_wp2_with fail
   first|(go_region_with (go_at_call 56;refine (qrk _ _ _).mono ?_;rintro e w1 ⟨rfl,hq1⟩)) | fail
   all_goals
    go_wp2
    go_roundw
    case rel=>exact ⟨k+1,by omega,by go_num,hbw.drew.trans (hq1.mono hs)⟩
    case measure=>simp [intOf];omega
  ·go_wp2
   go_ret
   exact ⟨rfl,hbw⟩
def qcs (w:World) (b len:Nat):Prop:=(∀ i,i<len*2->∃ u,w.cell? ⟨b,i,none⟩=some u)/\∀ j,w.frozen? ⟨b,j,none⟩=false
theorem qcs.set {w:World} {b len:Nat} (h:qcs w b len) (p:Addr) (v:Value):qcs (w.setCell p v) b len:=
 ⟨fun i hi=>(h.1 i hi).elim fun _ e=>cell?_setCell_some e,fun j=>by rw [World.frozen?_setCell];exact h.2 j⟩
theorem qcs.of_row {w:World} {b len:Nat} {h:Nat->Wo2} (hh:WoAt w b 0 len h) (hf:∀ j,w.frozen? ⟨b,j,none⟩=false):qcs w b len:=by
 refine ⟨fun i hi=>?_,hf⟩
 obtain ⟨c0,c1⟩:=hh (i / 2) (by omega)
 simp only [Nat.zero_add] at c0 c1
 have he:i=i / 2*2\/i=i / 2*2+1:=by omega
 rcases he with e | e
 ·rw [e];exact ⟨_,c0⟩
 ·rw [e];exact ⟨_,c1⟩
theorem qmv (b len cap:Nat) (k:Int) (w:World) (hlen:len<=1048576) (k0:0<=k) (k1:k<=100000000) (h:qcs w b len):
  Calls Tryz.prog 18 #[.slice (some ⟨b,0,none⟩) len cap,.int .i64 k] w fun e w'=>e=.returned (.int .i64 (k+2*len))/\w.grownBy w' (some b):=by
 have hl':(len:Int)<=1048576:=by omega
 have HO:Hid (qcs w b len):=h
 clear h
 go_enter Tryz.func18,Tryz.ntmps18
 go_wp2_with fail
 go_loopw [1,5] (fun q i wr=>∃ j:Nat,j<=len/\i=.int .i64 j/\q=.int .i64 (k+2*j)/\Hid (qcs wr b len/\w.grownBy wr (some b))) (fun _ i _=>len - (intOf i).toNat)
 case atStart=>exact ⟨0,Nat.zero_le _,rfl,by simp,HO.out,World.grownBy.refl _ _⟩
 case round=>
  clear HO
  obtain ⟨j,hj,rfl,rfl,HR⟩:=hrel
  by_cases hlt:j<len
  ·have hlt':(j:Int)<(len:Int):=by omega
   obtain ⟨u0,c0⟩:=HR.out.1.1 (j*2) (by omega)
   obtain ⟨u1,c1⟩:=HR.out.1.1 (j*2+1) (by omega)
   have fz:=HR.out.1.2
   go_wp2
   go_roundw
   case rel=>
    refine ⟨j+1,by omega,by go_num,by go_num,?_⟩
    refine ⟨?_,?_⟩
    ·repeat (refine qcs.set ?_ _ _)
     exact HR.out.1
    ·repeat (refine zV ?_ (.inl rfl) _)
     exact HR.out.2
   case measure=>simp [intOf];omega
  ·have hlt':¬ (j:Int)<(len:Int):=by omega
   have HF:Hid (w.grownBy wr (some b)):=HR.out.2
   have hjl:(j:Int)=len:=by omega
   have HJ:Hid ((j:Int)=len):=hjl
   clear HR hjl
   go_wp2
   go_ret
   exact ⟨qda (by rw [HJ.out]),HF.out⟩
theorem qq8:Tryz.prog.cellsOf 81=2:=by kernel_rfl
theorem qm1 {H:Type} {enc:TypeId × Value->H} {w:World} {base fuel:Nat} {spare:Nat->Bool} {held:Bool} {c0 c1:Value} {x:DataW H × List MemPlace}
  (hf:DataW.trod enc Tryz.prog w base spare held fuel 81 [c0,c1]=some x):
  ∃ (m v:Int),c0=.int .i64 m/\c1=.int .i64 v:=by
 obtain ⟨xs,m,-,-,-,hl,hx⟩:=DataW.trod_struct Tryz.underlying81 hf
 have hl:xs.length=2:=hl
 have q0:DataW.trod enc Tryz.prog w base spare held m 3 [c0]=xs[0]?:=by simpa [qbt] using hx 0 _ rfl
 have q1:DataW.trod enc Tryz.prog w base spare held m 3 [c1]=xs[1]?:=by simpa [qbt] using hx 1 _ rfl
 rw [List.getElem?_eq_getElem (by omega)] at q0 q1
 obtain ⟨z0,e0,-,-⟩:=DataW.trod_int Tryz.underlying3 q0
 obtain ⟨z1,e1,-,-⟩:=DataW.trod_int Tryz.underlying3 q1
 simp only [List.cons.injEq,and_true] at e0 e1
 exact ⟨z0,z1,e0,e1⟩
theorem qsa {H:Type} {enc:TypeId × Value->H} {w:World} {spare:Nat->Bool} {held:Bool} {base:Nat} {a0:Option Addr} {len cap:Nat} {d:DataW H} {p:List MemPlace}
  (h:DataW.Trod enc Tryz.prog w base spare held 28 (.slice a0 len cap) d p):
  len<=maxLen/\(len=0\/∃ b off h,a0=some ⟨b,off,none⟩/\b<w.heap.size/\WoAt w b off len h):=by
 obtain ⟨fuel,hf⟩:=h
 rcases Go.Deep.open_slice Tryz.underlying28 hf with ⟨hcs,_⟩ | ⟨a,len',cap',m,n,D,Pl,hcs,_,hl,hm,hmm,_,hx⟩
 ·simp [Value.cells] at hcs
  obtain ⟨_,rfl,_⟩:=hcs
  exact ⟨Nat.zero_le _,.inl rfl⟩
 ·simp [Value.cells] at hcs
  obtain ⟨rfl,rfl,rfl⟩:=hcs
  refine ⟨zP hl hm,?_⟩
  by_cases h0:len=0
  ·exact .inl h0
  right
  have hle:len<=m:=by rw [hmm];split <;> omega
  rw [qq8] at hx
  obtain ⟨b,off,spot⟩:=a
  have hcell:∀ i,i<len->∃ x:Wo2,w.cell? (Addr.add (Addr.add ⟨b,off,spot⟩ (i*2)) 0)=some (.int .i64 x.m)/\w.cell? (Addr.add (Addr.add ⟨b,off,spot⟩ (i*2)) 1)=some (.int .i64 x.v):=by
   intro i hi
   obtain ⟨cs',h1,h2⟩:=hx i (by omega)
   obtain ⟨_,hlen,hc⟩:=World.cells?_some h1
   match cs',hlen with
   | [c0,c1],_=>
    obtain ⟨k,v,rfl,rfl⟩:=qm1 h2
    exact ⟨⟨k,v⟩,hc 0 (by omega),hc 1 (by omega)⟩
  have hspot:spot=none:=by
   obtain ⟨x,hx0,_⟩:=hcell 0 (by omega)
   simpa [Addr.add] using World.cell?_spot hx0
  subst hspot
  have inh:Inhabited Wo2:=⟨⟨0,0⟩⟩
  obtain ⟨g,hg⟩:=Go.Deep.choose_lt (α:=Wo2) hcell
  have hI:WoAt w b off len g:=by
   intro i hi
   obtain ⟨q0,q1⟩:=hg i hi
   rw [qbq,qbq] at q0 q1
   exact ⟨q0,q1⟩
  exact ⟨b,off,g,rfl,qex (hI 0 (by omega)).1,hI⟩
open Go.Sort
def sndN (y:Sy) (p i:Nat):Int:=if (y.hH p i).k=3 then nthV (y.hH (y.hH p i).q.toNat) 2 p (y.hL (y.hH p i).q.toNat) ((plN (y.hH p) 3 (y.hH p i).q i).length:Nat) else -1
theorem qmn (x:SysIn) (p i:Nat) (w:World) (hG:SysG w x) (hcap:∀ i,i<x.hn->x.hL i<=x.hC i) (hO:x.y.Ok) (hp:p<x.pn) (hi:i<x.hL p):
  Calls Tryz.prog 150 #[x.v,.int .i64 p,.int .i64 i] w fun e w'=>e=.returned (.int .i64 (sndN x.y p i))/\Below w.heap.size w w':=by
 have hhn:x.hn=x.pn:=hO.cn.2.2.1
 have hph:p<x.hn:=by omega
 have hq:0<=(x.hH p i).q/\(x.hH p i).q<(x.pn:Int):=hO.evq hp hi
 have hlp:x.hL p<=200:=hO.hl200 hp
 obtain ⟨q,hqe⟩:∃ q:Nat,(x.hH p i).q=q:=⟨(x.hH p i).q.toNat,by omega⟩
 have hqn:q<x.hn:=by omega
 have hlq:x.hL q<=200:=hO.hl200 (by show q<x.pn;omega)
 have hcp:=hcap p hph
 have hph':(p:Int)<(x.hn:Int):=by omega
 have hqn':(q:Int)<(x.hn:Int):=by omega
 have hi':(i:Int)<(x.hL p:Int):=by omega
 have HG:Hid (SysG w x):=hG
 have HV:Hid (sndN x.y p i=if (x.hH p i).k=3 then nthV (x.hH q) 2 p (x.hL q) ((plN (x.hH p) 3 q i).length:Nat) else -1):=by
  show sndN x.y p i=_
  unfold sndN
  show (if (x.hH p i).k=3 then nthV (x.hH (x.hH p i).q.toNat) 2 p (x.hL (x.hH p i).q.toNat) ((plN (x.hH p) 3 (x.hH p i).q i).length:Nat) else -1)=_
  rw [hqe,Int.toNat_natCast]
 have hcn:(plN (x.hH p) 3 q i).length<=i:=qm3 _ _ _ _
 have ks:=qky (x.hA p) (x.hL p) (x.hC p) i (by omega)
 have HCk:Hid (∀ wx,Below w.heap.size w wx->Calls Tryz.prog 116 #[.slice (x.hA p) i (x.hC p),.int .i64 3,.int .i64 q] wx fun e w'=>e=.returned (.int .i64 ((plN (x.hH p) 3 q i).length:Nat))/\Below wx.heap.size wx w'):=fun wx hb=>qe4 (x.hA p) i (x.hC p) (x.hH p) 3 q wx (by omega) (((hG.below hb).hi p hph).take (by omega))
 have HNt:Hid (∀ wx,Below w.heap.size w wx->Calls Tryz.prog 183 #[.slice (x.hA q) (x.hL q) (x.hC q),.int .i64 2,.int .i64 p,.int .i64 ((plN (x.hH p) 3 q i).length:Nat)] wx fun e w'=>e=.returned (.int .i64 (nthV (x.hH q) 2 p (x.hL q) ((plN (x.hH p) 3 q i).length:Nat)))/\Below wx.heap.size wx w'):=fun wx hb=>qui (x.hA q) (x.hL q) (x.hC q) (x.hH q) 2 p _ wx (by omega) ((hG.below hb).hi q hqn) (by omega) (by omega)
 generalize hCn:(plN (x.hH p) 3 q i).length=cn at *
 generalize hNv:nthV (x.hH q) 2 p (x.hL q) (cn:Nat)=nv at *
 have HQ:Hid ((x.hH p i).q=q):=hqe
 clear hG hcap hO hq hqe hNv hCn hhn
 have BW:Hid (Below w.heap.size w (w.alloc (oQ4 x.pa x.pn x.pc x.sa x.sn x.sc x.wa x.wn x.wc x.ha x.hn x.hc))):=zT _ _
 have NB:Hid (BoxC (w.alloc (oQ4 x.pa x.pn x.pc x.sa x.sn x.sc x.wa x.wn x.wc x.ha x.hn x.hc)) w.heap.size (.slice x.pa x.pn x.pc) (.slice x.sa x.sn x.sc) (.slice x.wa x.wn x.wc) (.slice x.ha x.hn x.hc)):=BoxC.new w _ _ _ _ _
 go_enter Tryz.func150,Tryz.ntmps150
 go_upto_region 1 with fail
 generalize w.alloc (oQ4 x.pa x.pn x.pc x.sa x.sn x.sc x.wa x.wn x.wc x.ha x.hn x.hc)=W2 at *
 obtain ⟨-,-,-,b3⟩:=NB.out
 obtain ⟨bh,oh,eh,cp⟩:=(HG.out.below BW.out).h.at hph
 obtain ⟨bh',oh',eh',cq⟩:=(HG.out.below BW.out).h.at hqn
 rw [eh] at eh' b3
 simp only [Option.some.injEq,Addr.mk.injEq] at eh'
 obtain ⟨rfl,rfl,-⟩:=eh'
 obtain ⟨b,off,ea,zb,e0,e1,e2⟩:=((HG.out.below BW.out).hi p hph).at hi
 rw [ea] at cp ks
 rw [HQ.out] at e1
 have HCk':=HCk.out
 rw [ea] at HCk'
 clear HCk
 have HCk:Hid (∀ wx,Below w.heap.size w wx->Calls Tryz.prog 116 #[.slice (some ⟨b,off,none⟩) i (x.hC p),.int .i64 3,.int .i64 q] wx fun e w'=>e=.returned (.int .i64 (cn:Nat))/\Below wx.heap.size wx w'):=HCk'
 clear HCk' eh ea
 generalize (x.hH p i).k=K at *
 generalize (x.hH p i).v=V at *
 have BW3:Hid (Below w.heap.size w (W2.alloc (oQ0 K q V))):=BW.out.trans ((zT _ _).mono BW.out.size)
 have c0:=zW W2 #[.int .i64 K,.int .i64 q,.int .i64 V] 74 0 rfl
 have c1:=zW W2 #[.int .i64 K,.int .i64 q,.int .i64 V] 74 1 rfl
 have b3':=qaa b3 (oQ0 K q V)
 have cp':=qaa cp (oQ0 K q V)
 have cq':=qaa cq (oQ0 K q V)
 go_upto_region 2 with fail
 clear b3 cp cq e0 e1 e2 zb BW NB
 generalize hN2:W2.heap.size=N2 at *
 clear hN2
 generalize W2.alloc (oQ0 K q V)=W3 at *
 rcases zK (K == 3) with t | t
 case inr=>
  have HV2:Hid (sndN x.y p i = -1):=by
   show sndN x.y p i = -1
   rw [HV.out,if_neg (by simpa using t)]
  clear HV
  go_wp2
  go_ret
  exact ⟨qda HV2.out.symm,BW3.out⟩
 case inl=>
  have HV2:Hid (sndN x.y p i=nv):=by
   show sndN x.y p i=nv
   rw [HV.out,if_pos (by simpa using t)]
  clear HV
  have q1:=cell_regrown c1
  have q3:=cell_regrown b3'
  have qp:=cell_regrown cp'
  have qq:=cell_regrown cq'
  have HQ2:Hid (∀ d os,Below w.heap.size w (grow (redrawn W3 d) os)):=fun d os=>BW3.out.trans ((below_regrown W3 d os).mono BW3.out.size)
  go_upto_region 4 with fail
  clear c1 b3' cp' cq'
  refine wp_region_quiet_below (by kernel_rfl) (by kernel_rfl) ?_
  repeat (quiet_step (first|(go_at_call 116;exact Calls.regrown_of (HCk.out _ (HQ2.out _ _)))|(go_at_call 183;exact Calls.regrown_of (HNt.out _ (HQ2.out _ _)))))
  refine wpQuiet_nil ?_
  intro _ hw'
  obtain ⟨⟨dd,os⟩,hw''⟩:=hw'
  subst hw''
  have B3:=HQ2.out dd os
  generalize grow (redrawn W3 dd) os=w3 at *
  go_wp2
  go_ret
  exact ⟨qda HV2.out.symm,B3⟩
theorem qhd {eh:Nat->E3} {kd pr:Int}:∀ {m j:Nat},j<cnt eh kd pr m->∃ k,k<m/\hitB eh kd pr k=true/\cnt eh kd pr k=j
 | 0,j,h=>by
  rw [qp3] at h
  omega
 | m+1,j,h=>by
  by_cases hh:hitB eh kd pr m=true
  ·rw [qf2 hh] at h
   by_cases e:j<cnt eh kd pr m
   ·obtain ⟨k,h1,h2⟩:=qhd e
    exact ⟨k,by omega,h2⟩
   ·exact ⟨m,by omega,hh,by omega⟩
  ·rw [qju (by simpa using hh)] at h
   obtain ⟨k,h1,h2⟩:=qhd h
   exact ⟨k,by omega,h2⟩
def sdr (y:Sy) (p i:Nat):Option (Nat × Nat):=if (y.hH p i).k=3 then some ((y.hH p i).q.toNat,(sndN y p i).toNat) else none
theorem qw3 {y:Sy} {d:Nat->Nat} {p:Nat} (hO:y.Ok) (hd:∀ a,d a<=y.hL a) (hp:p<y.pn) (hc:y.hs.Can d p) {s:Nat × Nat} (hs:sdr y p (d p)=some s):s.1<y.pn/\s.2<d s.1/\sndN y p (d p)=(s.2:Int):=by
 obtain ⟨h1,h2⟩:=hc
 have h1':d p<y.hL p:=h1
 unfold sdr at hs
 by_cases e:(y.hH p (d p)).k=3
 ·rw [if_pos e] at hs
  simp only [Option.some.injEq] at hs
  have hq:=hO.evq hp h1'
  have h3:cnt (y.hH p) 3 (y.hH p (d p)).q (d p)<cnt (y.hH (y.hH p (d p)).q.toNat) 2 p (d (y.hH p (d p)).q.toNat):=h2 e
  obtain ⟨k,k1,k2,k3⟩:=qhd h3
  have hk:sndN y p (d p)=(k:Int):=by
   unfold sndN
   rw [if_pos e]
   refine qkp (zL k1 (hd _)) k2 ?_
   rw [plI,List.length_map]
   exact congrArg Nat.cast k3.symm
  rw [<- hs]
  refine ⟨by show (y.hH p (d p)).q.toNat<y.pn;omega,?_,?_⟩
  ·show (sndN y p (d p)).toNat<d (y.hH p (d p)).q.toNat
   rw [hk]
   simpa using k1
  ·show sndN y p (d p)=((sndN y p (d p)).toNat:Int)
   rw [hk]
   simp
 ·rw [if_neg e] at hs
  cases hs
theorem Hs.Put.was {x:Hs} {d:Nat->Nat} (h:x.Put d):∀ p i,i<d p->p<x.n/\∃ d',x.Put d'/\d' p=i/\x.Can d' p:=by
 induction h with
 | start=>
  intro p i hi
  exact absurd hi (Nat.not_lt_zero _)
 | @next d p0 hput hp0 hc ih=>
  intro p i hi
  by_cases e:p=p0/\i=d p0
  ·obtain ⟨rfl,rfl⟩:=e
   exact ⟨hp0,d,hput,rfl,hc⟩
  ·refine ih p i ?_
   by_cases ep:p=p0
   ·subst ep
    rw [qcy] at hi
    have:i≠d p:=fun h=>e ⟨rfl,h⟩
    omega
   ·rw [up_other ep] at hi
    exact hi
theorem que {y:Sy} (hO:y.Ok) {p i:Nat} (hp:p<y.pn) (hi:i<y.hL p) {s:Nat × Nat} (hs:sdr y p i=some s):
  (y.hH p i).k=3/\(y.hH p i).q=(s.1:Int)/\s.1<y.pn/\s.2<y.hL s.1/\sndN y p i=(s.2:Int)/\hitB (y.hH s.1) 2 p s.2=true/\cnt (y.hH s.1) 2 p s.2=cnt (y.hH p) 3 s.1 i/\(s.1=p->s.2<i):=by
 obtain ⟨dA,hA,hall⟩:=hO.ro
 have hi':i<dA p:=by rw [hall p hp];exact hi
 obtain ⟨-,d,hput,rfl,hc⟩:=hA.was p i hi'
 obtain ⟨h1,h2,h3⟩:=qw3 hO hput.le hp hc hs
 have hq:=hO.evq hp hi
 unfold sdr at hs
 by_cases e:(y.hH p (d p)).k=3
 ·rw [if_pos e] at hs
  simp only [Option.some.injEq] at hs
  have e1:(y.hH p (d p)).q.toNat=s.1:=by rw [<- hs]
  have e2:(y.hH p (d p)).q=(s.1:Int):=by omega
  have h4:cnt (y.hH p) 3 (y.hH p (d p)).q (d p)<cnt (y.hH (y.hH p (d p)).q.toNat) 2 p (d (y.hH p (d p)).q.toNat):=hc.2 e
  rw [e1,e2] at h4
  obtain ⟨k,k1,k2,k3⟩:=qhd h4
  have hk:sndN y p (d p)=(k:Int):=by
   unfold sndN
   rw [if_pos e,e1,e2]
   refine qkp (zL k1 (hput.le _)) k2 ?_
   rw [plI,List.length_map]
   exact congrArg Nat.cast k3.symm
  have e3:k=s.2:=by
   rw [hk] at h3
   omega
  subst e3
  exact ⟨e,e2,h1,zL k1 (hput.le _),hk,k2,k3,fun ep=>by rw [ep] at k1;exact k1⟩
 ·rw [if_neg e] at hs
  cases hs
theorem qqr {y:Sy} {p i:Nat} (h:sdr y p i=none):(y.hH p i).k≠3:=by
 intro e
 rw [sdr,if_pos e] at h
 cases h
theorem qog {y:Sy} (hO:y.Ok) {d:Nat->Nat} {p:Nat} (hp:p<y.pn) (hl:d p<y.hL p):y.hs.Can d p ↔ ∀ s,sdr y p (d p)=some s->s.2<d s.1:=by
 constructor
 ·intro hc s hs
  obtain ⟨h1,h2,h3,h4,h5,h6,h7,-⟩:=que hO hp hl hs
  have h8:cnt (y.hH p) 3 (y.hH p (d p)).q (d p)<cnt (y.hH (y.hH p (d p)).q.toNat) 2 p (d (y.hH p (d p)).q.toNat):=hc.2 h1
  rw [h2,Int.toNat_natCast,<- h7] at h8
  refine Decidable.byContradiction fun hn=>?_
  have:=qff (y.hH s.1) 2 p (show d s.1<=s.2 by omega)
  omega
 ·intro h
  refine ⟨hl,fun e=>?_⟩
  cases hs:sdr y p (d p) with
  | none=>exact absurd e (qqr hs)
  | some s=>
   obtain ⟨h1,h2,h3,h4,h5,h6,h7,-⟩:=que hO hp hl hs
   have hlt:=h s hs
   show cnt (y.hH p) 3 (y.hH p (d p)).q (d p)<cnt (y.hH (y.hH p (d p)).q.toNat) 2 p (d (y.hH p (d p)).q.toNat)
   rw [h2,Int.toNat_natCast,<- h7]
   have h9:=qff (y.hH s.1) 2 p (show s.2+1<=d s.1 by omega)
   rw [qf2 h6] at h9
   omega
structure HisQ (w:World) (X:Nat) (ha:Option Addr) (hc:Nat) (y:Hs) (d:Nat->Nat):Prop where
 c4:w.cell? ⟨X,0,none⟩=some (.slice ha y.n hc)
 pt:∀ i,i<4->w.cell? ⟨X,1+i,none⟩=some (.int .i64 (d i))
 op:∀ a b,a<4->b<4->w.cell? ⟨X,5+a*4+b,none⟩=some (.int .i64 (y.opn d a b))
 fr:∀ j,w.frozen? ⟨X,j,none⟩=false
theorem HisQ.lt {w:World} {X:Nat} {ha:Option Addr} {hc:Nat} {y:Hs} {d:Nat->Nat} (h:HisQ w X ha hc y d):X<w.heap.size:=zJ w _ h.c4
theorem HisQ.blk {w w':World} {X:Nat} {ha:Option Addr} {hc:Nat} {y:Hs} {d:Nat->Nat} (h:HisQ w X ha hc y d) (hb:w'.heap[X]? = w.heap[X]?):HisQ w' X ha hc y d:=
 ⟨(zH hb).trans h.c4,fun i hi=>(zH hb).trans (h.pt i hi),fun a b h1 h2=>(zH hb).trans (h.op a b h1 h2),fun j=>(zI hb).trans (h.fr j)⟩
theorem HisQ.below {w w':World} {X:Nat} {ha:Option Addr} {hc:Nat} {y:Hs} {d:Nat->Nat} (h:HisQ w X ha hc y d) (hb:Below w.heap.size w w'):HisQ w' X ha hc y d:=h.blk (hb.block X h.lt)
theorem qu5 (X:Nat) (ha:Option Addr) (hc:Nat) (hA:Nat->Option Addr) (hC:Nat->Nat) (y:Hs) (d:Nat->Nat) (k:Nat) (w:World) (hE:HisE w ha hA hC y) (hP:HisQ w X ha hc y d) (h4:y.n<=4) (hk:k<y.n) (hp:y.Peers) (hl:∀ i,i<y.n->y.l i<=200) (hd:∀ i,d i<=y.l i):
  Calls Tryz.prog 158 #[.pointer (some ⟨X,0,none⟩),.int .i64 k] w fun e w'=>e=.returned (.bool (qB (y.Can d k)))/\Below w.heap.size w w':=by
 have HE:Hid (HisE w ha hA hC y):=hE
 have HP:Hid (HisQ w X ha hc y d):=hP
 have HCan:Hid (y.Can d k ↔ d k<y.l k/\((y.e k (d k)).k=3->0<y.opn d (y.e k (d k)).q.toNat k)):=Hs.can_iff hp hk
 have hk4:(k:Int)<4:=by omega
 have hk':(k:Int)<(y.n:Int):=by omega
 have hl200:(y.l k:Int)<=200:=by have:=hl k hk;omega
 have hdk:(d k:Int)<=(y.l k:Int):=by have:=hd k;omega
 obtain ⟨bh,oh,eh,ch⟩:=hE.row.at hk
 obtain ⟨c4,pt,op,-⟩:=hP
 have pk:=pt k (by omega)
 rw [eh] at c4
 clear hE
 by_cases he:d k=y.l k
 ·have HN:Hid (qB (y.Can d k)=false):=qap fun h=>by have:=h.1;omega
  rw [he] at pk
  clear op pt
  go_enter Tryz.func158,Tryz.ntmps158
  go_wp2_with fail
  go_quiet (fail)
  go_wp2
  go_ret
  rw [HN.out]
  exact ⟨rfl,yC (Below.refl _ _) _⟩
 ·have hlt:d k<y.l k:=by have:=hd k;omega
  have hlt':(d k:Int)<(y.l k:Int):=by omega
  have hne:((d k:Int) == (y.l k:Int))=false:=by
   have:¬ (d k:Int)=(y.l k:Int):=by omega
   simpa using this
  obtain ⟨b,off,ea,zb,e0,e1,e2⟩:=(HE.out.ev k hk).at hlt
  rw [ea] at ch
  have n1:w.heap.size≠X:=by have:=HP.out.lt;omega
  have n2:w.heap.size≠b:=by omega
  have n3:w.heap.size≠bh:=by have:=zJ w _ ch;simp at this;omega
  clear zb
  have hq:=hp k hk (d k) hlt
  obtain ⟨q,hqe⟩:∃ q:Nat,(y.e k (d k)).q=(q:Int):=⟨(y.e k (d k)).q.toNat,by omega⟩
  have hq4:(q:Int)<4:=by omega
  have oq:=op q k (by omega) (by omega)
  rw [hqe] at e1
  rcases zK ((y.e k (d k)).k != 3) with t | t
  ·have HN:Hid (qB (y.Can d k)=true):=qa3 (HCan.out.2 ⟨hlt,fun h=>by rw [h] at t;cases t⟩)
   clear op pt hq hqe oq HCan
   generalize (y.e k (d k)).k=kd at *
   generalize (y.e k (d k)).v=vd at *
   go_enter Tryz.func158,Tryz.ntmps158
   go_wp2_with fail
   go_quiet (fail)
   go_wp2_with fail
   have BD:Hid (Below w.heap.size w (w.drewN nq)):=yC (Below.refl _ _) _
   replace n1:(w.drewN nq).heap.size≠X:=n1
   replace n2:(w.drewN nq).heap.size≠b:=n2
   replace n3:(w.drewN nq).heap.size≠bh:=n3
   replace c4:(w.drewN nq).cell? ⟨X,0,none⟩=_:=c4
   replace pk:(w.drewN nq).cell? ⟨X,1+k,none⟩=_:=pk
   replace ch:(w.drewN nq).cell? ⟨bh,oh+k,none⟩=_:=ch
   replace e0:(w.drewN nq).cell? ⟨b,off+d k*3,none⟩=_:=e0
   replace e1:(w.drewN nq).cell? ⟨b,off+d k*3+1,none⟩=_:=e1
   replace e2:(w.drewN nq).cell? ⟨b,off+d k*3+2,none⟩=_:=e2
   generalize w.drewN nq=wd at *
   have c4':=qaa c4
   have pk':=qaa pk
   have ch':=qaa ch
   have e0':=qaa e0
   have e1':=qaa e1
   have e2':=qaa e2
   go_region
   all_goals
    go_wp2_with fail
    go_quiet (fail)
    go_wp2
    go_ret
    rw [HN.out]
    exact ⟨rfl,yC (BD.out.trans ((zT _ _).mono BD.out.size)).drew _⟩
  ·have hk3:(y.e k (d k)).k=3:=by simpa using t
   have HN:Hid (qB (y.Can d k)=decide (0<y.opn d q k)):=by
    show qB (y.Can d k)=decide (0<y.opn d q k)
    have e:(y.e k (d k)).q.toNat=q:=by omega
    by_cases h0:0<y.opn d q k
    ·rw [decide_eq_true h0]
     exact qa3 (HCan.out.2 ⟨hlt,fun _=>by rw [e];exact h0⟩)
    ·rw [decide_eq_false h0]
     refine qap fun h=>h0 ?_
     have:=(HCan.out.1 h).2 hk3
     rwa [e] at this
   rw [hk3] at e0
   clear op pt hq hqe HCan t hk3
   generalize (y.e k (d k)).v=vd at *
   generalize y.opn d q k=on at *
   go_enter Tryz.func158,Tryz.ntmps158
   go_wp2_with fail
   go_quiet (fail)
   go_wp2_with fail
   have BD:Hid (Below w.heap.size w (w.drewN nq)):=yC (Below.refl _ _) _
   replace n1:(w.drewN nq).heap.size≠X:=n1
   replace n2:(w.drewN nq).heap.size≠b:=n2
   replace n3:(w.drewN nq).heap.size≠bh:=n3
   replace c4:(w.drewN nq).cell? ⟨X,0,none⟩=_:=c4
   replace pk:(w.drewN nq).cell? ⟨X,1+k,none⟩=_:=pk
   replace ch:(w.drewN nq).cell? ⟨bh,oh+k,none⟩=_:=ch
   replace e0:(w.drewN nq).cell? ⟨b,off+d k*3,none⟩=_:=e0
   replace e1:(w.drewN nq).cell? ⟨b,off+d k*3+1,none⟩=_:=e1
   replace e2:(w.drewN nq).cell? ⟨b,off+d k*3+2,none⟩=_:=e2
   replace oq:(w.drewN nq).cell? ⟨X,5+q*4+k,none⟩=_:=oq
   generalize w.drewN nq=wd at *
   have c4':=qaa c4
   have pk':=qaa pk
   have ch':=qaa ch
   have e0':=qaa e0
   have e1':=qaa e1
   have e2':=qaa e2
   have oq':=qaa oq
   go_region
   all_goals
    go_wp2_with fail
    go_quiet (fail)
    go_wp2
    go_ret
    rw [HN.out]
    exact ⟨rfl,yC (BD.out.trans ((zT _ _).mono BD.out.size)).drew _⟩
theorem HisQ.put {w w':World} {X:Nat} {ha:Option Addr} {hc:Nat} {y:Hs} {d:Nat->Nat} {k:Nat} (h:HisQ w X ha hc y d) (c4:w'.cell? ⟨X,0,none⟩=w.cell? ⟨X,0,none⟩) (pt:∀ i,i<4->w'.cell? ⟨X,1+i,none⟩=if i=k then some (.int .i64 (d k+1:Nat)) else w.cell? ⟨X,1+i,none⟩)
  (op:∀ a b,a<4->b<4->w'.cell? ⟨X,5+a*4+b,none⟩=some (.int .i64 (y.opn (up d k) a b))) (fr:∀ j,w'.frozen? ⟨X,j,none⟩=false):HisQ w' X ha hc y (up d k):=by
 refine ⟨c4.trans h.c4,fun i hi=>?_,op,fr⟩
 rw [pt i hi]
 by_cases e:i=k
 ·subst e
  rw [if_pos rfl,qcy]
 ·rw [if_neg e,up_other e]
  exact h.pt i hi
theorem HisQ.put2 {w:World} {X:Nat} {ha:Option Addr} {hc:Nat} {y:Hs} {d:Nat->Nat} {k i0 j0:Nat} {on:Int} {o:Obj} (h:HisQ w X ha hc y d) (hk:k<4) (hi:i0<4) (hj:j0<4) (HO:∀ a b,y.opn (up d k) a b=if a=i0/\b=j0 then on else y.opn d a b):
  HisQ (((w.setCell ⟨X,5+i0*4+j0,none⟩ (.int .i64 on)).setCell ⟨X,1+k,none⟩ (.int .i64 ((d k:Int)+1))).alloc o) X ha hc y (up d k)/\qac (fun b=>b=X) w (((w.setCell ⟨X,5+i0*4+j0,none⟩ (.int .i64 on)).setCell ⟨X,1+k,none⟩ (.int .i64 ((d k:Int)+1))).alloc o):=by
 have hX:=h.lt
 refine ⟨h.put (k:=k) (qdd (by omega) (by omega) hX) (fun i hi'=>?_) (fun a b ha' hb'=>?_) (fun j=>?_),?_⟩
 ·by_cases e:i=k
  ·subst e
   rw [if_pos rfl,qja (by omega) (by rw [h.pt i hi'];rfl) hX]
   rfl
  ·rw [if_neg e]
   exact qdd (by omega) (by omega) hX
 ·rw [HO]
  by_cases e:a=i0/\b=j0
  ·obtain ⟨rfl,rfl⟩:=e
   rw [if_pos ⟨rfl,rfl⟩]
   exact qi9 (by omega) (by rw [h.op a b ha' hb'];rfl) hX
  ·rw [if_neg e,<- h.op a b ha' hb']
   exact qdd (by omega) (by omega) hX
 ·rw [qcc (by simpa [World.setCell] using hX),World.frozen?_setCell,World.frozen?_setCell]
  exact h.fr j
 ·exact ((qac.of_set (P:=fun b=>b=X) w (a:=⟨X,_,none⟩) rfl _).trans (qac.of_set (P:=fun b=>b=X) _ (a:=⟨X,_,none⟩) rfl _)).trans (qac.of_below (zT _ _))
theorem HisQ.put1 {w:World} {X:Nat} {ha:Option Addr} {hc:Nat} {y:Hs} {d:Nat->Nat} {k:Nat} {o:Obj} (h:HisQ w X ha hc y d) (hk:k<4) (HO:∀ a b,y.opn (up d k) a b=y.opn d a b):
  HisQ ((w.setCell ⟨X,1+k,none⟩ (.int .i64 ((d k:Int)+1))).alloc o) X ha hc y (up d k)/\qac (fun b=>b=X) w ((w.setCell ⟨X,1+k,none⟩ (.int .i64 ((d k:Int)+1))).alloc o):=by
 have hX:=h.lt
 have ho:∀ m,m≠1+k->((w.setCell ⟨X,1+k,none⟩ (.int .i64 ((d k:Int)+1))).alloc o).cell? ⟨X,m,none⟩=w.cell? ⟨X,m,none⟩:=fun m hm=>by
  rw [World.cell?_alloc_lt _ _ _ (by simpa [World.setCell] using hX),World.cell?_setCell_other _ _ _ _ (by intro e;injection e with _ e;exact hm e.symm)]
 refine ⟨h.put (k:=k) (ho 0 (by omega)) (fun i hi'=>?_) (fun a b ha' hb'=>?_) (fun j=>?_),?_⟩
 ·by_cases e:i=k
  ·subst e
   rw [if_pos rfl,World.cell?_alloc_lt _ _ _ (by simpa [World.setCell] using hX),World.cell?_setCell_same' _ _ _ (by rw [h.pt i hi'];rfl)]
   rfl
  ·rw [if_neg e]
   exact ho _ (by omega)
 ·rw [HO,<- h.op a b ha' hb']
  exact ho _ (by omega)
 ·rw [qcc (by simpa [World.setCell] using hX),World.frozen?_setCell]
  exact h.fr j
 ·exact (qac.of_set (P:=fun b=>b=X) w (a:=⟨X,_,none⟩) rfl _).trans (qac.of_below (zT _ _))
theorem HisQ.dr {w:World} {X:Nat} {ha:Option Addr} {hc:Nat} {y:Hs} {d:Nat->Nat} (h:HisQ w X ha hc y d):HisQ w.drew X ha hc y d:=⟨h.c4,h.pt,h.op,h.fr⟩
theorem qvr (X:Nat) (ha:Option Addr) (hc:Nat) (hA:Nat->Option Addr) (hC:Nat->Nat) (y:Hs) (d:Nat->Nat) (k:Nat) (w:World) (hE:HisE w ha hA hC y) (hP:HisQ w X ha hc y d) (h4:y.n<=4) (hk:k<y.n) (hp:y.Peers) (hl:∀ i,i<y.n->y.l i<=200) (hd:∀ i,d i<=y.l i) (hlt:d k<y.l k):
  Calls Tryz.prog 159 #[.pointer (some ⟨X,0,none⟩),.int .i64 k] w fun e w'=>e=.returned (.tuple #[])/\HisQ w' X ha hc y (up d k)/\qac (fun b=>b=X) w w':=by
 have HP:Hid (HisQ w X ha hc y d):=hP
 have hk4:(k:Int)<4:=by omega
 have hk':(k:Int)<(y.n:Int):=by omega
 have hl200:(y.l k:Int)<=200:=by have:=hl k hk;omega
 have hlt':(d k:Int)<(y.l k:Int):=by omega
 obtain ⟨bh,oh,eh,ch⟩:=hE.row.at hk
 obtain ⟨c4,pt,op,fr⟩:=hP
 have pk:=pt k (by omega)
 rw [eh] at c4
 obtain ⟨b,off,ea,zb,e0,e1,e2⟩:=(hE.ev k hk).at hlt
 rw [ea] at ch
 have n1:w.heap.size≠X:=by have:=HP.out.lt;omega
 have n2:w.heap.size≠b:=by omega
 have n3:w.heap.size≠bh:=by have:=zJ w _ ch;simp at this;omega
 have zX:X<w.heap.size:=HP.out.lt
 have hq:=hp k hk (d k) hlt
 obtain ⟨q,hqe⟩:∃ q:Nat,(y.e k (d k)).q=(q:Int):=⟨(y.e k (d k)).q.toNat,by omega⟩
 have hq4:(q:Int)<4:=by omega
 have hqn:q<y.n:=by omega
 rw [hqe] at e1
 have c4':=qaa c4
 have pk':=qaa pk
 have ch':=qaa ch
 have e0':=qaa e0
 have e1':=qaa e1
 have e2':=qaa e2
 have fr':∀ j,w.frozen? ⟨X,j,none⟩=false:=fr
 rcases zK ((y.e k (d k)).k == 2) with t | t
 ·have hk2:(y.e k (d k)).k=2:=by simpa using t
  have oq:=op k q (by omega) (by omega)
  obtain ⟨o1,o2⟩:=Hs.opn_le hd hl hk hqn
  have oq':=qaa oq
  rw [hk2] at e0 e0'
  have HO:Hid (∀ a b,y.opn (up d k) a b=if a=k/\b=q then y.opn d k q+1 else y.opn d a b):=fun a b=>by
   rw [Hs.opn_up,hk2,hqe]
   by_cases e:a=k/\b=q
   ·obtain ⟨rfl,rfl⟩:=e
    simp
   ·rw [if_neg e,if_neg (fun h=>e ⟨h.1,by omega⟩),if_neg (fun h=>absurd h.2.1 (by decide))]
    omega
  clear op pt t hk2 hq hqe hp hE eh ea
  generalize (y.e k (d k)).v=vd at *
  generalize y.opn d k q=on at *
  go_enter Tryz.func159,Tryz.ntmps159
  go_wp2_with fail
  go_region
  all_goals
   go_wp2_with fail
   go_region
   all_goals
    go_wp2_with fail
    go_region
    all_goals
     go_wp2_with fail
     go_end0
     have hz:=HP.out.put2 (o:=oQ0 2 q vd) (show k<4 by omega) (show k<4 by omega) (show q<4 by omega) HO.out
     exact ⟨rfl,hz.1.dr.dr.dr,hz.2.dr.dr.dr⟩
 rcases zK ((y.e k (d k)).k == 3) with t3 | t3
 ·have hk3:(y.e k (d k)).k=3:=by simpa using t3
  have oq:=op q k (by omega) (by omega)
  obtain ⟨o1,o2⟩:=Hs.opn_le hd hl hqn hk
  have oq':=qaa oq
  rw [hk3] at e0 e0'
  have HO:Hid (∀ a b,y.opn (up d k) a b=if a=q/\b=k then y.opn d q k - 1 else y.opn d a b):=fun a b=>by
   rw [Hs.opn_up,hk3,hqe]
   by_cases e:a=q/\b=k
   ·obtain ⟨rfl,rfl⟩:=e
    simp
   ·rw [if_neg e,if_neg (fun h=>absurd h.2.1 (by decide)),if_neg (fun h=>e ⟨by omega,h.1⟩)]
    omega
  clear op pt t t3 hk3 hq hqe hp hE eh ea
  generalize (y.e k (d k)).v=vd at *
  generalize y.opn d q k=on at *
  go_enter Tryz.func159,Tryz.ntmps159
  go_wp2_with fail
  go_region
  all_goals
   go_wp2_with fail
   go_region
   all_goals
    go_wp2_with fail
    go_region
    all_goals
     go_wp2_with fail
     go_end0
     have hz:=HP.out.put2 (o:=oQ0 3 q vd) (show k<4 by omega) (show q<4 by omega) (show k<4 by omega) HO.out
     exact ⟨rfl,hz.1.dr.dr.dr,hz.2.dr.dr.dr⟩
 ·have HO:Hid (∀ a b,y.opn (up d k) a b=y.opn d a b):=fun a b=>by
   have t2:(y.e k (d k)).k≠2:=by simpa using t
   have t3':(y.e k (d k)).k≠3:=by simpa using t3
   rw [Hs.opn_up,if_neg (fun h=>t2 h.2.1),if_neg (fun h=>t3' h.2.1)]
   omega
  clear op pt hq hqe hp hE eh ea
  generalize (y.e k (d k)).v=vd at *
  generalize (y.e k (d k)).k=kd at *
  go_enter Tryz.func159,Tryz.ntmps159
  go_wp2_with fail
  go_region
  all_goals
   go_wp2_with fail
   go_region
   all_goals
    go_wp2_with fail
    go_end0
    have hz:=HP.out.put1 (o:=oQ0 kd q vd) (show k<4 by omega) HO.out
    exact ⟨rfl,hz.1.dr.dr,hz.2.dr.dr⟩
open Go.Maps
def kS (p i:Int):Lit:=.string (keyBytes [.int .i64 p,.int .i64 i])
theorem qvv (a b c d:Int) (w:World):(Instr.index 95 (.agg #[.int .i64 a,.int .i64 b,.int .i64 c,.int .i64 d]) (.int .i64 0)).run Tryz.prog w=.ok (.int .i64 a) w:=by kernel_rfl
theorem qvw (a b c d:Int) (w:World):(Instr.index 95 (.agg #[.int .i64 a,.int .i64 b,.int .i64 c,.int .i64 d]) (.int .i64 1)).run Tryz.prog w=.ok (.int .i64 b) w:=by kernel_rfl
theorem qvx (a b c d:Int) (w:World):(Instr.index 95 (.agg #[.int .i64 a,.int .i64 b,.int .i64 c,.int .i64 d]) (.int .i64 2)).run Tryz.prog w=.ok (.int .i64 c) w:=by kernel_rfl
theorem qvy (a b c d:Int) (w:World):(Instr.index 95 (.agg #[.int .i64 a,.int .i64 b,.int .i64 c,.int .i64 d]) (.int .i64 3)).run Tryz.prog w=.ok (.int .i64 d) w:=by kernel_rfl
section
attribute [local go_sem] qvv qvw qvx qvy
def hisZ (ha:Option Addr) (hn hc:Nat):List Value:=[.slice ha hn hc,.int .i64 0,.int .i64 0,.int .i64 0,.int .i64 0,.int .i64 0,.int .i64 0,.int .i64 0,.int .i64 0,.int .i64 0,.int .i64 0,.int .i64 0,.int .i64 0,.int .i64 0,.int .i64 0,.int .i64 0,.int .i64 0,.int .i64 0,.int .i64 0,.int .i64 0,.int .i64 0]
theorem qve (ha:Option Addr) (hn hc:Nat):(hisZ ha hn hc).length=21:=rfl
theorem qvf (ha:Option Addr) (hn hc:Nat):∀ v ∈ hisZ ha hn hc,v.oneCell'=true:=by
 intro v hv
 simp only [hisZ,List.mem_cons,List.not_mem_nil,or_false] at hv
 rcases hv with rfl | rfl | rfl | rfl | rfl | rfl | rfl | rfl | rfl | rfl | rfl | rfl | rfl | rfl | rfl | rfl | rfl | rfl | rfl | rfl | rfl <;> rfl
theorem qyc:(Tryz.prog.info? 98).map (·.size)=some 21:=by kernel_rfl
theorem HisQ.of_range {w:World} {X:Nat} {x:SysIn} (h:w.rangeAt X 0 (hisZ x.ha x.hn x.hc)) (hn:x.hn=x.pn) (hf:∀ j,w.frozen? ⟨X,j,none⟩=false):HisQ w X x.ha x.hc x.y.hs (fun _=>0):=by
 have hz:∀ j,j<20->w.cell? ⟨X,1+j,none⟩=some (.int .i64 0):=fun j hj=>by
  have h1:(hisZ x.ha x.hn x.hc)[1+j]? = some (.int .i64 0):=by
   match j,hj with
   | 0,_=>rfl
   | 1,_=>rfl
   | 2,_=>rfl
   | 3,_=>rfl
   | 4,_=>rfl
   | 5,_=>rfl
   | 6,_=>rfl
   | 7,_=>rfl
   | 8,_=>rfl
   | 9,_=>rfl
   | 10,_=>rfl
   | 11,_=>rfl
   | 12,_=>rfl
   | 13,_=>rfl
   | 14,_=>rfl
   | 15,_=>rfl
   | 16,_=>rfl
   | 17,_=>rfl
   | 18,_=>rfl
   | 19,_=>rfl
   | n+20,h=>exact absurd h (by omega)
  have:=h (1+j) _ h1
  rwa [Nat.zero_add] at this
 refine ⟨?_,fun i hi=>hz i (by omega),fun a b ha hb=>?_,hf⟩
 ·have:=h 0 _ rfl
  show w.cell? ⟨X,0,none⟩=some (.slice x.ha x.pn x.hc)
  rw [<- hn]
  exact this
 ·rw [Hs.opn_start,show 5+a*4+b=1+(4+a*4+b) by omega]
  exact hz _ (by omega)
theorem BoxC.blkK {w w':World} {N:Nat} {p vr vo code:Value} (h:BoxC w N p vr vo code) (hb:w'.heap[N]? = w.heap[N]?):BoxC w' N p vr vo code:=by
 obtain ⟨h0,h1,h2,h3⟩:=h
 exact ⟨(zH hb).trans h0,(zH hb).trans h1,(zH hb).trans h2,(zH hb).trans h3⟩
def BoxS (w:World) (N:Nat) (a b:Value):Prop:=w.cell? ⟨N,0,none⟩=some a/\w.cell? ⟨N,1,none⟩=some b
theorem BoxS.lt {w:World} {N:Nat} {a b:Value} (h:BoxS w N a b):N<w.heap.size:=zJ w _ h.1
theorem BoxS.blk {w w':World} {N:Nat} {a b:Value} (h:BoxS w N a b) (hb:w'.heap[N]? = w.heap[N]?):BoxS w' N a b:=⟨(zH hb).trans h.1,(zH hb).trans h.2⟩
theorem BoxS.below {w w':World} {N:Nat} {a b:Value} (h:BoxS w N a b) (hb:Below w.heap.size w w'):BoxS w' N a b:=h.blk (hb.block N h.lt)
theorem BoxS.new (w:World) (a b:Value) (t:TypeId):BoxS (w.alloc (.cells #[a,b] t)) w.heap.size a b:=⟨zW _ _ _ 0 rfl,zW _ _ _ 1 rfl⟩
def tnD (f:Nat->Nat):Nat->Nat->Nat
 | 0=>fun _=>0
 | k+1=>up (tnD f k) (f k)
theorem qqu (f:Nat->Nat) (k:Nat):tnD f (k+1)=up (tnD f k) (f k):=rfl
def rwF (h:Nat->Wo2) (k:Nat):Nat:=(h k).m.toNat
def Hs.RwAt (y:Hs) (h:Nat->Wo2) (k:Nat):Prop:=∃ p,p<y.n/\(h k).m=(p:Nat)/\(h k).v=(tnD (rwF h) k p:Nat)/\y.Can (tnD (rwF h) k) p
def Hs.RwOk (y:Hs) (h:Nat->Wo2) (n:Nat):Prop:=(∀ k,k<n->y.RwAt h k)/\y.All (tnD (rwF h) n)
theorem Hs.rw_put {y:Hs} {h:Nat->Wo2}:∀ {k:Nat},(∀ j,j<k->y.RwAt h j)->y.Put (tnD (rwF h) k)
 | 0,_=>.start
 | k+1,hh=>by
  obtain ⟨p,hp,e1,e2,e3⟩:=hh k (Nat.lt_succ_self _)
  have ep:rwF h k=p:=by rw [rwF,e1];exact Int.toNat_natCast p
  rw [qqu,ep]
  exact .next (Hs.rw_put fun j hj=>hh j (Nat.lt_succ_of_lt hj)) hp e3
theorem Hs.rw_hit {y:Hs} {h:Nat->Wo2} {k p:Nat} (hp:p<y.n) (e1:(h k).m=(p:Nat)) (e2:(h k).v=(tnD (rwF h) k p:Nat)) (hc:y.Can (tnD (rwF h) k) p):y.RwAt h k/\tnD (rwF h) (k+1)=up (tnD (rwF h) k) p:=by
 refine ⟨⟨p,hp,e1,e2,hc⟩,?_⟩
 have ep:rwF h k=p:=by rw [rwF,e1];exact Int.toNat_natCast p
 rw [qqu,ep]
theorem Hs.rw_no {y:Hs} {h:Nat->Wo2} {k n:Nat} (hk:k<n) (hn:¬ y.RwAt h k):¬ y.RwOk h n:=fun hh=>hn (hh.1 k hk)
noncomputable def rwB (y:Sy) (h:Nat->Wo2) (n:Nat):Bool:=y.okB && qB (y.hs.RwOk h n)
def Hs.Least (y:Hs) (d:Nat->Nat) (p:Nat):Prop:=p<y.n/\y.Can d p/\∀ j,j<p->¬ y.Can d j
theorem Hs.Least.one {y:Hs} {d:Nat->Nat} {p q:Nat} (h:y.Least d p) (h':y.Least d q):p=q:=by
 rcases Nat.lt_trichotomy p q with e | e | e
 ·exact absurd h.2.1 (h'.2.2 p e)
 ·exact e
 ·exact absurd h'.2.1 (h.2.2 q e)
open Classical in
noncomputable def Hs.lst (y:Hs) (d:Nat->Nat):Nat:=if h:∃ p,y.Least d p then h.choose else 0
theorem Hs.Least.lst {y:Hs} {d:Nat->Nat} {p:Nat} (h:y.Least d p):y.lst d=p:=by
 unfold Hs.lst
 have he:∃ p,y.Least d p:=⟨p,h⟩
 rw [dif_pos he]
 exact he.choose_spec.one h
noncomputable def Hs.gr (y:Hs):Nat->Nat->Nat
 | 0=>fun _=>0
 | k+1=>up (y.gr k) (y.lst (y.gr k))
noncomputable def Hs.gf (y:Hs) (k:Nat):Nat:=y.lst (y.gr k)
