import Derived.Test.YtkdablcbhhphoaaGreatDoorMt9
import Derived.Laws.EntriesVeiled
namespace Go.Proofs.YtkdablcbhhphoaaGreatDoor
open Go.Proofs.Tryz
set_option maxRecDepth 100000
set_option maxHeartbeats 2000000
open Go.RowKit Go.Deep
theorem qq3 (b off len cap:Nat) (g:Nat->I5) (w:World) (hlen:len<=1048576) (hb:b<w.heap.size) (hc:qao w b off len g):
  Calls prog 126 #[.slice (some ⟨b,off,none⟩) len cap] w fun e w'=>e=.returned (sG w.heap.size len len)/\qao w' w.heap.size 0 len g/\w.heap.size<w'.heap.size/\Below w.heap.size w w'/\∀ j,w'.frozen? ⟨w.heap.size,j,none⟩=false:=by
 have hl':(len:Int)<=1048576:=by omega
 have hmk:=qhg len hlen;have HC:Hid (qao w b off len g):=hc;clear hc
 go_enter func126,ntmps126
 go_wp2_with fail
 clear hmk
 go_loopw [4] (fun i wr=>∃ k:Nat,k<=len/\i=.int .i64 k/\(∃ f,wr.rowIs w.heap.size 184 (len*5) f/\Hid (qh7 f g k))/\Below w.heap.size w wr) (fun i _=>len - (intOf i).toNat)
 case atStart=>exact ⟨0,nD _,rfl,⟨_,qqe w len,fun i hi=>by omega⟩,(nE _ _).alloc (nA _) _⟩
 case round=>
  obtain ⟨k,hk,rfl,⟨f,hrow,HF⟩,hbw⟩:=hrel;have hs:=hrow.lt;by_cases hlt:k<len
  ·obtain ⟨c0,c1,c2,c3,c4⟩:=HC.bw hbw hb k hlt
   have HR:Hid (wr.rowIs w.heap.size 184 (len*5) f):=hrow;clear hrow;go_wp2_with fail
   refine (qv3 _ _ _ _ _ _).mono ?_;rintro e w1 ⟨rfl,hb1⟩;have hr1:w1.rowIs w.heap.size 184 (len*5) f:=HR.of_block (hb1.block _ hs);have f0:=hr1.frozen (k*5);have f1:=hr1.frozen (k*5+1);have f2:=hr1.frozen (k*5+2);have f3:=hr1.frozen (k*5+3);have f4:=hr1.frozen (k*5+4);have g0:=hr1.cell (i:=k*5) (by omega);have g1:=hr1.cell (i:=k*5+1) (by omega);have g2:=hr1.cell (i:=k*5+2) (by omega);have g3:=hr1.cell (i:=k*5+3) (by omega);have g4:=hr1.cell (i:=k*5+4) (by omega);have HR1:Hid (w1.rowIs w.heap.size 184 (len*5) f):=hr1;clear hr1;go_wp2_with fail
   exact ⟨⟨k+1,by omega,by go_num,qh7.step HR1.out HF.out,(((((hbw.trans (hb1.mono (nJ hs))).setCell (nA _) _).setCell (nA _) _).setCell (nA _) _).setCell (nA _) _).setCell (nA _) _⟩,by simp [intOf];omega⟩
  ·have hkl:k=len:=by omega
   have HI:Hid (qao wr w.heap.size 0 len g):=by
    have:=HF.at hrow hk;rw [hkl] at this;exact this
   have HZ:Hid (∀ j,wr.frozen? ⟨w.heap.size,j,none⟩=false):=fun j=>hrow.frozen j;clear hkl HF hrow;go_wp2;go_ret;exact ⟨rfl,HI.out,hs,hbw,HZ.out⟩
theorem qhu (a0:Option Addr) (cap:Nat) (g:Nat->I5) (w:World):
  Calls prog 126 #[.slice a0 0 cap] w fun e w'=>e=.returned (sG w.heap.size 0 0)/\qao w' w.heap.size 0 0 g/\w.heap.size<w'.heap.size/\Below w.heap.size w w'/\∀ j,w'.frozen? ⟨w.heap.size,j,none⟩=false:=by
 have hmk:∀ w:World,(Instr.makeSlice 144 (.int .i64 0) (.int .i64 0)).run prog w=.ok (sG w.heap.size 0 0) (w.alloc (.cells (madeCells (insV 0 0 0 0 0).cells (0*5)) 184)):=fun w=>qhg 0 (by omega) w
 go_enter func126,ntmps126
 go_wp2_with fail
 clear hmk
 go_rounds 1
 go_ret;exact ⟨rfl,fun i hi=>by omega,by simp,(nE _ _).alloc (nA _) _,fun j=>yA _ _ _ j rfl⟩
def qkc (w:World) (a0:Option Addr) (len cap:Nat) (g:Nat->I5):Prop:=∀ wx,Below w.heap.size w wx->
 Calls prog 126 #[.slice a0 len cap] wx fun e w'=>e=.returned (sG wx.heap.size len len)/\qao w' wx.heap.size 0 len g/\wx.heap.size<w'.heap.size/\Below wx.heap.size wx w'/\∀ j,w'.frozen? ⟨wx.heap.size,j,none⟩=false
theorem qss {W:World} {a0:Option Addr} {len cap:Nat} (hl:len<=1048576) (hr:len=0\/∃ b off g,a0=some ⟨b,off,none⟩/\b<W.heap.size/\qao W b off len g):∃ g,qkc W a0 len cap g:=by
 rcases hr with rfl | ⟨b,off,g,rfl,hb,hI⟩
 ·exact ⟨fun _=>⟨0,0,0,0,0⟩,fun wx _=>qhu a0 cap _ wx⟩
 ·exact ⟨g,fun wx hB=>qq3 b off len cap g wx hl (zL hb hB.size) (hI.bw hB hb)⟩
def Room (w:World) (b len:Nat):Prop:=(∀ i,i<len*5->∃ u,w.cell? ⟨b,i,none⟩=some u)/\∀ j,w.frozen? ⟨b,j,none⟩=false
theorem Room.set {w:World} {b len:Nat} (h:Room w b len) (p:Addr) (v:Value):Room (w.setCell p v) b len:=
 ⟨fun i hi=>(h.1 i hi).elim fun _ e=>cell?_setCell_some e,fun j=>by rw [World.frozen?_setCell];exact h.2 j⟩
theorem Room.of_ins {w:World} {b len:Nat} {g:Nat->I5} (h:qao w b 0 len g) (hf:∀ j,w.frozen? ⟨b,j,none⟩=false):Room w b len:=by
 refine ⟨fun i hi=>?_,hf⟩;obtain ⟨c0,c1,c2,c3,c4⟩:=h (i / 5) (by omega);simp only [nL] at c0 c1 c2 c3 c4;have hh:i=i / 5*5\/i=i / 5*5+1\/i=i / 5*5+2\/i=i / 5*5+3\/i=i / 5*5+4:=by omega
 rcases hh with e | e | e | e | e
 ·rw [e];exact ⟨_,c0⟩
 ·rw [e];exact ⟨_,c1⟩
 ·rw [e];exact ⟨_,c2⟩
 ·rw [e];exact ⟨_,c3⟩
 ·rw [e];exact ⟨_,c4⟩
theorem qnx (b len cap:Nat) (k:Int) (w:World) (hlen:len<=1048576) (k0:0<=k) (k1:k<=100000000) (h:Room w b len):
  Calls prog 151 #[.slice (some ⟨b,0,none⟩) len cap,.int .i64 k] w fun e w'=>e=.returned (.int .i64 (k+5*len))/\w.grownBy w' (some b):=by
 have hl':(len:Int)<=1048576:=by omega
 have HO:Hid (Room w b len):=h;clear h
 go_enter func151,ntmps151
 go_wp2_with fail
 go_loopw [1,5] (fun q i wr=>∃ j:Nat,j<=len/\i=.int .i64 j/\q=.int .i64 (k+5*j)/\Hid (Room wr b len/\w.grownBy wr (some b))) (fun _ i _=>len - (intOf i).toNat)
 case atStart=>exact ⟨0,nD _,rfl,by simp,HO.out,World.grownBy.refl _ _⟩
 case round=>
  clear HO;obtain ⟨j,hj,rfl,rfl,HR⟩:=hrel;by_cases hlt:j<len
  ·have hlt':(j:Int)<(len:Int):=by omega
   obtain ⟨u0,c0⟩:=HR.1.1 (j*5) (by omega);obtain ⟨u1,c1⟩:=HR.1.1 (j*5+1) (by omega);obtain ⟨u2,c2⟩:=HR.1.1 (j*5+2) (by omega);obtain ⟨u3,c3⟩:=HR.1.1 (j*5+3) (by omega);obtain ⟨u4,c4⟩:=HR.1.1 (j*5+4) (by omega);have fz:=HR.1.2;go_wp2;go_roundw
   case rel=>
    refine ⟨j+1,by omega,by go_num,by go_num,?_⟩;refine ⟨?_,?_⟩
    ·repeat (refine Room.set ?_ _ _)
     exact HR.1
    ·repeat (refine zU ?_ (.inl rfl) _)
     exact HR.2
   case measure=>simp [intOf];omega
  ·have hlt':¬ (j:Int)<(len:Int):=by omega
   have HF:Hid (w.grownBy wr (some b)):=HR.2;have hjl:(j:Int)=len:=by omega
   have HJ:Hid ((j:Int)=len):=hjl;clear HR hjl;go_wp2;go_ret;exact ⟨qfc (by rw [HJ.out]),HF.out⟩
open Go.ChangeShapes Go.WideShapes Go.ChangeAt
structure E3 where
 k:Int
 q:Int
 v:Int
def EvAt (w:World) (b off len:Nat) (h:Nat->E3):Prop:=∀ i,i<len->
 w.cell? ⟨b,off+i*3,none⟩=some (.int .i64 (h i).k)/\w.cell? ⟨b,off+i*3+1,none⟩=some (.int .i64 (h i).q)/\w.cell? ⟨b,off+i*3+2,none⟩=some (.int .i64 (h i).v)
theorem EvAt.bw {w w':World} {B b off len:Nat} {h:Nat->E3} (hh:EvAt w b off len h) (hb:Below B w w') (hB:b<B):EvAt w' b off len h:=by
 intro i hi;obtain ⟨h0,h1,h2⟩:=hh i hi;exact ⟨(hb.cell hB).trans h0,(hb.cell hB).trans h1,(hb.cell hB).trans h2⟩
theorem qy8:(prog.info? 86).map (fun i=>(i.zero,i.size,i.bytes))=some (some (evV 0 0 0),3,24):=by kernel_rfl
theorem qiy (n:Nat) (hn:n<=1048576) (w:World):
  (Instr.makeSlice 87 (.int .i64 (n:Int)) (.int .i64 (n:Int))).run prog w=.ok (sG w.heap.size n n) (w.alloc (.cells (madeCells (evV 0 0 0).cells (n*3)) 86)):=by
 have hinfo:=qy8;cases hi:prog.info? 86 with
 | none=>rw [hi] at hinfo;cases hinfo
 | some i=>
  rw [hi] at hinfo;simp only [Option.map_some,nG,Prod.mk.injEq] at hinfo;obtain ⟨hz,hs,hb⟩:=hinfo;have h:=run_make (P:=prog) w 87 86 i _ Tryz.underlying87 hi hz .i64 .i64 (n:Int) (n:Int) (by omega) (Int.le_refl _) (by rw [hb];omega) (by omega);rw [hs] at h;simpa using h
theorem qtg (w:World) (n:Nat):(w.alloc (.cells (madeCells (evV 0 0 0).cells (n*3)) 86)).rowIs w.heap.size 86 (n*3) (fun _=>.int .i64 0):=by
 refine ⟨_,blk_alloc_new _ _,size_madeCells _ _,fun i hi=>?_⟩;have h3:i % 3<3:=Nat.mod_lt _ (by omega)
 have:∀ j,j<3->(#[Value.int .i64 0,.int .i64 0,.int .i64 0]:Array Value)[j]! = .int .i64 0:=by
  intro j hj
  match j,hj with
  | 0,_=>rfl
  | 1,_=>rfl
  | 2,_=>rfl
 simp only [madeCells,Value.cells];rw [Array.getElem?_map,Array.getElem?_range,nC hi];exact congrArg some (this (i % 3) h3)
def qe1 (f:Nat->Value) (h:Nat->E3) (k:Nat):Prop:=∀ i,i<k->
 f (i*3)=.int .i64 (h i).k/\f (i*3+1)=.int .i64 (h i).q/\f (i*3+2)=.int .i64 (h i).v
theorem qe1.at {w:World} {b:Nat} {t:TypeId} {len k:Nat} {f:Nat->Value} {h:Nat->E3} (hh:qe1 f h k) (hr:w.rowIs b t (len*3) f) (hk:k<=len):EvAt w b 0 k h:=by
 intro i hi;obtain ⟨h0,h1,h2⟩:=hh i hi;refine ⟨?_,?_,?_⟩
 ·rw [hr.cell (by omega),nL,h0]
 ·rw [hr.cell (by omega),nL,h1]
 ·rw [hr.cell (by omega),nL,h2]
theorem qe1.step {w:World} {b:Nat} {t:TypeId} {len k:Nat} {f:Nat->Value} {h:Nat->E3} (hr:w.rowIs b t (len*3) f) (hh:qe1 f h k):
  ∃ f',(((w.setCell ⟨b,k*3,none⟩ (.int .i64 (h k).k)).setCell ⟨b,k*3+1,none⟩ (.int .i64 (h k).q)).setCell ⟨b,k*3+2,none⟩ (.int .i64 (h k).v)).rowIs b t (len*3) f'/\qe1 f' h (k+1):=by
 refine ⟨_,((hr.set _ _).set _ _).set _ _,fun i hi=>?_⟩;by_cases hik:i=k
 ·subst hik
  simp
 ·have hlt:i<k:=by omega
  obtain ⟨h0,h1,h2⟩:=hh i hlt;refine ⟨?_,?_,?_⟩
  ·rw [nB (by omega),nB (by omega),nB (by omega)];exact h0
  ·rw [nB (by omega),nB (by omega),nB (by omega)];exact h1
  ·rw [nB (by omega),nB (by omega),nB (by omega)];exact h2
theorem qey (a0:Option Addr) (len cap:Nat) (L:Int) (w:World) (h:(len:Int)<=L) (hL:L<=1048576):
  Calls prog 119 #[.slice a0 len cap,.int .i64 L] w fun e w'=>e=.returned (.int .i64 (L - (len:Int)))/\w'=w:=by
 have h1:(len:Int)<=1048576:=by omega
 have h2:0<=L:=by omega
 have h3:¬ (L - (len:Int)<0):=by omega
 go_enter func119,ntmps119
 go_wp2;go_ret;exact ⟨rfl,rfl⟩
theorem qjx (a0:Option Addr) (len cap:Nat) (L:Int) (w:World) (h:L<(len:Int)) (h0:0<=L) (hL:L<=1048576) (hm:len<=maxLen):
  Calls prog 119 #[.slice a0 len cap,.int .i64 L] w fun e w'=>e=.returned (.int .i64 (-1))/\w'=w:=by
 unfold maxLen at hm;have h2:(len:Int)<=9223372036854775807:=by omega
 have h3:L - (len:Int)<0:=by omega
 go_enter func119,ntmps119
 go_wp2;go_ret;exact ⟨rfl,rfl⟩
theorem qmc (b off len cap:Nat) (h:Nat->E3) (w:World) (hlen:len<=1048576) (hb:b<w.heap.size) (hc:EvAt w b off len h):
  Calls prog 129 #[.slice (some ⟨b,off,none⟩) len cap] w fun e w'=>e=.returned (sG w.heap.size len len)/\EvAt w' w.heap.size 0 len h/\w.heap.size<w'.heap.size/\Below w.heap.size w w'/\∀ j,w'.frozen? ⟨w.heap.size,j,none⟩=false:=by
 have hl':(len:Int)<=1048576:=by omega
 have hmk:=qiy len hlen;have HC:Hid (EvAt w b off len h):=hc;clear hc
 go_enter func129,ntmps129
 go_wp2_with fail
 clear hmk
 go_loopw [4] (fun i wr=>∃ k:Nat,k<=len/\i=.int .i64 k/\(∃ f,wr.rowIs w.heap.size 86 (len*3) f/\Hid (qe1 f h k))/\Below w.heap.size w wr) (fun i _=>len - (intOf i).toNat)
 case atStart=>exact ⟨0,nD _,rfl,⟨_,qtg w len,fun i hi=>by omega⟩,(nE _ _).alloc (nA _) _⟩
 case round=>
  obtain ⟨k,hk,rfl,⟨f,hrow,HF⟩,hbw⟩:=hrel;have hs:=hrow.lt;by_cases hlt:k<len
  ·obtain ⟨c0,c1,c2⟩:=HC.bw hbw hb k hlt
   have HR:Hid (wr.rowIs w.heap.size 86 (len*3) f):=hrow;clear hrow;go_wp2_with fail
   refine (qq1 _ _ _ _).mono ?_;rintro e w1 ⟨rfl,hb1⟩;have hr1:w1.rowIs w.heap.size 86 (len*3) f:=HR.of_block (hb1.block _ hs);have f0:=hr1.frozen (k*3);have f1:=hr1.frozen (k*3+1);have f2:=hr1.frozen (k*3+2);have g0:=hr1.cell (i:=k*3) (by omega);have g1:=hr1.cell (i:=k*3+1) (by omega);have g2:=hr1.cell (i:=k*3+2) (by omega);have HR1:Hid (w1.rowIs w.heap.size 86 (len*3) f):=hr1;clear hr1;go_wp2_with fail
   exact ⟨⟨k+1,by omega,by go_num,qe1.step HR1.out HF.out,(((hbw.trans (hb1.mono (nJ hs))).setCell (nA _) _).setCell (nA _) _).setCell (nA _) _⟩,by simp [intOf];omega⟩
  ·have hkl:k=len:=by omega
   have HI:Hid (EvAt wr w.heap.size 0 len h):=by
    have:=HF.at hrow hk;rw [hkl] at this;exact this
   have HZ:Hid (∀ j,wr.frozen? ⟨w.heap.size,j,none⟩=false):=fun j=>hrow.frozen j;clear hkl HF hrow;go_wp2;go_ret;exact ⟨rfl,HI.out,hs,hbw,HZ.out⟩
theorem qgb (a0:Option Addr) (cap:Nat) (h:Nat->E3) (w:World):
  Calls prog 129 #[.slice a0 0 cap] w fun e w'=>e=.returned (sG w.heap.size 0 0)/\EvAt w' w.heap.size 0 0 h/\w.heap.size<w'.heap.size/\Below w.heap.size w w'/\∀ j,w'.frozen? ⟨w.heap.size,j,none⟩=false:=by
 have hmk:∀ w:World,(Instr.makeSlice 87 (.int .i64 0) (.int .i64 0)).run prog w=.ok (sG w.heap.size 0 0) (w.alloc (.cells (madeCells (evV 0 0 0).cells (0*3)) 86)):=fun w=>qiy 0 (by omega) w
 go_enter func129,ntmps129
 go_wp2_with fail
 clear hmk
 go_rounds 1
 go_ret;exact ⟨rfl,fun i hi=>by omega,by simp,(nE _ _).alloc (nA _) _,fun j=>yA _ _ _ j rfl⟩
def qkb (w:World) (a0:Option Addr) (len cap:Nat) (h:Nat->E3):Prop:=∀ wx,Below w.heap.size w wx->
 Calls prog 129 #[.slice a0 len cap] wx fun e w'=>e=.returned (sG wx.heap.size len len)/\EvAt w' wx.heap.size 0 len h/\wx.heap.size<w'.heap.size/\Below wx.heap.size wx w'/\∀ j,w'.frozen? ⟨wx.heap.size,j,none⟩=false
theorem qsr {W:World} {a0:Option Addr} {len cap:Nat} (hl:len<=1048576) (hr:len=0\/∃ b off h,a0=some ⟨b,off,none⟩/\b<W.heap.size/\EvAt W b off len h):∃ h,qkb W a0 len cap h:=by
 rcases hr with rfl | ⟨b,off,h,rfl,hb,hI⟩
 ·exact ⟨fun _=>⟨0,0,0⟩,fun wx _=>qgb a0 cap _ wx⟩
 ·exact ⟨h,fun wx hB=>qmc b off len cap h wx hl (zL hb hB.size) (hI.bw hB hb)⟩
theorem qfn (b1 b2 len c1 c2:Nat) (h:Nat->E3) (w:World) (hlen:len<=1048576) (hb1:b1<w.heap.size) (hb2:b2<w.heap.size) (hc1:EvAt w b1 0 len h) (hc2:EvAt w b2 0 len h):
  Calls prog 150 #[.slice (some ⟨b1,0,none⟩) len c1,.slice (some ⟨b2,0,none⟩) len c2] w (rB w (.bool true)):=by
 have hl':(len:Int)<=1048576:=by omega
 have HC1:Hid (EvAt w b1 0 len h):=hc1;have HC2:Hid (EvAt w b2 0 len h):=hc2;clear hc1 hc2
 go_enter func150,ntmps150
 go_wp2_with fail
 go_loopw [5] (fun i wr=>∃ k:Nat,k<=len/\i=.int .i64 k/\Below w.heap.size w wr) (fun i _=>len - (intOf i).toNat)
 case atStart=>exact ⟨0,nD _,rfl,nE _ _⟩
 case round=>
  obtain ⟨k,hk,rfl,hbw⟩:=hrel;have hs:=hbw.size;by_cases hlt:k<len
  ·obtain ⟨c0,c1,c2⟩:=HC1.bw hbw hb1 k hlt
   obtain ⟨d0,d1,d2⟩:=HC2.bw hbw hb2 k hlt;have hlt':(k:Int)<(len:Int):=by omega
   rw [nL] at c0 c1 c2 d0 d1 d2;go_wp2_with fail
   first|(go_region_with (go_at_call 207;refine (qm7 _ _ _ _).mono ?_;rintro e w1 ⟨rfl,hq1⟩)) | fail
   all_goals
    go_wp2;go_roundw
    case rel=>exact ⟨k+1,by omega,by go_num,hbw.drew.trans (hq1.mono hs)⟩
    case measure=>simp [intOf];omega
  ·go_wp2
   go_ret;exact ⟨rfl,hbw⟩
def qhj (w:World) (b len:Nat):Prop:=(∀ i,i<len*3->∃ u,w.cell? ⟨b,i,none⟩=some u)/\∀ j,w.frozen? ⟨b,j,none⟩=false
theorem qhj.set {w:World} {b len:Nat} (h:qhj w b len) (p:Addr) (v:Value):qhj (w.setCell p v) b len:=
 ⟨fun i hi=>(h.1 i hi).elim fun _ e=>cell?_setCell_some e,fun j=>by rw [World.frozen?_setCell];exact h.2 j⟩
theorem qhj.of_ev {w:World} {b len:Nat} {h:Nat->E3} (hh:EvAt w b 0 len h) (hf:∀ j,w.frozen? ⟨b,j,none⟩=false):qhj w b len:=by
 refine ⟨fun i hi=>?_,hf⟩;obtain ⟨c0,c1,c2⟩:=hh (i / 3) (by omega);simp only [nL] at c0 c1 c2;have he:i=i / 3*3\/i=i / 3*3+1\/i=i / 3*3+2:=by omega
 rcases he with e | e | e
 ·rw [e];exact ⟨_,c0⟩
 ·rw [e];exact ⟨_,c1⟩
 ·rw [e];exact ⟨_,c2⟩
theorem qjn (b len cap:Nat) (k:Int) (w:World) (hlen:len<=1048576) (k0:0<=k) (k1:k<=100000000) (h:qhj w b len):
  Calls prog 153 #[.slice (some ⟨b,0,none⟩) len cap,.int .i64 k] w fun e w'=>e=.returned (.int .i64 (k+3*len))/\w.grownBy w' (some b):=by
 have hl':(len:Int)<=1048576:=by omega
 have HO:Hid (qhj w b len):=h;clear h
 go_enter func153,ntmps153
 go_wp2_with fail
 go_loopw [1,5] (fun q i wr=>∃ j:Nat,j<=len/\i=.int .i64 j/\q=.int .i64 (k+3*j)/\Hid (qhj wr b len/\w.grownBy wr (some b))) (fun _ i _=>len - (intOf i).toNat)
 case atStart=>exact ⟨0,nD _,rfl,by simp,HO.out,World.grownBy.refl _ _⟩
 case round=>
  clear HO;obtain ⟨j,hj,rfl,rfl,HR⟩:=hrel;by_cases hlt:j<len
  ·have hlt':(j:Int)<(len:Int):=by omega
   obtain ⟨u0,c0⟩:=HR.1.1 (j*3) (by omega);obtain ⟨u1,c1⟩:=HR.1.1 (j*3+1) (by omega);obtain ⟨u2,c2⟩:=HR.1.1 (j*3+2) (by omega);have fz:=HR.1.2;go_wp2;go_roundw
   case rel=>
    refine ⟨j+1,by omega,by go_num,by go_num,?_⟩;refine ⟨?_,?_⟩
    ·repeat (refine qhj.set ?_ _ _)
     exact HR.1
    ·repeat (refine zU ?_ (.inl rfl) _)
     exact HR.2
   case measure=>simp [intOf];omega
  ·have hlt':¬ (j:Int)<(len:Int):=by omega
   have HF:Hid (w.grownBy wr (some b)):=HR.2;have hjl:(j:Int)=len:=by omega
   have HJ:Hid ((j:Int)=len):=hjl;clear HR hjl;go_wp2;go_ret;exact ⟨qfc (by rw [HJ.out]),HF.out⟩
theorem qso:prog.cellsOf 228=3:=by kernel_rfl
theorem qn6 {H:Type} {enc:TypeId × Value->H} {w:World} {base fuel:Nat} {spare:Nat->Bool} {held:Bool} {c0 c1 c2:Value} {x:DataW H × List MemPlace}
  (hf:DataW.trod enc prog w base spare held fuel 228 [c0,c1,c2]=some x):
  ∃ k q v:Int,c0=.int .i64 k/\c1=.int .i64 q/\c2=.int .i64 v:=by
 obtain ⟨xs,m,-,-,-,hl,hx⟩:=DataW.trod_struct Tryz.underlying228 hf;have hl:xs.length=3:=hl;have q0:DataW.trod enc prog w base spare held m 3 [c0]=xs[0]?:=by simpa [qb4] using hx 0 _ rfl
 have q1:DataW.trod enc prog w base spare held m 3 [c1]=xs[1]?:=by simpa [qb4] using hx 1 _ rfl
 have q2:DataW.trod enc prog w base spare held m 3 [c2]=xs[2]?:=by simpa [qb4] using hx 2 _ rfl
 rw [List.getElem?_eq_getElem (by omega)] at q0 q1 q2;obtain ⟨z0,e0,-,-⟩:=DataW.trod_int Tryz.underlying3 q0;obtain ⟨z1,e1,-,-⟩:=DataW.trod_int Tryz.underlying3 q1;obtain ⟨z2,e2,-,-⟩:=DataW.trod_int Tryz.underlying3 q2;simp only [List.cons.injEq,and_true] at e0 e1 e2;exact ⟨z0,z1,z2,e0,e1,e2⟩
theorem qtt {H:Type} {enc:TypeId × Value->H} {w:World} {spare:Nat->Bool} {held:Bool} {base:Nat} {a0:Option Addr} {len cap:Nat} {d:DataW H} {p:List MemPlace}
  (h:DataW.Trod enc prog w base spare held 163 (.slice a0 len cap) d p):
  len<=maxLen/\(len=0\/∃ b off h,a0=some ⟨b,off,none⟩/\b<w.heap.size/\EvAt w b off len h):=by
 obtain ⟨fuel,hf⟩:=h
 rcases Go.Deep.open_slice Tryz.underlying163 hf with ⟨hcs,_⟩ | ⟨a,len',cap',m,n,D,Pl,hcs,_,hl,hm,hmm,_,hx⟩
 ·simp [Value.cells] at hcs
  obtain ⟨_,rfl,_⟩:=hcs;exact ⟨nD _,.inl rfl⟩
 ·simp [Value.cells] at hcs
  obtain ⟨rfl,rfl,rfl⟩:=hcs;refine ⟨zO hl hm,?_⟩;by_cases h0:len=0
  ·exact .inl h0
  right;have hle:len<=m:=by rw [hmm];split <;> omega
  rw [qso] at hx;obtain ⟨b,off,spot⟩:=a
  have hcell:∀ i,i<len->∃ x:E3,w.cell? (Addr.add (Addr.add ⟨b,off,spot⟩ (i*3)) 0)=some (.int .i64 x.k)/\w.cell? (Addr.add (Addr.add ⟨b,off,spot⟩ (i*3)) 1)=some (.int .i64 x.q)/\w.cell? (Addr.add (Addr.add ⟨b,off,spot⟩ (i*3)) 2)=some (.int .i64 x.v):=by
   intro i hi;obtain ⟨cs',h1,h2⟩:=hx i (by omega);obtain ⟨_,hlen,hc⟩:=World.cells?_some h1
   match cs',hlen with
   | [c0,c1,c2],_=>
    obtain ⟨k,q,v,rfl,rfl,rfl⟩:=qn6 h2;exact ⟨⟨k,q,v⟩,hc 0 (by omega),hc 1 (by omega),hc 2 (by omega)⟩
  have hspot:spot=none:=by
   obtain ⟨x,hx0,_⟩:=hcell 0 (by omega);simpa [Addr.add] using World.cell?_spot hx0
  subst hspot;have inh:Inhabited E3:=⟨⟨0,0,0⟩⟩
  obtain ⟨g,hg⟩:=Go.Deep.choose_lt (α:=E3) hcell
  have hI:EvAt w b off len g:=by
   intro i hi;obtain ⟨q0,q1,q2⟩:=hg i hi;rw [qb3,qb3] at q0 q1 q2;exact ⟨q0,q1,q2⟩
  exact ⟨b,off,g,rfl,qge (hI 0 (by omega)).1,hI⟩
structure I2 where
 m:Bool
 v:Int
abbrev itV (m:Bool) (v:Int):Value:=.agg #[.bool m,.int .i64 v]
def ItAt (w:World) (b off len:Nat) (h:Nat->I2):Prop:=∀ i,i<len->
 w.cell? ⟨b,off+i*2,none⟩=some (.bool (h i).m)/\w.cell? ⟨b,off+i*2+1,none⟩=some (.int .i64 (h i).v)
theorem ItAt.bw {w w':World} {B b off len:Nat} {h:Nat->I2} (hh:ItAt w b off len h) (hb:Below B w w') (hB:b<B):ItAt w' b off len h:=by
 intro i hi;obtain ⟨h0,h1⟩:=hh i hi;exact ⟨(hb.cell hB).trans h0,(hb.cell hB).trans h1⟩
theorem qy9:(prog.info? 74).map (fun i=>(i.zero,i.size,i.bytes))=some (some (itV false 0),2,16):=by kernel_rfl
theorem qiz (n:Nat) (hn:n<=1048576) (w:World):
  (Instr.makeSlice 72 (.int .i64 (n:Int)) (.int .i64 (n:Int))).run prog w=.ok (sG w.heap.size n n) (w.alloc (.cells (madeCells (itV false 0).cells (n*2)) 74)):=by
 have hinfo:=qy9;cases hi:prog.info? 74 with
 | none=>rw [hi] at hinfo;cases hinfo
 | some i=>
  rw [hi] at hinfo;simp only [Option.map_some,nG,Prod.mk.injEq] at hinfo;obtain ⟨hz,hs,hb⟩:=hinfo;have h:=run_make (P:=prog) w 72 74 i _ Tryz.underlying72 hi hz .i64 .i64 (n:Int) (n:Int) (by omega) (Int.le_refl _) (by rw [hb];omega) (by omega);rw [hs] at h;simpa using h
theorem qth (w:World) (n:Nat):(w.alloc (.cells (madeCells (itV false 0).cells (n*2)) 74)).rowIs w.heap.size 74 (n*2) (fun i=>if i % 2=0 then .bool false else .int .i64 0):=by
 refine ⟨_,blk_alloc_new _ _,size_madeCells _ _,fun i hi=>?_⟩;have h3:i % 2<2:=Nat.mod_lt _ (by omega)
 have:∀ j,j<2->(#[Value.bool false,.int .i64 0]:Array Value)[j]! = if j=0 then .bool false else .int .i64 0:=by
  intro j hj
  match j,hj with
  | 0,_=>rfl
  | 1,_=>rfl
 simp only [madeCells,Value.cells];rw [Array.getElem?_map,Array.getElem?_range,nC hi];exact congrArg some (this (i % 2) h3)
def qe2 (f:Nat->Value) (h:Nat->I2) (k:Nat):Prop:=∀ i,i<k->
 f (i*2)=.bool (h i).m/\f (i*2+1)=.int .i64 (h i).v
theorem qe2.at {w:World} {b:Nat} {t:TypeId} {len k:Nat} {f:Nat->Value} {h:Nat->I2} (hh:qe2 f h k) (hr:w.rowIs b t (len*2) f) (hk:k<=len):ItAt w b 0 k h:=by
 intro i hi;obtain ⟨h0,h1⟩:=hh i hi;refine ⟨?_,?_⟩
 ·rw [hr.cell (by omega),nL,h0]
 ·rw [hr.cell (by omega),nL,h1]
theorem qe2.step {w:World} {b:Nat} {t:TypeId} {len k:Nat} {f:Nat->Value} {h:Nat->I2} (hr:w.rowIs b t (len*2) f) (hh:qe2 f h k):
  ∃ f',((w.setCell ⟨b,k*2,none⟩ (.bool (h k).m)).setCell ⟨b,k*2+1,none⟩ (.int .i64 (h k).v)).rowIs b t (len*2) f'/\qe2 f' h (k+1):=by
 refine ⟨_,(hr.set _ _).set _ _,fun i hi=>?_⟩;by_cases hik:i=k
 ·subst hik
  simp
 ·have hlt:i<k:=by omega
  obtain ⟨h0,h1⟩:=hh i hlt;refine ⟨?_,?_⟩
  ·rw [nB (by omega),nB (by omega)];exact h0
  ·rw [nB (by omega),nB (by omega)];exact h1
theorem qt9 (m:Bool) (v:Int) (w:World):
  Calls prog 178 #[itV m v] w (rB w (itV m v)):=by
 go_enter func178,ntmps178
 go_wp2;refine bodyPost_ret (v:=itV m v) (by simp [results,results178,go_sem]) rfl ⟨rfl,?_⟩
 go_grown
theorem qpy (m:Bool) (v:Int) (w:World):
  Calls prog 206 #[itV m v,itV m v] w (rB w (.bool true)):=by
 cases m
 all_goals
  go_enter func206,ntmps206
  go_wp2;go_ret;exact ⟨rfl,by go_grown⟩
theorem qf8 (a0:Option Addr) (len cap:Nat) (L:Int) (w:World) (h:(len:Int)<=L) (hL:L<=1048576):
  Calls prog 118 #[.slice a0 len cap,.int .i64 L] w fun e w'=>e=.returned (.int .i64 (L - (len:Int)))/\w'=w:=by
 have h1:(len:Int)<=1048576:=by omega
 have h2:0<=L:=by omega
 have h3:¬ (L - (len:Int)<0):=by omega
 go_enter func118,ntmps118
 go_wp2;go_ret;exact ⟨rfl,rfl⟩
theorem ql9 (a0:Option Addr) (len cap:Nat) (L:Int) (w:World) (h:L<(len:Int)) (h0:0<=L) (hL:L<=1048576) (hm:len<=maxLen):
  Calls prog 118 #[.slice a0 len cap,.int .i64 L] w fun e w'=>e=.returned (.int .i64 (-1))/\w'=w:=by
 unfold maxLen at hm;have h2:(len:Int)<=9223372036854775807:=by omega
 have h3:L - (len:Int)<0:=by omega
 go_enter func118,ntmps118
 go_wp2;go_ret;exact ⟨rfl,rfl⟩
theorem qo1 (b off len cap:Nat) (h:Nat->I2) (w:World) (hlen:len<=1048576) (hb:b<w.heap.size) (hc:ItAt w b off len h):
  Calls prog 128 #[.slice (some ⟨b,off,none⟩) len cap] w fun e w'=>e=.returned (sG w.heap.size len len)/\ItAt w' w.heap.size 0 len h/\w.heap.size<w'.heap.size/\Below w.heap.size w w'/\∀ j,w'.frozen? ⟨w.heap.size,j,none⟩=false:=by
 have hl':(len:Int)<=1048576:=by omega
 have hmk:=qiz len hlen;have HC:Hid (ItAt w b off len h):=hc;clear hc
 go_enter func128,ntmps128
 go_wp2_with fail
 clear hmk
 go_loopw [4] (fun i wr=>∃ k:Nat,k<=len/\i=.int .i64 k/\(∃ f,wr.rowIs w.heap.size 74 (len*2) f/\Hid (qe2 f h k))/\Below w.heap.size w wr) (fun i _=>len - (intOf i).toNat)
 case atStart=>exact ⟨0,nD _,rfl,⟨_,qth w len,fun i hi=>by omega⟩,(nE _ _).alloc (nA _) _⟩
 case round=>
  obtain ⟨k,hk,rfl,⟨f,hrow,HF⟩,hbw⟩:=hrel;have hs:=hrow.lt;by_cases hlt:k<len
  ·obtain ⟨c0,c1⟩:=HC.bw hbw hb k hlt
   have HR:Hid (wr.rowIs w.heap.size 74 (len*2) f):=hrow;clear hrow;go_wp2_with fail
   refine (qt9 _ _ _).mono ?_;rintro e w1 ⟨rfl,hb1⟩;have hr1:w1.rowIs w.heap.size 74 (len*2) f:=HR.of_block (hb1.block _ hs);have f0:=hr1.frozen (k*2);have f1:=hr1.frozen (k*2+1);have g0:=hr1.cell (i:=k*2) (by omega);have g1:=hr1.cell (i:=k*2+1) (by omega);have HR1:Hid (w1.rowIs w.heap.size 74 (len*2) f):=hr1;clear hr1;go_wp2_with fail
   exact ⟨⟨k+1,by omega,by go_num,qe2.step HR1.out HF.out,((hbw.trans (hb1.mono (nJ hs))).setCell (nA _) _).setCell (nA _) _⟩,by simp [intOf];omega⟩
  ·have hkl:k=len:=by omega
   have HI:Hid (ItAt wr w.heap.size 0 len h):=by
    have:=HF.at hrow hk;rw [hkl] at this;exact this
   have HZ:Hid (∀ j,wr.frozen? ⟨w.heap.size,j,none⟩=false):=fun j=>hrow.frozen j;clear hkl HF hrow;go_wp2;go_ret;exact ⟨rfl,HI.out,hs,hbw,HZ.out⟩
theorem qgs (a0:Option Addr) (cap:Nat) (h:Nat->I2) (w:World):
  Calls prog 128 #[.slice a0 0 cap] w fun e w'=>e=.returned (sG w.heap.size 0 0)/\ItAt w' w.heap.size 0 0 h/\w.heap.size<w'.heap.size/\Below w.heap.size w w'/\∀ j,w'.frozen? ⟨w.heap.size,j,none⟩=false:=by
 have hmk:∀ w:World,(Instr.makeSlice 72 (.int .i64 0) (.int .i64 0)).run prog w=.ok (sG w.heap.size 0 0) (w.alloc (.cells (madeCells (itV false 0).cells (0*2)) 74)):=fun w=>qiz 0 (by omega) w
 go_enter func128,ntmps128
 go_wp2_with fail
 clear hmk
 go_rounds 1
 go_ret;exact ⟨rfl,fun i hi=>by omega,by simp,(nE _ _).alloc (nA _) _,fun j=>yA _ _ _ j rfl⟩
def qkd (w:World) (a0:Option Addr) (len cap:Nat) (h:Nat->I2):Prop:=∀ wx,Below w.heap.size w wx->
 Calls prog 128 #[.slice a0 len cap] wx fun e w'=>e=.returned (sG wx.heap.size len len)/\ItAt w' wx.heap.size 0 len h/\wx.heap.size<w'.heap.size/\Below wx.heap.size wx w'/\∀ j,w'.frozen? ⟨wx.heap.size,j,none⟩=false
theorem qst {W:World} {a0:Option Addr} {len cap:Nat} (hl:len<=1048576) (hr:len=0\/∃ b off h,a0=some ⟨b,off,none⟩/\b<W.heap.size/\ItAt W b off len h):∃ h,qkd W a0 len cap h:=by
 rcases hr with rfl | ⟨b,off,h,rfl,hb,hI⟩
 ·exact ⟨fun _=>⟨false,0⟩,fun wx _=>qgs a0 cap _ wx⟩
 ·exact ⟨h,fun wx hB=>qo1 b off len cap h wx hl (zL hb hB.size) (hI.bw hB hb)⟩
theorem qg9 (b1 b2 len c1 c2:Nat) (h:Nat->I2) (w:World) (hlen:len<=1048576) (hb1:b1<w.heap.size) (hb2:b2<w.heap.size) (hc1:ItAt w b1 0 len h) (hc2:ItAt w b2 0 len h):
  Calls prog 149 #[.slice (some ⟨b1,0,none⟩) len c1,.slice (some ⟨b2,0,none⟩) len c2] w (rB w (.bool true)):=by
 have hl':(len:Int)<=1048576:=by omega
 have HC1:Hid (ItAt w b1 0 len h):=hc1;have HC2:Hid (ItAt w b2 0 len h):=hc2;clear hc1 hc2
 go_enter func149,ntmps149
 go_wp2_with fail
 go_loopw [5] (fun i wr=>∃ k:Nat,k<=len/\i=.int .i64 k/\Below w.heap.size w wr) (fun i _=>len - (intOf i).toNat)
 case atStart=>exact ⟨0,nD _,rfl,nE _ _⟩
 case round=>
  obtain ⟨k,hk,rfl,hbw⟩:=hrel;have hs:=hbw.size;by_cases hlt:k<len
  ·obtain ⟨c0,c1⟩:=HC1.bw hbw hb1 k hlt
   obtain ⟨d0,d1⟩:=HC2.bw hbw hb2 k hlt;have hlt':(k:Int)<(len:Int):=by omega
   rw [nL] at c0 c1 d0 d1;go_wp2_with fail
   first|(go_region_with (go_at_call 206;refine (qpy _ _ _).mono ?_;rintro e w1 ⟨rfl,hq1⟩)) | fail
   all_goals
    go_wp2;go_roundw
    case rel=>exact ⟨k+1,by omega,by go_num,hbw.drew.trans (hq1.mono hs)⟩
    case measure=>simp [intOf];omega
  ·go_wp2
   go_ret;exact ⟨rfl,hbw⟩
def qhk (w:World) (b len:Nat):Prop:=(∀ i,i<len*2->∃ u,w.cell? ⟨b,i,none⟩=some u)/\∀ j,w.frozen? ⟨b,j,none⟩=false
theorem qhk.set {w:World} {b len:Nat} (h:qhk w b len) (p:Addr) (v:Value):qhk (w.setCell p v) b len:=
 ⟨fun i hi=>(h.1 i hi).elim fun _ e=>cell?_setCell_some e,fun j=>by rw [World.frozen?_setCell];exact h.2 j⟩
theorem qhk.of_it {w:World} {b len:Nat} {h:Nat->I2} (hh:ItAt w b 0 len h) (hf:∀ j,w.frozen? ⟨b,j,none⟩=false):qhk w b len:=by
 refine ⟨fun i hi=>?_,hf⟩;obtain ⟨c0,c1⟩:=hh (i / 2) (by omega);simp only [nL] at c0 c1;have he:i=i / 2*2\/i=i / 2*2+1:=by omega
 rcases he with e | e
 ·rw [e];exact ⟨_,c0⟩
 ·rw [e];exact ⟨_,c1⟩
theorem qlm (b len cap:Nat) (k:Int) (w:World) (hlen:len<=1048576) (k0:0<=k) (k1:k<=100000000) (h:qhk w b len):
  Calls prog 152 #[.slice (some ⟨b,0,none⟩) len cap,.int .i64 k] w fun e w'=>e=.returned (.int .i64 (k+2*len))/\w.grownBy w' (some b):=by
 have hl':(len:Int)<=1048576:=by omega
 have HO:Hid (qhk w b len):=h;clear h
 go_enter func152,ntmps152
 go_wp2_with fail
 go_loopw [1,5] (fun q i wr=>∃ j:Nat,j<=len/\i=.int .i64 j/\q=.int .i64 (k+2*j)/\Hid (qhk wr b len/\w.grownBy wr (some b))) (fun _ i _=>len - (intOf i).toNat)
 case atStart=>exact ⟨0,nD _,rfl,by simp,HO.out,World.grownBy.refl _ _⟩
 case round=>
  clear HO;obtain ⟨j,hj,rfl,rfl,HR⟩:=hrel;by_cases hlt:j<len
  ·have hlt':(j:Int)<(len:Int):=by omega
   obtain ⟨u0,c0⟩:=HR.1.1 (j*2) (by omega);obtain ⟨u1,c1⟩:=HR.1.1 (j*2+1) (by omega);have fz:=HR.1.2;go_wp2;go_roundw
   case rel=>
    refine ⟨j+1,by omega,by go_num,by go_num,?_⟩;refine ⟨?_,?_⟩
    ·repeat (refine qhk.set ?_ _ _)
     exact HR.1
    ·repeat (refine zU ?_ (.inl rfl) _)
     exact HR.2
   case measure=>simp [intOf];omega
  ·have hlt':¬ (j:Int)<(len:Int):=by omega
   have HF:Hid (w.grownBy wr (some b)):=HR.2;have hjl:(j:Int)=len:=by omega
   have HJ:Hid ((j:Int)=len):=hjl;clear HR hjl;go_wp2;go_ret;exact ⟨qfc (by rw [HJ.out]),HF.out⟩
theorem qsp:prog.cellsOf 226=2:=by kernel_rfl
theorem qm0:prog.cellsOf 4=1:=by kernel_rfl
theorem qn7 {H:Type} {enc:TypeId × Value->H} {w:World} {base fuel:Nat} {spare:Nat->Bool} {held:Bool} {c0 c1:Value} {x:DataW H × List MemPlace}
  (hf:DataW.trod enc prog w base spare held fuel 226 [c0,c1]=some x):
  ∃ (m:Bool) (v:Int),c0=.bool m/\c1=.int .i64 v:=by
 obtain ⟨xs,m,-,-,-,hl,hx⟩:=DataW.trod_struct Tryz.underlying226 hf;have hl:xs.length=2:=hl;have q0:DataW.trod enc prog w base spare held m 4 [c0]=xs[0]?:=by simpa [qm0] using hx 0 _ rfl
 have q1:DataW.trod enc prog w base spare held m 3 [c1]=xs[1]?:=by simpa [qb4,qm0] using hx 1 _ rfl
 rw [List.getElem?_eq_getElem (by omega)] at q0 q1;obtain ⟨z0,e0,-⟩:=DataW.trod_bool Tryz.underlying4 q0;obtain ⟨z1,e1,-,-⟩:=DataW.trod_int Tryz.underlying3 q1;simp only [List.cons.injEq,and_true] at e0 e1;exact ⟨z0,z1,e0,e1⟩
theorem qtu {H:Type} {enc:TypeId × Value->H} {w:World} {spare:Nat->Bool} {held:Bool} {base:Nat} {a0:Option Addr} {len cap:Nat} {d:DataW H} {p:List MemPlace}
  (h:DataW.Trod enc prog w base spare held 161 (.slice a0 len cap) d p):
  len<=maxLen/\(len=0\/∃ b off h,a0=some ⟨b,off,none⟩/\b<w.heap.size/\ItAt w b off len h):=by
 obtain ⟨fuel,hf⟩:=h
 rcases Go.Deep.open_slice Tryz.underlying161 hf with ⟨hcs,_⟩ | ⟨a,len',cap',m,n,D,Pl,hcs,_,hl,hm,hmm,_,hx⟩
 ·simp [Value.cells] at hcs
  obtain ⟨_,rfl,_⟩:=hcs;exact ⟨nD _,.inl rfl⟩
 ·simp [Value.cells] at hcs
  obtain ⟨rfl,rfl,rfl⟩:=hcs;refine ⟨zO hl hm,?_⟩;by_cases h0:len=0
  ·exact .inl h0
  right;have hle:len<=m:=by rw [hmm];split <;> omega
  rw [qsp] at hx;obtain ⟨b,off,spot⟩:=a
  have hcell:∀ i,i<len->∃ x:I2,w.cell? (Addr.add (Addr.add ⟨b,off,spot⟩ (i*2)) 0)=some (.bool x.m)/\w.cell? (Addr.add (Addr.add ⟨b,off,spot⟩ (i*2)) 1)=some (.int .i64 x.v):=by
   intro i hi;obtain ⟨cs',h1,h2⟩:=hx i (by omega);obtain ⟨_,hlen,hc⟩:=World.cells?_some h1
   match cs',hlen with
   | [c0,c1],_=>
    obtain ⟨k,v,rfl,rfl⟩:=qn7 h2;exact ⟨⟨k,v⟩,hc 0 (by omega),hc 1 (by omega)⟩
  have hspot:spot=none:=by
   obtain ⟨x,hx0,_⟩:=hcell 0 (by omega);simpa [Addr.add] using World.cell?_spot hx0
  subst hspot;have inh:Inhabited I2:=⟨⟨false,0⟩⟩
  obtain ⟨g,hg⟩:=Go.Deep.choose_lt (α:=I2) hcell
  have hI:ItAt w b off len g:=by
   intro i hi;obtain ⟨q0,q1⟩:=hg i hi;rw [qb3,qb3] at q0 q1;exact ⟨q0,q1⟩
  exact ⟨b,off,g,rfl,qge (hI 0 (by omega)).1,hI⟩
def sumL (ls:Nat->Nat):Nat->Nat
 | 0=>0
 | n+1=>sumL ls n+ls n
theorem qvz (ls:Nat->Nat) {k n:Nat} (h:k<=n):sumL ls k<=sumL ls n:=by
 induction n with
 | zero=>
  have:k=0:=by omega
  subst this;exact nA _
 | succ n ih=>
  by_cases hk:k=n+1
  ·subst hk
   exact nA _
  ·have:=ih (by omega)
   show sumL ls k<=sumL ls n+ls n;omega
theorem qbf (ls:Nat->Nat) {k n:Nat} (h:k<n):sumL ls k+ls k<=sumL ls n:=qvz ls (k:=k+1) h
def RowS (w:World) (a0:Option Addr) (n:Nat) (f:Nat->Value):Prop:=
 n=0\/∃ b off,a0=some ⟨b,off,none⟩/\b<w.heap.size/\∀ i,i<n->w.cell? ⟨b,off+i,none⟩=some (f i)
theorem RowS.bw {w w':World} {a0:Option Addr} {n:Nat} {f:Nat->Value} (h:RowS w a0 n f) (hb:Below w.heap.size w w'):RowS w' a0 n f:=by
 rcases h with h | ⟨b,off,e,hlt,hc⟩
 ·exact .inl h
 ·exact .inr ⟨b,off,e,zL hlt hb.size,fun i hi=>(hb.cell (p:=⟨b,off+i,none⟩) hlt).trans (hc i hi)⟩
theorem RowS.at {w:World} {a0:Option Addr} {n:Nat} {f:Nat->Value} (h:RowS w a0 n f) {k:Nat} (hk:k<n):∃ b off,a0=some ⟨b,off,none⟩/\w.cell? ⟨b,off+k,none⟩=some (f k):=by
 rcases h with rfl | ⟨b,off,e,-,hc⟩
 ·omega
 ·exact ⟨b,off,e,hc k hk⟩
structure qaa (P:Nat->Prop) (w w':World):Prop where
 os:w'.os=w.os
 tape:w'.tape=w.tape
 output:w'.output=w.output
 size:w.heap.size<=w'.heap.size
 block:∀ k,k<w.heap.size->¬ P k->w'.heap[k]? = w.heap[k]?
theorem qaa.refl (P:Nat->Prop) (w:World):qaa P w w:=⟨rfl,rfl,rfl,nA _,fun _ _ _=>rfl⟩
theorem qaa.trans {P:Nat->Prop} {a b c:World} (h:qaa P a b) (k:qaa P b c):qaa P a c:=
 ⟨k.os.trans h.os,k.tape.trans h.tape,k.output.trans h.output,zO h.size k.size,fun i hi hn=>(k.block i (zL hi h.size) hn).trans (h.block i hi hn)⟩
theorem qaa.mono {P Q:Nat->Prop} {w w':World} (h:qaa P w w') (hq:∀ k,P k->Q k):qaa Q w w':=
 ⟨h.os,h.tape,h.output,h.size,fun k hk hn=>h.block k hk fun hp=>hn (hq k hp)⟩
theorem qaa.of_grown {P:Nat->Prop} {w w':World} {row:Option Nat} (h:w.grownBy w' row) (hp:∀ k,row=some k->P k):qaa P w w':=
 ⟨h.os,h.tape,h.output,h.size,fun k hk hn=>h.block k hk fun e=>hn (hp k e.symm)⟩
theorem qaa.of_below {P:Nat->Prop} {w w':World} (h:Below w.heap.size w w'):qaa P w w':=
 ⟨h.os,h.tape,h.output,h.size,fun k hk _=>h.block k hk⟩
theorem qaa.of_set {P:Nat->Prop} (w:World) {a:Addr} (ha:P a.block) (u:Value):qaa P w (w.setCell a u):=
 ⟨rfl,rfl,rfl,by simp [World.setCell],fun k _ hn=>zN _ _ _ _ fun e=>hn (e ▸ ha)⟩
theorem qaa.bw {P:Nat->Prop} {w w':World} {B:Nat} (h:qaa P w w') (hB:B<=w.heap.size) (hp:∀ k,P k->B<=k):Below B w w':=
 ⟨h.os,h.tape,h.output,h.size,fun k hk=>h.block k (by omega) fun e=>by have:=hp k e;omega⟩
theorem qaa.cell {P:Nat->Prop} {w w':World} (h:qaa P w w') {b:Nat} (hb:b<w.heap.size) (hp:¬ P b) (j:Nat):w'.cell? ⟨b,j,none⟩=w.cell? ⟨b,j,none⟩:=zH (h.block b hb hp)
theorem qaa.frozen {P:Nat->Prop} {w w':World} (h:qaa P w w') {b:Nat} (hb:b<w.heap.size) (hp:¬ P b) (j:Nat):w'.frozen? ⟨b,j,none⟩=w.frozen? ⟨b,j,none⟩:=zI (h.block b hb hp)
theorem qdk {H:Type} {enc:TypeId × Value->H} {w:World} {spare:Nat->Bool} {held:Bool} {base:Nat} {a0:Option Addr} {len cap:Nat} {d:DataW H} {p:List MemPlace} {t el:TypeId} (hu:prog.underlying t=some (.slice el)) (h1:prog.cellsOf el=1)
  (h:DataW.Trod enc prog w base spare held t (.slice a0 len cap) d p):
  len<=maxLen/\∃ f:Nat->Value,RowS w a0 len f/\∀ i,i<len->∃ m x,DataW.trod enc prog w base spare held m el [f i]=some x:=by
 obtain ⟨fuel,hf⟩:=h
 rcases Go.Deep.open_slice hu hf with ⟨hcs,_⟩ | ⟨a,len',cap',m,n,D,Pl,hcs,_,hl,hm,hmm,_,hx⟩
 ·simp [Value.cells] at hcs
  obtain ⟨_,rfl,_⟩:=hcs;exact ⟨nD _,fun _=>.int .i64 0,.inl rfl,fun i hi=>by omega⟩
 ·simp [Value.cells] at hcs
  obtain ⟨rfl,rfl,rfl⟩:=hcs;refine ⟨zO hl hm,?_⟩;have hle:len<=m:=by rw [hmm];split <;> omega
  rw [h1] at hx;obtain ⟨b,off,spot⟩:=a
  have hcell:∀ i,i<len->∃ c:Value,w.cell? (Addr.add (Addr.add ⟨b,off,spot⟩ (i*1)) 0)=some c/\∃ m x,DataW.trod enc prog w base spare held m el [c]=some x:=by
   intro i hi;obtain ⟨cs',h1,h2⟩:=hx i (by omega);obtain ⟨_,hlen,hc⟩:=World.cells?_some h1
   match cs',hlen with
   | [c0],_=>exact ⟨c0,hc 0 (by omega),_,_,h2⟩
  have inh:Inhabited Value:=⟨.int .i64 0⟩
  obtain ⟨g,hg⟩:=Go.Deep.choose_lt (α:=Value) hcell;refine ⟨g,?_,fun i hi=>(hg i hi).2⟩;by_cases h0:len=0
  ·exact .inl h0
  have hspot:spot=none:=by
   have hx0:=(hg 0 (by omega)).1;simpa [Addr.add] using World.cell?_spot hx0
  subst hspot
  have hI:∀ i,i<len->w.cell? ⟨b,off+i,none⟩=some (g i):=by
   intro i hi;have q0:=(hg i hi).1;rw [qb3,qb3,Nat.mul_one] at q0;exact q0
  exact .inr ⟨b,off,rfl,qge (hI 0 (by omega)),hI⟩
structure St8 where
 p:Int
 ra:Option Addr
 rc:Nat
 rs:List Int
 oa:Option Addr
 oc:Nat
 os:List Int
 c:Int
def St8.s (x:St8):S4:=⟨x.p,x.rs,x.os,x.c⟩
def lenS (S:Nat->S4) (i:Nat):Nat:=(S i).rs.length+(S i).os.length
structure qbg (W:World) (a0:Option Addr) (n:Nat) (q:Nat->St8):Prop where
 row:n=0\/∃ b off,a0=some ⟨b,off,none⟩/\b<W.heap.size/\∀ i,i<n->W.cell? ⟨b,off+i*4,none⟩=some (.int .i64 (q i).p)/\W.cell? ⟨b,off+i*4+1,none⟩=some (.slice (q i).ra (q i).rs.length (q i).rc)/\W.cell? ⟨b,off+i*4+2,none⟩=some (.slice (q i).oa (q i).os.length (q i).oc)/\W.cell? ⟨b,off+i*4+3,none⟩=some (.int .i64 (q i).c)
 lst:∀ i,i<n->Sl W (q i).ra (q i).rs/\Sl W (q i).oa (q i).os
theorem qbg.bw {w w':World} {a0:Option Addr} {n:Nat} {q:Nat->St8} (h:qbg w a0 n q) (hb:Below w.heap.size w w'):qbg w' a0 n q:=by
 refine ⟨?_,fun i hi=>⟨(h.lst i hi).1.bw hb,(h.lst i hi).2.bw hb⟩⟩
 rcases h.row with h | ⟨b,off,e,hlt,hc⟩
 ·exact .inl h
 ·exact .inr ⟨b, off, e, Nat.lt_of_lt_of_le hlt hb.size, fun i hi => by
   obtain ⟨h0,h1,h2,h3⟩:=hc i hi
   exact ⟨(hb.cell hlt).trans h0,(hb.cell hlt).trans h1,(hb.cell hlt).trans h2,(hb.cell hlt).trans h3⟩⟩
theorem qbg.at {w:World} {a0:Option Addr} {n:Nat} {q:Nat->St8} (h:qbg w a0 n q) {k:Nat} (hk:k<n):∃ b off,a0=some ⟨b,off,none⟩/\w.cell? ⟨b,off+k*4,none⟩=some (.int .i64 (q k).p)/\w.cell? ⟨b,off+k*4+1,none⟩=some (.slice (q k).ra (q k).rs.length (q k).rc)/\w.cell? ⟨b,off+k*4+2,none⟩=some (.slice (q k).oa (q k).os.length (q k).oc)/\w.cell? ⟨b,off+k*4+3,none⟩=some (.int .i64 (q k).c):=by
 rcases h.row with rfl | ⟨b,off,e,-,hc⟩
 ·omega
 ·exact ⟨b,off,e,hc k hk⟩
theorem qdc (a0:Option Addr) (n cap:Nat) (q:Nat->St8) (L:Int) (w:World) (hr:qbg w a0 n q) (h:(n:Int)+(sumL (lenS fun i=>(q i).s) n:Nat)<=L) (hL:L<=1048576):
  Calls prog 49 #[.slice a0 n cap,.int .i64 L] w fun e w'=>e=.returned (.int .i64 (L - n - (sumL (lenS fun i=>(q i).s) n:Nat)))/\Below w.heap.size w w':=by
 have hn:(n:Int)<=1048576:=by omega
 have h0:0<=L:=by omega
 have hn0:¬ (L - (n:Int)<0):=by omega
 have HR:Hid (qbg w a0 n q):=hr;have HS:Hid ((n:Int)+(sumL (lenS fun i=>(q i).s) n:Nat)<=L):=h;clear hr h;generalize hls:(lenS fun i=>(q i).s)=ls at *;have HLS:Hid ((lenS fun i=>(q i).s)=ls):=hls;clear hls
 go_enter func49,ntmps49
 go_wp2_with fail
 go_loopw [1,5] (fun x i wr=>∃ k:Nat,k<=n/\i=.int .i64 k/\x=.int .i64 (L - n - (sumL ls k:Nat))/\Below w.heap.size w wr) (fun _ i _=>n - (intOf i).toNat)
 case atStart=>exact ⟨0,nD _,rfl,by simp [sumL],nE _ _⟩
 case round=>
  obtain ⟨k,hk,rfl,rfl,hbw⟩:=hrel;by_cases hlt:k<n
  ·have hlt':(k:Int)<(n:Int):=by omega
   obtain ⟨b,off,rfl,c0,c1,c2,c3⟩:=(HR.bw hbw).at hlt;have hsl:=qbf ls hlt;have hlk:ls k=(q k).rs.length+(q k).os.length:=by rw [<- HLS.out];rfl
   have hS:=HS.out;have e1:(L - n - (sumL ls k:Nat)) - ((q k).rs.length:Int) - ((q k).os.length:Int)=L - n - (sumL ls (k+1):Nat):=by simp only [sumL];omega
   have HE:Hid ((L - n - (sumL ls k:Nat)) - ((q k).rs.length:Int) - ((q k).os.length:Int)=L - n - (sumL ls (k+1):Nat)):=e1;have e2:((q k).rs.length:Int)+((q k).os.length:Int)<=L - n - (sumL ls k:Nat):=by omega
   have e3:¬ (L - n - (sumL ls (k+1):Nat)<0):=by omega
   have e4:L - n - (sumL ls k:Nat)<=1048576:=by omega
   clear e1 hS hsl hlk;generalize hy:L - n - (sumL ls (k+1):Nat)=Y at *;go_wp2_with fail
   refine (qf9 _ _ _ _ _ _ _ _ _ _ e2 e4).mono ?_;rintro e w1 ⟨rfl,b1⟩;rw [HE.out];clear e2 e4 c0 c1 c2 c3;go_wp2;go_roundw
   case rel=>exact ⟨k+1,by omega,by go_num,by rw [<- hy],hbw.trans (b1.mono hbw.size)⟩
   case measure=>simp [intOf];omega
  ·have hkl:k=n:=by omega
   subst hkl;go_wp2;go_ret;exact ⟨rfl,hbw⟩
theorem qjz (a0:Option Addr) (n cap:Nat) (q:Nat->St8) (L:Int) (w:World) (hr:qbg w a0 n q) (h:L<(n:Int)+(sumL (lenS fun i=>(q i).s) n:Nat)) (h0:0<=L) (hL:L<=1048576) (hm:n<=maxLen) (hl:∀ i,i<n->(q i).rs.length<=maxLen/\(q i).os.length<=maxLen):
  Calls prog 49 #[.slice a0 n cap,.int .i64 L] w (rB w (.int .i64 (-1))):=by
 have hm':(n:Int)<=9223372036854775807:=by unfold maxLen at hm;omega
 by_cases hn0:L - (n:Int)<0
 ·go_enter func49,ntmps49
  go_wp2;go_ret;exact ⟨rfl,nE _ _⟩
 have hn:(n:Int)<=1048576:=by omega
 have HR:Hid (qbg w a0 n q):=hr;have HS:Hid (L<(n:Int)+(sumL (lenS fun i=>(q i).s) n:Nat)):=h;have HL:Hid (∀ i,i<n->(q i).rs.length<=maxLen/\(q i).os.length<=maxLen):=hl;clear hr h hl hm;generalize hls:(lenS fun i=>(q i).s)=ls at *;have HLS:Hid ((lenS fun i=>(q i).s)=ls):=hls;clear hls
 go_enter func49,ntmps49
 go_wp2_with fail
 go_loopw [1,5] (fun x i wr=>∃ k:Nat,k<=n/\i=.int .i64 k/\x=.int .i64 (L - n - (sumL ls k:Nat))/\0<=L - n - (sumL ls k:Nat)/\Below w.heap.size w wr) (fun _ i _=>n - (intOf i).toNat)
 case atStart=>exact ⟨0,nD _,rfl,by simp [sumL],by simp only [sumL];omega,nE _ _⟩
 case round=>
  obtain ⟨k,hk,rfl,rfl,hp,hbw⟩:=hrel;by_cases hlt:k<n
  ·have hlt':(k:Int)<(n:Int):=by omega
   obtain ⟨b,off,rfl,c0,c1,c2,c3⟩:=(HR.bw hbw).at hlt;obtain ⟨ml1,ml2⟩:=HL.out k hlt;have hlk:ls k=(q k).rs.length+(q k).os.length:=by rw [<- HLS.out];rfl
   have e1:(L - n - (sumL ls k:Nat)) - ((q k).rs.length:Int) - ((q k).os.length:Int)=L - n - (sumL ls (k+1):Nat):=by simp only [sumL];omega
   have HE:Hid ((L - n - (sumL ls k:Nat)) - ((q k).rs.length:Int) - ((q k).os.length:Int)=L - n - (sumL ls (k+1):Nat)):=e1;have e4:L - n - (sumL ls k:Nat)<=1048576:=by omega
   clear e1 hlk;by_cases hb:((q k).rs.length:Int)+((q k).os.length:Int)<=L - n - (sumL ls k:Nat)
   ·have e3:0<=L - n - (sumL ls (k+1):Nat):=by have:=HE.out;omega
    have e3':¬ (L - n - (sumL ls (k+1):Nat)<0):=by omega
    generalize hy:L - n - (sumL ls (k+1):Nat)=Y at *;go_wp2_with fail
    refine (qf9 _ _ _ _ _ _ _ _ _ _ hb e4).mono ?_;rintro e w1 ⟨rfl,b1⟩;rw [HE.out];clear hb e4 hp c0 c1 c2 c3 ml1 ml2;go_wp2;go_roundw
    case rel=>exact ⟨k+1,by omega,by go_num,by rw [<- hy],by omega,hbw.trans (b1.mono hbw.size)⟩
    case measure=>simp [intOf];omega
   ·have hb':L - n - (sumL ls k:Nat)<((q k).rs.length:Int)+((q k).os.length:Int):=by omega
    go_wp2_with fail
    refine (qma _ _ _ _ _ _ _ _ _ _ hb' e4 hp ml1 ml2).mono ?_;rintro e w1 ⟨rfl,b1⟩;clear hb hb' e4 hp HE c0 c1 c2 c3 ml1 ml2;go_wp2;go_ret;exact ⟨rfl,hbw.trans (b1.mono hbw.size)⟩
  ·have hkl:k=n:=by omega
   subst hkl;have:=HS.out;omega
theorem qqn {w w':World} {B size n:Nat} {e:TypeId} {v:Value} {xs:List Value} (h:w.ownsRow B e size v n xs) (hb:∀ k,v.ownBlock=some k->w'.heap[k]? = w.heap[k]?):w'.ownsRow B e size v n xs:=by
 obtain ⟨h0,h⟩:=h;refine ⟨h0,?_⟩
 rcases h with h | ⟨g,cap,cur,rfl,h1,h2,h3⟩
 ·exact .inl h
 ·exact .inr ⟨g,cap,cur,rfl,h1,(hb g rfl).trans h2,h3⟩
theorem OwnI.blk {w w':World} {B:Nat} {v:Value} {xs:List Int} (h:OwnI w B v xs) (hb:∀ k,v.ownBlock=some k->w'.heap[k]? = w.heap[k]?):OwnI w' B v xs:=qqn h hb
theorem qag.blk {w w':World} {B:Nat} {v:Value} {p code:Int} {rs os:List Int} (h:qag w B v p rs os code) (hb:∀ k,qae v k->w'.heap[k]? = w.heap[k]?):qag w' B v p rs os code:=by
 obtain ⟨vr,vo,rfl,h1,h2,h3⟩:=h;exact ⟨vr,vo,rfl,h1.blk fun k hk=>hb k ((qal _ _ _ _ _).2 (.inl hk)),h2.blk fun k hk=>hb k ((qal _ _ _ _ _).2 (.inr hk)),h3⟩
def Cel4 (w:World) (D j:Nat) (S:S4) (v:Value):Prop:=∃ ra rc oa oc,v=stV S.p ra S.rs.length rc oa S.os.length oc S.c/\w.cell? ⟨D,j,none⟩=some (.int .i64 S.p)/\w.cell? ⟨D,j+1,none⟩=some (.slice ra S.rs.length rc)/\w.cell? ⟨D,j+2,none⟩=some (.slice oa S.os.length oc)/\w.cell? ⟨D,j+3,none⟩=some (.int .i64 S.c)
structure qav (w:World) (D hi n:Nat) (S:Nat->S4) (vs:Nat->Value):Prop where
 cel:∀ i,i<n->Cel4 w D (i*4) (S i) (vs i)
 own:∀ i,i<n->qag w (D+1) (vs i) (S i).p (S i).rs (S i).os (S i).c
 bd:∀ i,i<n->∀ k,qae (vs i) k->k<hi
 apart:∀ i j,i<j->j<n->∀ k,qae (vs i) k->¬ qae (vs j) k
 fr:∀ j,w.frozen? ⟨D,j,none⟩=false
 le:hi<=w.heap.size
 lt:D<hi
theorem Cel4.blk {w w':World} {D j:Nat} {S:S4} {v:Value} (h:Cel4 w D j S v) (hb:w'.heap[D]? = w.heap[D]?):Cel4 w' D j S v:=by
 obtain ⟨ra,rc,oa,oc,e,h0,h1,h2,h3⟩:=h;exact ⟨ra,rc,oa,oc,e,(zH hb).trans h0,(zH hb).trans h1,(zH hb).trans h2,(zH hb).trans h3⟩
theorem qav.bw {w w':World} {D hi n B:Nat} {S:Nat->S4} {vs:Nat->Value} (o:qav w D hi n S vs) (hb:Below B w w') (hB:hi<=B):qav w' D hi n S vs:=
 have hD:w'.heap[D]? = w.heap[D]?:=hb.block D (zL o.lt hB)
 ⟨fun i hi'=>(o.cel i hi').blk hD,fun i hi'=>(o.own i hi').blk fun k hk=>hb.block k (zL (o.bd i hi' k hk) hB),o.bd,o.apart,fun j=>(zI hD).trans (o.fr j),zO o.le hb.size,o.lt⟩
theorem qav.keep {w w':World} {D hi n:Nat} {S:Nat->S4} {vs:Nat->Value} (o:qav w D hi n S vs) (hs:w.heap.size<=w'.heap.size) (hb:∀ k,D<=k->k<hi->w'.heap[k]? = w.heap[k]?):qav w' D hi n S vs:=
 have hD:w'.heap[D]? = w.heap[D]?:=hb D (nA _) o.lt
 ⟨fun i hi'=>(o.cel i hi').blk hD,fun i hi'=>(o.own i hi').blk fun k hk=>hb k (by have:=((o.own i hi').lt hk).1;omega) (o.bd i hi' k hk),o.bd,o.apart,fun j=>(zI hD).trans (o.fr j),zO o.le hs,o.lt⟩
theorem qu1:(prog.info? 142).map (fun i=>(i.zero,i.size,i.bytes))=some (some (stV 0 none 0 0 none 0 0 0),4,64):=by kernel_rfl
theorem qoh (n:Nat) (hn:n<=1048576) (w:World):
  (Instr.makeSlice 37 (.int .i64 (n:Int)) (.int .i64 (n:Int))).run prog w=.ok (sG w.heap.size n n) (w.alloc (.cells (madeCells (stV 0 none 0 0 none 0 0 0).cells (n*4)) 142)):=by
 have hinfo:=qu1;cases hi:prog.info? 142 with
 | none=>rw [hi] at hinfo;cases hinfo
 | some i=>
  rw [hi] at hinfo;simp only [Option.map_some,nG,Prod.mk.injEq] at hinfo;obtain ⟨hz,hs,hb⟩:=hinfo;have h:=run_make (P:=prog) w 37 142 i _ Tryz.underlying37 hi hz .i64 .i64 (n:Int) (n:Int) (by omega) (Int.le_refl _) (by rw [hb];omega) (by omega);rw [hs] at h;simpa using h
theorem qqg (w:World) (n:Nat):∃ f,(w.alloc (.cells (madeCells (stV 0 none 0 0 none 0 0 0).cells (n*4)) 142)).rowIs w.heap.size 142 (n*4) f:=by
 refine ⟨fun i=>(stV 0 none 0 0 none 0 0 0).cells[i % 4]!,_,blk_alloc_new _ _,size_madeCells _ _,fun i hi=>?_⟩;simp only [madeCells];rw [Array.getElem?_map,Array.getElem?_range,nC hi];rfl
structure quh (w:World) (D k:Nat) (f:Nat->Value) (S:Nat->S4) (vs:Nat->Value):Prop where
 cel:∀ i,i<k->∃ ra rc oa oc,vs i=stV (S i).p ra (S i).rs.length rc oa (S i).os.length oc (S i).c/\f (i*4)=.int .i64 (S i).p/\f (i*4+1)=.slice ra (S i).rs.length rc/\f (i*4+2)=.slice oa (S i).os.length oc/\f (i*4+3)=.int .i64 (S i).c
 own:∀ i,i<k->qag w (D+1) (vs i) (S i).p (S i).rs (S i).os (S i).c
 apart:∀ i j,i<j->j<k->∀ b,qae (vs i) b->¬ qae (vs j) b
theorem quh.step {w w1:World} {D k:Nat} {f:Nat->Value} {S:Nat->S4} {vs:Nat->Value} (o:quh w D k f S vs) (hb:Below w.heap.size w w1) (hD:D<w.heap.size) {ra oa:Option Addr} {rc oc:Nat} (hv:qag w1 w.heap.size (stV (S k).p ra (S k).rs.length rc oa (S k).os.length oc (S k).c) (S k).p (S k).rs (S k).os (S k).c) (a b c d:Value):
  quh ((((w1.setCell ⟨D,k*4,none⟩ a).setCell ⟨D,k*4+1,none⟩ b).setCell ⟨D,k*4+2,none⟩ c).setCell ⟨D,k*4+3,none⟩ d) D (k+1)
   (fun i=>if i=k*4+3 then .int .i64 (S k).c else if i=k*4+2 then .slice oa (S k).os.length oc else if i=k*4+1 then .slice ra (S k).rs.length rc else if i=k*4 then .int .i64 (S k).p else f i) S
   (fun i=>if i=k then stV (S k).p ra (S k).rs.length rc oa (S k).os.length oc (S k).c else vs i):=by
 have hs:∀ g,g≠D->((((w1.setCell ⟨D,k*4,none⟩ a).setCell ⟨D,k*4+1,none⟩ b).setCell ⟨D,k*4+2,none⟩ c).setCell ⟨D,k*4+3,none⟩ d).heap[g]? = w1.heap[g]?:=fun g hne=>(zN _ _ _ _ hne).trans ((zN _ _ _ _ hne).trans ((zN _ _ _ _ hne).trans (zN _ _ _ _ hne)));refine ⟨fun i hi=>?_,fun i hi=>?_,fun i j hij hj g h1=>?_⟩
 ·by_cases e:i=k
  ·subst e
   exact ⟨ra,rc,oa,oc,by simp,by simp,by simp,by simp,by simp⟩
  ·obtain ⟨ra',rc',oa',oc',e0,e1,e2,e3,e4⟩:=o.cel i (by omega)
   refine ⟨ra',rc',oa',oc',by simp only [nB e];exact e0,?_,?_,?_,?_⟩
   ·rw [nB (by omega),nB (by omega),nB (by omega),nB (by omega)];exact e1
   ·rw [nB (by omega),nB (by omega),nB (by omega),nB (by omega)];exact e2
   ·rw [nB (by omega),nB (by omega),nB (by omega),nB (by omega)];exact e3
   ·rw [nB (by omega),nB (by omega),nB (by omega),nB (by omega)];exact e4
 ·by_cases e:i=k
  ·subst e
   simp only [nQ];refine qag.blk (hv.mono (by omega)) fun g hg=>hs g ?_;have:=(hv.lt hg).1;omega
  ·simp only [nB e]
   have ho:=o.own i (by omega);refine (ho.bw hb).blk fun g hg=>hs g ?_;have:=(ho.lt hg).1;omega
 ·by_cases e:j=k
  ·have hi:i≠k:=by omega
   simp only [nB hi] at h1;simp only [nC e];intro h2;have a1:=((o.own i (by omega)).lt h1).2;have a2:=(hv.lt h2).1;omega
  ·have hi:i≠k:=by omega
   simp only [nB hi] at h1;simp only [nB e];exact o.apart i j hij (by omega) g h1
theorem qo2 (a0:Option Addr) (n cap:Nat) (q:Nat->St8) (W w:World) (hn:n<=1048576) (hl:∀ i,i<n->(q i).rs.length<=1048576/\(q i).os.length<=1048576) (hA:qbg W a0 n q) (hW:Below W.heap.size W w):
  Calls prog 58 #[.slice a0 n cap] w fun e w'=>e=.returned (sG w.heap.size n n)/\(∃ vs,qav w' w.heap.size w'.heap.size n (fun i=>(q i).s) vs)/\Below w.heap.size w w':=by
 have hl':(n:Int)<=1048576:=by omega
 have hmk:=qoh n hn;have HA:Hid (qbg W a0 n q):=hA;have HW:Hid (Below W.heap.size W w):=hW;have HL:Hid (∀ i,i<n->(q i).rs.length<=1048576/\(q i).os.length<=1048576):=hl;clear hA hW hl
 go_enter func58,ntmps58
 go_wp2_with fail
 clear hmk
 go_loopw [4] (fun i wr=>∃ k:Nat,k<=n/\i=.int .i64 k/\(∃ f,wr.rowIs w.heap.size 142 (n*4) f/\Hid (∃ vs,quh wr w.heap.size k f (fun i=>(q i).s) vs))/\Below w.heap.size w wr) (fun i _=>n - (intOf i).toNat)
 case atStart=>
  obtain ⟨f,hf⟩:=qqg w n;exact ⟨0,nD _,rfl,⟨f,hf,fun _=>.int .i64 0,fun i hi=>by omega,fun i hi=>by omega,fun i j hij hj=>by omega⟩,(nE _ _).alloc (nA _) _⟩
 case round=>
  obtain ⟨k,hk,rfl,⟨f,hrow,HF⟩,hbw⟩:=hrel;have hs:=hrow.lt;by_cases hlt:k<n
  ·have hlt':(k:Int)<(n:Int):=by omega
   have HB:Hid (qbg wr a0 n q):=HA.bw (HW.trans (hbw.mono HW.size));obtain ⟨b,off,rfl,c0,c1,c2,c3⟩:=HB.at hlt;have HR:Hid (wr.rowIs w.heap.size 142 (n*4) f):=hrow;clear hrow;go_wp2_with fail
   refine (qq6 _ _ _ _ _ _ (q k).rs (q k).os _ (HL.out k hlt).1 (HL.out k hlt).2 (HB.lst k hlt).1 (HB.lst k hlt).2).mono ?_;rintro e w1 ⟨v1,rfl,o1,hb1⟩;obtain ⟨ra1,rc1,oa1,oc1,rfl,-,-⟩:=o1.read;have hr1:w1.rowIs w.heap.size 142 (n*4) f:=HR.of_block (hb1.block _ hs);have f0:=hr1.frozen;have g0:=hr1.cell (i:=k*4) (by omega);have g1:=hr1.cell (i:=k*4+1) (by omega);have g2:=hr1.cell (i:=k*4+2) (by omega);have g3:=hr1.cell (i:=k*4+3) (by omega);have HR1:Hid (w1.rowIs w.heap.size 142 (n*4) f):=hr1
   have HF1:Hid (∀ a b c d:Value,∃ vs,quh ((((w1.setCell ⟨w.heap.size,k*4,none⟩ a).setCell ⟨w.heap.size,k*4+1,none⟩ b).setCell ⟨w.heap.size,k*4+2,none⟩ c).setCell ⟨w.heap.size,k*4+3,none⟩ d) w.heap.size (k+1) (fun i=>if i=k*4+3 then .int .i64 (q k).c else if i=k*4+2 then .slice oa1 (q k).os.length oc1 else if i=k*4+1 then .slice ra1 (q k).rs.length rc1 else if i=k*4 then .int .i64 (q k).p else f i) (fun i=>(q i).s) vs):=by
    intro a b c d;obtain ⟨vs,o⟩:=HF.out;exact ⟨_,o.step hb1 hs (S:=fun i=>(q i).s) (k:=k) o1 a b c d⟩
   clear hr1 o1 HF HR HB c0 c1 c2 c3;go_wp2_with fail
   exact ⟨⟨k+1,by omega,by go_num,⟨_,(((HR1.set _ _).set _ _).set _ _).set _ _,HF1.out _ _ _ _⟩,((((hbw.trans (hb1.mono (nJ hs))).setCell (nA _) _).setCell (nA _) _).setCell (nA _) _).setCell (nA _) _⟩,by simp [intOf];omega⟩
  ·have hkl:k=n:=by omega
   have HO:Hid (∃ vs,qav wr w.heap.size wr.heap.size n (fun i=>(q i).s) vs):=by
    obtain ⟨vs,o⟩:=HF.out;rw [hkl] at o;refine ⟨vs,fun i hi=>?_,o.own,fun i hi b hb=>((o.own i hi).lt hb).2,o.apart,fun j=>hrow.frozen j,nA _,hs⟩;obtain ⟨ra,rc,oa,oc,e0,e1,e2,e3,e4⟩:=o.cel i hi;exact ⟨ra,rc,oa,oc,e0,by rw [hrow.cell (by omega),e1],by rw [hrow.cell (by omega),e2],by rw [hrow.cell (by omega),e3],by rw [hrow.cell (by omega),e4]⟩
   clear hkl HF hrow;go_wp2;go_ret;exact ⟨rfl,HO.out,hbw⟩
def EvL (w:World) (a:Option Addr) (len:Nat) (h:Nat->E3):Prop:=len=0\/∃ b off,a=some ⟨b,off,none⟩/\b<w.heap.size/\EvAt w b off len h
theorem EvL.bw {w w':World} {a:Option Addr} {len:Nat} {h:Nat->E3} (hh:EvL w a len h) (hb:Below w.heap.size w w'):EvL w' a len h:=by
 rcases hh with e | ⟨b,off,e,hlt,hc⟩
 ·exact .inl e
 ·exact .inr ⟨b,off,e,zL hlt hb.size,hc.bw hb hlt⟩
theorem EvL.at {w:World} {a:Option Addr} {len:Nat} {h:Nat->E3} (hh:EvL w a len h) {k:Nat} (hk:k<len):∃ b off,a=some ⟨b,off,none⟩/\b<w.heap.size/\w.cell? ⟨b,off+k*3,none⟩=some (.int .i64 (h k).k)/\w.cell? ⟨b,off+k*3+1,none⟩=some (.int .i64 (h k).q)/\w.cell? ⟨b,off+k*3+2,none⟩=some (.int .i64 (h k).v):=by
 rcases hh with rfl | ⟨b,off,e,hlt,hc⟩
 ·omega
 ·exact ⟨b,off,e,hlt,hc k hk⟩
theorem EvL.take {w:World} {a:Option Addr} {len:Nat} {h:Nat->E3} (hh:EvL w a len h) {k:Nat} (hk:k<=len):EvL w a k h:=by
 rcases hh with rfl | ⟨b,off,e,hlt,hc⟩
 ·exact .inl (by omega)
 ·exact .inr ⟨b,off,e,hlt,fun i hi=>hc i (by omega)⟩
theorem EvL.one {w:World} {b off len:Nat} {h:Nat->E3} (hh:EvL w (some ⟨b,off,none⟩) len h) {k:Nat} (hk:k<len):EvAt w b off len h/\b<w.heap.size:=by
 rcases hh with rfl | ⟨b',off',e,hlt,hc⟩
 ·omega
 ·simp only [nG,Addr.mk.injEq] at e
  obtain ⟨rfl,rfl,-⟩:=e;exact ⟨hc,hlt⟩
theorem qf6 (a0:Option Addr) (len cap:Nat) (L:Int) (w:World) (h:(len:Int)<=L) (hL:L<=1048576):
  Calls prog 116 #[.slice a0 len cap,.int .i64 L] w fun e w'=>e=.returned (.int .i64 (L - (len:Int)))/\w'=w:=by
 have h1:(len:Int)<=1048576:=by omega
 have h2:0<=L:=by omega
 have h3:¬ (L - (len:Int)<0):=by omega
 go_enter func116,ntmps116
 go_wp2;go_ret;exact ⟨rfl,rfl⟩
theorem ql6 (a0:Option Addr) (len cap:Nat) (L:Int) (w:World) (h:L<(len:Int)) (h0:0<=L) (hL:L<=1048576) (hm:len<=maxLen):
  Calls prog 116 #[.slice a0 len cap,.int .i64 L] w fun e w'=>e=.returned (.int .i64 (-1))/\w'=w:=by
 unfold maxLen at hm;have h2:(len:Int)<=9223372036854775807:=by omega
 have h3:L - (len:Int)<0:=by omega
 go_enter func116,ntmps116
 go_wp2;go_ret;exact ⟨rfl,rfl⟩
structure qbo (w:World) (D hi n:Nat) (ls:Nat->Nat) (bs:Nat->Nat) (h:Nat->Nat->I5):Prop where
 cel:∀ i,i<n->w.cell? ⟨D,i,none⟩=some (.slice (some ⟨bs i,0,none⟩) (ls i) (ls i))
 bd:∀ i,i<n->D<bs i/\bs i<hi
 row:∀ i,i<n->qao w (bs i) 0 (ls i) (h i)
 fr:∀ i,i<n->∀ j,w.frozen? ⟨bs i,j,none⟩=false
 up:∀ i j,i<j->j<n->bs i<bs j
 le:hi<=w.heap.size
 lt:D<hi
theorem qbo.bw {w w':World} {D hi n B:Nat} {ls:Nat->Nat} {bs:Nat->Nat} {h:Nat->Nat->I5} (o:qbo w D hi n ls bs h) (hb:Below B w w') (hB:hi<=B):qbo w' D hi n ls bs h:=
 ⟨fun i hi'=>(hb.cell (p:=⟨D,i,none⟩) (zL o.lt hB)).trans (o.cel i hi'),o.bd,fun i hi'=>(o.row i hi').bw hb (zL (o.bd i hi').2 hB),fun i hi' j=>(hb.frozen (p:=⟨bs i,j,none⟩) (zL (o.bd i hi').2 hB)).trans (o.fr i hi' j),o.up,zO o.le hb.size,o.lt⟩
theorem qbo.keep {w w':World} {D hi n:Nat} {ls:Nat->Nat} {bs:Nat->Nat} {h:Nat->Nat->I5} (o:qbo w D hi n ls bs h) (hs:w.heap.size<=w'.heap.size) (hb:∀ k,D<=k->k<hi->w'.heap[k]? = w.heap[k]?):qbo w' D hi n ls bs h:=by
 refine ⟨fun i hi'=>(zH (hb D (nA _) o.lt)).trans (o.cel i hi'),o.bd,fun i hi'=>?_,fun i hi' j=>(zI (hb _ (nJ (o.bd i hi').1) (o.bd i hi').2)).trans (o.fr i hi' j),o.up,zO o.le hs,o.lt⟩;have hc:∀ j,w'.cell? ⟨bs i,j,none⟩=w.cell? ⟨bs i,j,none⟩:=fun j=>zH (hb _ (nJ (o.bd i hi').1) (o.bd i hi').2);intro t ht;have:=o.row i hi' t ht;simp only [hc];exact this
theorem qcy (a0:Option Addr) (n cap:Nat) (aa:Nat->Option Addr) (ls cs:Nat->Nat) (L:Int) (w:World) (hr:RowS w a0 n fun i=>.slice (aa i) (ls i) (cs i)) (h:(n:Int)+(sumL ls n:Nat)<=L) (hL:L<=1048576):
  Calls prog 48 #[.slice a0 n cap,.int .i64 L] w fun e w'=>e=.returned (.int .i64 (L - n - (sumL ls n:Nat)))/\w'=w:=by
 have hn:(n:Int)<=1048576:=by omega
 have h0:0<=L:=by omega
 have hn0:¬ (L - (n:Int)<0):=by omega
 have HR:Hid (RowS w a0 n fun i=>.slice (aa i) (ls i) (cs i)):=hr;have HS:Hid ((n:Int)+(sumL ls n:Nat)<=L):=h;clear hr h
 go_enter func48,ntmps48
 go_wp2_with fail
 go_loopw [1,5] (fun q i wr=>∃ k:Nat,k<=n/\i=.int .i64 k/\q=.int .i64 (L - n - (sumL ls k:Nat))/\wr=w) (fun _ i _=>n - (intOf i).toNat)
 case atStart=>exact ⟨0,nD _,rfl,by simp [sumL],rfl⟩
 case round=>
  obtain ⟨k,hk,rfl,rfl,rfl⟩:=hrel;by_cases hlt:k<n
  ·have hlt':(k:Int)<(n:Int):=by omega
   obtain ⟨b,off,rfl,ck⟩:=HR.at hlt;have hsl:=qbf ls hlt;have hS:=HS.out;have e1:(L - n - (sumL ls k:Nat)) - (ls k:Int)=L - n - (sumL ls (k+1):Nat):=by simp only [sumL];omega
   have HE:Hid ((L - n - (sumL ls k:Nat)) - (ls k:Int)=L - n - (sumL ls (k+1):Nat)):=e1;have e2:(ls k:Int)<=L - n - (sumL ls k:Nat):=by omega
   have e3:¬ (L - n - (sumL ls (k+1):Nat)<0):=by omega
   have e4:L - n - (sumL ls k:Nat)<=1048576:=by omega
   clear e1 hS hsl;generalize hy:L - n - (sumL ls (k+1):Nat)=Y at *;go_wp2_with fail
   refine (qf6 _ _ _ _ _ e2 e4).mono ?_;rintro e w1 ⟨rfl,rfl⟩;rw [HE.out];clear e2 e4;go_wp2;go_roundw
   case rel=>exact ⟨k+1,by omega,by go_num,by rw [<- hy],by trivial⟩
   case measure=>simp [intOf];omega
  ·have hkl:k=n:=by omega
   subst hkl;go_wp2;go_ret;exact ⟨rfl,rfl⟩
theorem ql5 (a0:Option Addr) (n cap:Nat) (aa:Nat->Option Addr) (ls cs:Nat->Nat) (L:Int) (w:World) (hr:RowS w a0 n fun i=>.slice (aa i) (ls i) (cs i)) (h:L<(n:Int)+(sumL ls n:Nat)) (h0:0<=L) (hL:L<=1048576) (hm:n<=maxLen) (hl:∀ i,i<n->ls i<=maxLen):
  Calls prog 48 #[.slice a0 n cap,.int .i64 L] w fun e w'=>e=.returned (.int .i64 (-1))/\w'=w:=by
 have hm':(n:Int)<=9223372036854775807:=by unfold maxLen at hm;omega
 by_cases hn0:L - (n:Int)<0
 ·go_enter func48,ntmps48
  go_wp2;go_ret;exact ⟨rfl,rfl⟩
 have hn:(n:Int)<=1048576:=by omega
 have HR:Hid (RowS w a0 n fun i=>.slice (aa i) (ls i) (cs i)):=hr;have HS:Hid (L<(n:Int)+(sumL ls n:Nat)):=h;have HL:Hid (∀ i,i<n->ls i<=maxLen):=hl;clear hr h hl hm
 go_enter func48,ntmps48
 go_wp2_with fail
 go_loopw [1,5] (fun q i wr=>∃ k:Nat,k<=n/\i=.int .i64 k/\q=.int .i64 (L - n - (sumL ls k:Nat))/\0<=L - n - (sumL ls k:Nat)/\wr=w) (fun _ i _=>n - (intOf i).toNat)
 case atStart=>exact ⟨0,nD _,rfl,by simp [sumL],by simp only [sumL];omega,rfl⟩
 case round=>
  obtain ⟨k,hk,rfl,rfl,hp,rfl⟩:=hrel;by_cases hlt:k<n
  ·have hlt':(k:Int)<(n:Int):=by omega
   obtain ⟨b,off,rfl,ck⟩:=HR.at hlt;have hml:=HL.out k hlt;have e1:(L - n - (sumL ls k:Nat)) - (ls k:Int)=L - n - (sumL ls (k+1):Nat):=by simp only [sumL];omega
   have HE:Hid ((L - n - (sumL ls k:Nat)) - (ls k:Int)=L - n - (sumL ls (k+1):Nat)):=e1;have e4:L - n - (sumL ls k:Nat)<=1048576:=by omega
   clear e1;by_cases hb:(ls k:Int)<=L - n - (sumL ls k:Nat)
   ·have e3:0<=L - n - (sumL ls (k+1):Nat):=by have:=HE.out;omega
    have e3':¬ (L - n - (sumL ls (k+1):Nat)<0):=by omega
    generalize hy:L - n - (sumL ls (k+1):Nat)=Y at *;go_wp2_with fail
    refine (qf6 _ _ _ _ _ hb e4).mono ?_;rintro e w1 ⟨rfl,rfl⟩;rw [HE.out];clear hb e4 hml hp;go_wp2;go_roundw
    case rel=>exact ⟨k+1,by omega,by go_num,by rw [<- hy],by omega,by trivial⟩
    case measure=>simp [intOf];omega
   ·have hb':L - n - (sumL ls k:Nat)<(ls k:Int):=by omega
    go_wp2_with fail
    refine (ql6 _ _ _ _ _ hb' hp e4 hml).mono ?_;rintro e w1 ⟨rfl,rfl⟩;clear hb hb' e4 hml hp HE;go_wp2;go_ret;exact ⟨rfl,rfl⟩
  ·have hkl:k=n:=by omega
   subst hkl;have:=HS.out;omega
theorem qwq:(prog.info? 144).map (fun i=>(i.zero,i.size,i.bytes))=some (some nS,1,24):=by kernel_rfl
theorem qlx (n:Nat) (hn:n<=1048576) (w:World):
  (Instr.makeSlice 36 (.int .i64 (n:Int)) (.int .i64 (n:Int))).run prog w=.ok (sG w.heap.size n n) (w.alloc (.cells (madeCells #[nS] n) 144)):=by
 have hinfo:=qwq;cases hi:prog.info? 144 with
 | none=>rw [hi] at hinfo;cases hinfo
 | some i=>
  rw [hi] at hinfo;simp only [Option.map_some,nG,Prod.mk.injEq] at hinfo;obtain ⟨hz,hs,hb⟩:=hinfo;have h:=run_make (P:=prog) w 36 144 i _ Tryz.underlying36 hi hz .i64 .i64 (n:Int) (n:Int) (by omega) (Int.le_refl _) (by rw [hb];omega) (by omega);rw [hs] at h;simpa [Value.cells] using h
theorem qnt (w:World) (n:Nat):(w.alloc (.cells (madeCells #[nS] n) 144)).rowIs w.heap.size 144 n (fun _=>.slice none 0 0):=by
 refine ⟨_,blk_alloc_new _ _,size_madeCells _ _,fun i hi=>?_⟩;simp only [madeCells];rw [Array.getElem?_map,Array.getElem?_range,nC hi];have:i % 1=0:=Nat.mod_one i;exact congrArg some (by simp [this])
structure qh5 (w:World) (D k:Nat) (f:Nat->Value) (ls:Nat->Nat) (bs:Nat->Nat) (h:Nat->Nat->I5):Prop where
 cel:∀ i,i<k->f i=.slice (some ⟨bs i,0,none⟩) (ls i) (ls i)
 bd:∀ i,i<k->D<bs i/\bs i<w.heap.size
 row:∀ i,i<k->qao w (bs i) 0 (ls i) (h i)
 fr:∀ i,i<k->∀ j,w.frozen? ⟨bs i,j,none⟩=false
 up:∀ i j,i<j->j<k->bs i<bs j
theorem qh5.step {w w1:World} {D k:Nat} {f:Nat->Value} {ls:Nat->Nat} {bs:Nat->Nat} {h:Nat->Nat->I5} (o:qh5 w D k f ls bs h) (hb:Below w.heap.size w w1) (hD:D<w.heap.size) (hz:w.heap.size<w1.heap.size) (hr:qao w1 w.heap.size 0 (ls k) (h k)) (hf:∀ j,w1.frozen? ⟨w.heap.size,j,none⟩=false) (u:Value):
  qh5 (w1.setCell ⟨D,k,none⟩ u) D (k+1) (fun i=>if i=k then .slice (some ⟨w.heap.size,0,none⟩) (ls k) (ls k) else f i) ls (fun i=>if i=k then w.heap.size else bs i) h:=by
 have hs:∀ b,b≠D->(w1.setCell ⟨D,k,none⟩ u).heap[b]? = w1.heap[b]?:=fun b hne=>zN _ _ _ _ hne
 have hat:∀ b n g,b≠D->qao w1 b 0 n g->qao (w1.setCell ⟨D,k,none⟩ u) b 0 n g:=fun b n g hne hg=>fun i hi=>by
  have hc:∀ j,(w1.setCell ⟨D,k,none⟩ u).cell? ⟨b,j,none⟩=w1.cell? ⟨b,j,none⟩:=fun j=>zH (hs b hne);have:=hg i hi;simp only [hc];exact this
 refine ⟨fun i hi=>?_,fun i hi=>?_,fun i hi=>?_,fun i hi j=>?_,fun i j hij hj=>?_⟩
 ·by_cases e:i=k
  ·subst e;simp
  ·simp only [nB e];exact o.cel i (by omega)
 ·by_cases e:i=k
  ·subst e;simp;omega
  ·simp only [nB e,World.size_setCell];have:=o.bd i (by omega);omega
 ·by_cases e:i=k
  ·subst e;simp only [nQ];exact hat _ _ _ (by omega) hr
  ·simp only [nB e];have hbd:=o.bd i (by omega);exact hat _ _ _ (by omega) ((o.row i (by omega)).bw hb hbd.2)
 ·by_cases e:i=k
  ·subst e;simp only [nQ];rw [World.frozen?_setCell];exact hf j
  ·simp only [nB e];rw [World.frozen?_setCell];have hbd:=o.bd i (by omega);exact (hb.frozen (p:=⟨bs i,j,none⟩) hbd.2).trans (o.fr i (by omega) j)
 ·by_cases e:j=k
  ·have hi:i≠k:=by omega
   simp only [nB hi,nC e];exact (o.bd i (by omega)).2
  ·have hi:i≠k:=by omega
   simp only [nB hi,nB e];exact o.up i j hij (by omega)
structure qrb (W:World) (a0:Option Addr) (n:Nat) (aa:Nat->Option Addr) (ls cs:Nat->Nat) (h:Nat->Nat->I5):Prop where
 row:RowS W a0 n fun i=>.slice (aa i) (ls i) (cs i)
 cop:∀ i,i<n->qkc W (aa i) (ls i) (cs i) (h i)
theorem qq2 (a0:Option Addr) (n cap:Nat) (aa:Nat->Option Addr) (ls cs:Nat->Nat) (h:Nat->Nat->I5) (W w:World) (hn:n<=1048576) (hA:qrb W a0 n aa ls cs h) (hW:Below W.heap.size W w):
  Calls prog 57 #[.slice a0 n cap] w fun e w'=>e=.returned (sG w.heap.size n n)/\(∃ bs,qbo w' w.heap.size w'.heap.size n ls bs h)/\Below w.heap.size w w':=by
 have hl':(n:Int)<=1048576:=by omega
 have hmk:=qlx n hn;have HA:Hid (qrb W a0 n aa ls cs h):=hA;have HW:Hid (Below W.heap.size W w):=hW;clear hA hW
 go_enter func57,ntmps57
 go_wp2_with fail
 clear hmk
 go_loopw [4] (fun i wr=>∃ k:Nat,k<=n/\i=.int .i64 k/\(∃ f,wr.rowIs w.heap.size 144 n f/\Hid (∃ bs,qh5 wr w.heap.size k f ls bs h))/\Below w.heap.size w wr) (fun i _=>n - (intOf i).toNat)
 case atStart=>exact ⟨0,nD _,rfl,⟨_,qnt w n,fun _=>0,fun i hi=>by omega,fun i hi=>by omega,fun i hi=>by omega,fun i hi=>by omega,fun i j hij hj=>by omega⟩,(nE _ _).alloc (nA _) _⟩
 case round=>
  obtain ⟨k,hk,rfl,⟨f,hrow,HF⟩,hbw⟩:=hrel;have hs:=hrow.lt;by_cases hlt:k<n
  ·have hlt':(k:Int)<(n:Int):=by omega
   have HB:Hid (Below W.heap.size W wr):=HW.trans (hbw.mono HW.size);obtain ⟨b,off,rfl,ck⟩:=(HA.row.bw HB.out).at hlt;have HR:Hid (wr.rowIs w.heap.size 144 n f):=hrow;clear hrow;go_wp2_with fail
   refine (HA.cop k hlt wr HB.out).mono ?_;rintro e w1 ⟨rfl,hi1,hz1,hb1,hf1⟩;have hr1:w1.rowIs w.heap.size 144 n f:=HR.of_block (hb1.block _ hs);have f0:=hr1.frozen k;have g0:=hr1.cell (i:=k) hlt;have HR1:Hid (w1.rowIs w.heap.size 144 n f):=hr1
   have HF1:Hid (∃ bs,qh5 (w1.setCell ⟨w.heap.size,k,none⟩ (.slice (some ⟨wr.heap.size,0,none⟩) (ls k) (ls k))) w.heap.size (k+1) (fun i=>if i=k then .slice (some ⟨wr.heap.size,0,none⟩) (ls k) (ls k) else f i) ls bs h):=by
    obtain ⟨bs,o⟩:=HF.out;exact ⟨_,o.step hb1 hs hz1 hi1 hf1 _⟩
   clear hr1 hi1 HF HR hf1;go_wp2_with fail
   exact ⟨⟨k+1,by omega,by go_num,⟨_,HR1.set _ _,HF1.out⟩,(hbw.trans (hb1.mono (nJ hs))).setCell (nA _) _⟩,by simp [intOf];omega⟩
  ·have hkl:k=n:=by omega
   have HO:Hid (∃ bs,qbo wr w.heap.size wr.heap.size n ls bs h):=by
    obtain ⟨bs,o⟩:=HF.out;rw [hkl] at o;exact ⟨bs,fun i hi=>by rw [hrow.cell hi,o.cel i hi],o.bd,o.row,o.fr,o.up,nA _,hs⟩
   clear hkl HF hrow;go_wp2;go_ret;exact ⟨rfl,HO.out,hbw⟩
theorem qm8 (D1 h1 D2 h2 n c1 c2:Nat) (ls b1 b2:Nat->Nat) (h:Nat->Nat->I5) (w:World) (hn:n<=1048576) (hl:∀ i,i<n->ls i<=1048576) (o1:qbo w D1 h1 n ls b1 h) (o2:qbo w D2 h2 n ls b2 h):
  Calls prog 80 #[.slice (some ⟨D1,0,none⟩) n c1,.slice (some ⟨D2,0,none⟩) n c2] w (rB w (.bool true)):=by
 have hl':(n:Int)<=1048576:=by omega
 have O1:Hid (qbo w D1 h1 n ls b1 h):=o1;have O2:Hid (qbo w D2 h2 n ls b2 h):=o2;have HL:Hid (∀ i,i<n->ls i<=1048576):=hl;clear o1 o2 hl
 go_enter func80,ntmps80
 go_wp2_with fail
 go_loopw [5] (fun i wr=>∃ k:Nat,k<=n/\i=.int .i64 k/\Below w.heap.size w wr) (fun i _=>n - (intOf i).toNat)
 case atStart=>exact ⟨0,nD _,rfl,nE _ _⟩
 case round=>
  obtain ⟨k,hk,rfl,hbw⟩:=hrel;have hs:=hbw.size;by_cases hlt:k<n
  ·have P1:Hid (qbo wr D1 h1 n ls b1 h):=O1.bw hbw O1.le
   have P2:Hid (qbo wr D2 h2 n ls b2 h):=O2.bw hbw O2.le;have ck:=P1.cel k hlt;have dk:=P2.cel k hlt;have hlt':(k:Int)<(n:Int):=by omega
   go_wp2_with fail
   first|(go_region_with (go_at_call 147;refine (qik (b1 k) (b2 k) (ls k) (ls k) (ls k) (h k) wr.drew (HL.out k hlt) (zL (P1.bd k hlt).2 P1.le) (zL (P2.bd k hlt).2 P2.le) (P1.row k hlt) (P2.row k hlt)).mono ?_;rintro e w1 ⟨rfl,hq1⟩)) | fail
   all_goals
    go_wp2;go_roundw
    case rel=>exact ⟨k+1,by omega,by go_num,hbw.drew.trans (hq1.mono hs)⟩
    case measure=>simp [intOf];omega
  ·go_wp2
   go_ret;exact ⟨rfl,hbw⟩
theorem qlj (D hi n cap:Nat) (ls bs:Nat->Nat) (h:Nat->Nat->I5) (k:Int) (w:World) (hn:n<=1048576) (hl:sumL ls n<=1048576) (k0:0<=k) (k1:k<=50000000) (o:qbo w D hi n ls bs h):
  Calls prog 87 #[.slice (some ⟨D,0,none⟩) n cap,.int .i64 k] w fun e w'=>e=.returned (.int .i64 (k+5*(sumL ls n:Nat)))/\qaa (fun b=>D<b/\b<hi) w w':=by
 have hl':(n:Int)<=1048576:=by omega
 have O:Hid (qbo w D hi n ls bs h):=o;have HL:Hid (sumL ls n<=1048576):=hl;clear o hl
 go_enter func87,ntmps87
 go_wp2_with fail
 go_loopw [1,5] (fun q i wr=>∃ j:Nat,j<=n/\i=.int .i64 j/\q=.int .i64 (k+5*(sumL ls j:Nat))/\Hid (qaa (fun b=>∃ t,t<j/\b=bs t) w wr)) (fun _ i _=>n - (intOf i).toNat)
 case atStart=>exact ⟨0,nD _,rfl,by simp [sumL],qaa.refl _ _⟩
 case round=>
  obtain ⟨j,hj,rfl,rfl,HT⟩:=hrel;by_cases hlt:j<n
  ·have hlt':(j:Int)<(n:Int):=by omega
   have dD:¬ ∃ t,t<j/\D=bs t:=by
    rintro ⟨t,ht,e⟩;have:=(O.bd t (by omega)).1;omega
   have dJ:¬ ∃ t,t<j/\bs j=bs t:=by
    rintro ⟨t,ht,e⟩;have:=O.up t j ht hlt;omega
   have bJ:=O.bd j hlt;have le:=O.le;have ck:wr.cell? ⟨D,j,none⟩=some (.slice (some ⟨bs j,0,none⟩) (ls j) (ls j)):=(HT.cell (zL O.lt le) dD j).trans (O.cel j hlt)
   have RM:Hid (Room wr (bs j) (ls j)):=by
    have hb:wr.heap[bs j]? = w.heap[bs j]?:=HT.block (bs j) (by omega) dJ;have hrm:Room w (bs j) (ls j):=Room.of_ins (O.row j hlt) (O.fr j hlt);exact ⟨fun i hi=>(hrm.1 i hi).elim fun u e=>⟨u,(zH hb).trans e⟩,fun i=>(zI hb).trans (hrm.2 i)⟩
   have hsl:=qbf ls hlt;have hS:=HL.out;have e1:k+5*(sumL ls j:Nat)+5*(ls j:Int)=k+5*(sumL ls (j+1):Nat):=by simp only [sumL];omega
   have HE:Hid (k+5*(sumL ls j:Nat)+5*(ls j:Int)=k+5*(sumL ls (j+1):Nat)):=e1;have e2:0<=k+5*(sumL ls j:Nat):=by omega
   have e3:k+5*(sumL ls j:Nat)<=100000000:=by omega
   have e4:ls j<=1048576:=by omega
   clear dD bJ le e1 hS hsl;go_wp2_with fail
   refine (qnx (bs j) (ls j) (ls j) _ wr e4 e2 e3 RM.out).mono ?_;rintro e w1 ⟨rfl,g1⟩;rw [HE.out];have HT1:Hid (qaa (fun b=>∃ t,t<j+1/\b=bs t) w w1):=(HT.mono fun b ⟨t,ht,e⟩=>⟨t,by omega,e⟩).trans (qaa.of_grown g1 fun b e=>⟨j,by omega,by simpa using e.symm⟩);clear HT dJ RM e2 e3 e4 g1;go_wp2;go_roundw
   case rel=>exact ⟨j+1,by omega,by go_num,rfl,HT1.out⟩
   case measure=>simp [intOf];omega
  ·have hkl:j=n:=by omega
   subst hkl
   have HT1:Hid (qaa (fun b=>D<b/\b<hi) w wr):=HT.mono fun b ⟨t,ht,e⟩=>by
    subst e;exact O.bd t ht
   clear HT;go_wp2;go_ret;exact ⟨rfl,HT1.out⟩
theorem qtr {H:Type} {enc:TypeId × Value->H} {w:World} {spare:Nat->Bool} {held:Bool} {base:Nat} {a0:Option Addr} {len cap:Nat} {d:DataW H} {p:List MemPlace}
  (h:DataW.Trod enc prog w base spare held 22 (.slice a0 len cap) d p):
  len<=maxLen/\∃ aa ls cs,RowS w a0 len (fun i=>.slice (aa i) (ls i) (cs i))/\(∀ i,i<len->ls i<=maxLen)/\((∀ i,i<len->ls i<=1048576)->∃ hh,qrb w a0 len aa ls cs hh):=by
 obtain ⟨hm,f,hrow,hf⟩:=qdk Tryz.underlying22 (el:=157) (by kernel_rfl) h;refine ⟨hm,?_⟩
 have hpart:∀ i,i<len->∃ x:Option Addr × Nat × Nat,f i=.slice x.1 x.2.1 x.2.2/\x.2.1<=maxLen/\(x.2.1<=1048576->∃ g,qkc w x.1 x.2.1 x.2.2 g):=by
  intro i hi;obtain ⟨m,x,hx⟩:=hf i hi
  have hsl:∃ a l c,f i=.slice a l c:=by
   rcases Go.Deep.open_slice Tryz.underlying157 hx with ⟨hcs,_⟩ | ⟨a,len',cap',m,n,D,Pl,hcs,_⟩
   ·simp at hcs
    exact ⟨_,_,_,hcs⟩
   ·simp at hcs
    exact ⟨_,_,_,hcs⟩
  obtain ⟨a,l,c,e⟩:=hsl;rw [e] at hx;obtain ⟨h1,h2⟩:=qqm (d:=x.1) (p:=x.2) (a0:=a) (len:=l) (cap:=c) ⟨m,by simpa [Value.cells] using hx⟩;exact ⟨(a,l,c),e,h1,fun hs=>qss hs h2⟩
 obtain ⟨g,hg⟩:=Go.Deep.choose_lt (α:=Option Addr × Nat × Nat) hpart;refine ⟨fun i=>(g i).1,fun i=>(g i).2.1,fun i=>(g i).2.2,?_,fun i hi=>(hg i hi).2.1,fun hs=>?_⟩
 ·rcases hrow with h0 | ⟨b,off,e,hlt,hc⟩
  ·exact .inl h0
  ·exact .inr ⟨b,off,e,hlt,fun i hi=>(hc i hi).trans (by rw [(hg i hi).1])⟩
 ·have hq:∀ i,i<len->∃ q:Nat->I5,qkc w (g i).1 (g i).2.1 (g i).2.2 q:=fun i hi=>(hg i hi).2.2 (hs i hi)
  have inh:Inhabited (Nat->I5):=⟨fun _=>⟨0,0,0,0,0⟩⟩
  obtain ⟨hh,hhh⟩:=Go.Deep.choose_lt (α:=Nat->I5) hq;refine ⟨hh,?_,hhh⟩
  rcases hrow with h0 | ⟨b,off,e,hlt,hc⟩
  ·exact .inl h0
  ·exact .inr ⟨b,off,e,hlt,fun i hi=>(hc i hi).trans (by rw [(hg i hi).1])⟩
theorem qkw (D1 h1 D2 h2 n c1 c2:Nat) (S:Nat->S4) (v1 v2:Nat->Value) (w:World) (hn:n<=1048576) (hl:∀ i,i<n->(S i).rs.length<=1048576/\(S i).os.length<=1048576) (o1:qav w D1 h1 n S v1) (o2:qav w D2 h2 n S v2):
  Calls prog 81 #[.slice (some ⟨D1,0,none⟩) n c1,.slice (some ⟨D2,0,none⟩) n c2] w (rB w (.bool true)):=by
 have hl':(n:Int)<=1048576:=by omega
 have O1:Hid (qav w D1 h1 n S v1):=o1;have O2:Hid (qav w D2 h2 n S v2):=o2;have HL:Hid (∀ i,i<n->(S i).rs.length<=1048576/\(S i).os.length<=1048576):=hl;clear o1 o2 hl
 go_enter func81,ntmps81
 go_wp2_with fail
 go_loopw [5] (fun i wr=>∃ k:Nat,k<=n/\i=.int .i64 k/\Below w.heap.size w wr) (fun i _=>n - (intOf i).toNat)
 case atStart=>exact ⟨0,nD _,rfl,nE _ _⟩
 case round=>
  obtain ⟨k,hk,rfl,hbw⟩:=hrel;have hs:=hbw.size;by_cases hlt:k<n
  ·have P1:Hid (qav wr D1 h1 n S v1):=O1.bw hbw O1.le
   have P2:Hid (qav wr D2 h2 n S v2):=O2.bw hbw O2.le;obtain ⟨ra,rc,oa,oc,e1,a0,a1,a2,a3⟩:=P1.cel k hlt;obtain ⟨ra',rc',oa',oc',e2,b0,b1,b2,b3⟩:=P2.cel k hlt
   have hsl1:Sl wr ra (S k).rs/\Sl wr oa (S k).os:=by
    obtain ⟨x1,x2,x3,x4,e,s1,s2⟩:=(P1.own k hlt).read;rw [e1] at e;simp only [Value.agg.injEq,Array.mk.injEq,List.cons.injEq,Value.slice.injEq,and_true,true_and] at e;obtain ⟨⟨rfl,rfl⟩,rfl,rfl⟩:=e;exact ⟨s1,s2⟩
   have hsl2:Sl wr ra' (S k).rs/\Sl wr oa' (S k).os:=by
    obtain ⟨x1,x2,x3,x4,e,s1,s2⟩:=(P2.own k hlt).read;rw [e2] at e;simp only [Value.agg.injEq,Array.mk.injEq,List.cons.injEq,Value.slice.injEq,and_true,true_and] at e;obtain ⟨⟨rfl,rfl⟩,rfl,rfl⟩:=e;exact ⟨s1,s2⟩
   have H1:Hid (Sl wr ra (S k).rs/\Sl wr oa (S k).os):=hsl1;have H2:Hid (Sl wr ra' (S k).rs/\Sl wr oa' (S k).os):=hsl2;have hlt':(k:Int)<(n:Int):=by omega
   clear hsl1 hsl2 e1 e2;go_wp2_with fail
   first|(go_region_with (go_at_call 148;refine (qha _ _ ra oa ra' oa' rc oc rc' oc' (S k).rs (S k).os wr.drew (HL.out k hlt).1 (HL.out k hlt).2 H1.1 H1.2 H2.1 H2.2).mono ?_;rintro e w1 ⟨rfl,hq1⟩)) | fail
   all_goals
    go_wp2;go_roundw
    case rel=>exact ⟨k+1,by omega,by go_num,hbw.drew.trans (hq1.mono hs)⟩
    case measure=>simp [intOf];omega
  ·go_wp2
   go_ret;exact ⟨rfl,hbw⟩
structure MkS (w wr:World) (D j:Nat) (vs:Nat->Value):Prop where
 tch:qaa (fun b=>b=D\/∃ t,t<j/\qae (vs t) b) w wr
 cel:∀ i,j*4<=i->wr.cell? ⟨D,i,none⟩=w.cell? ⟨D,i,none⟩
 fr:∀ i,wr.frozen? ⟨D,i,none⟩=false
theorem qjr (D hi n cap:Nat) (S:Nat->S4) (vs:Nat->Value) (k:Int) (w:World) (hn:n<=1048576) (hl:sumL (lenS S) n<=1048576) (k0:0<=k) (k1:k<=50000000) (o:qav w D hi n S vs):
  Calls prog 88 #[.slice (some ⟨D,0,none⟩) n cap,.int .i64 k] w fun e w'=>e=.returned (.int .i64 (k+(2*n+sumL (lenS S) n:Nat)))/\qaa (fun b=>D<=b/\b<hi) w w':=by
 have hl':(n:Int)<=1048576:=by omega
 have O:Hid (qav w D hi n S vs):=o;have HL:Hid (sumL (lenS S) n<=1048576):=hl;clear o hl
 go_enter func88,ntmps88
 go_wp2_with fail
 go_loopw [1,5] (fun q i wr=>∃ j:Nat,j<=n/\i=.int .i64 j/\q=.int .i64 (k+(2*j+sumL (lenS S) j:Nat))/\Hid (MkS w wr D j vs)) (fun _ i _=>n - (intOf i).toNat)
 case atStart=>exact ⟨0,nD _,rfl,by simp [sumL],qaa.refl _ _,fun _ _=>rfl,O.fr⟩
 case round=>
  obtain ⟨j,hj,rfl,rfl,HT⟩:=hrel;by_cases hlt:j<n
  ·have hlt':(j:Int)<(n:Int):=by omega
   obtain ⟨ra,rc,oa,oc,ev,a0,a1,a2,a3⟩:=O.cel j hlt;have c0:=(HT.cel (j*4) (by omega)).trans a0;have c1:=(HT.cel (j*4+1) (by omega)).trans a1;have c2:=(HT.cel (j*4+2) (by omega)).trans a2;have c3:=(HT.cel (j*4+3) (by omega)).trans a3;have fz:=HT.fr;have hD:D<wr.heap.size:=zL O.lt (zO O.le HT.tch.size);have how:=O.own j hlt
   have howr : qag wr (D + 1) (vs j) (S j).p (S j).rs (S j).os (S j).c := how.blk fun b hb => HT.tch.block b (how.lt hb).2 (by
    rintro (e | ⟨t,ht,h1⟩)
    ·have:=(how.lt hb).1
     omega
    ·exact O.apart t j ht hlt b h1 hb)
   have hbd:∀ b,qae (vs j) b->D+1<=b:=fun b hb=>(how.lt hb).1;rw [ev] at howr hbd;obtain ⟨vr,vo,e,w1r,w1o,wap⟩:=howr;simp only [Value.agg.injEq,Array.mk.injEq,List.cons.injEq,and_true,true_and] at e;obtain ⟨rfl,rfl⟩:=e;have OR:Hid (OwnI wr (D+1) (.slice ra (S j).rs.length rc) (S j).rs):=w1r;have OO:Hid (OwnI wr (D+1) (.slice oa (S j).os.length oc) (S j).os):=w1o;have AP:Hid (∀ b,(Value.slice ra (S j).rs.length rc).ownBlock=some b->(Value.slice oa (S j).os.length oc).ownBlock≠some b):=wap;have HV:Hid (vs j=stV (S j).p ra (S j).rs.length rc oa (S j).os.length oc (S j).c):=ev;have hsl:=qbf (lenS S) hlt;have hS:=HL.out;have hlk:lenS S j=(S j).rs.length+(S j).os.length:=rfl;have r1:(S j).rs.length<=1048576:=by omega
   have r2:(S j).os.length<=1048576:=by omega
   generalize hx:k+(2*j+sumL (lenS S) j:Nat)=X at *;have x0:0<=X:=by omega
   have x1:X<=60000000:=by omega
   have HN:Hid (X+1+(S j).rs.length+(S j).os.length+1=k+(2*(j+1)+sumL (lenS S) (j+1):Nat)):=by
    show X+1+(S j).rs.length+(S j).os.length+1=k+(2*(j+1)+sumL (lenS S) (j+1):Nat);simp only [sumL];omega
   have rI:((S j).rs.length:Int)<=1048576:=by omega
   have oI:((S j).os.length:Int)<=1048576:=by omega
   clear a0 a1 a2 a3 ev wap w1r w1o how hsl hS hlk hx;go_wp2_with fail
   refine (qcr ra rc (D+1) (S j).rs _ _ r1 (by omega) (by omega) (OR.setBelow (by simp) _)).mono ?_;rintro e w1 ⟨rfl,-,g1⟩
   have nR:some D≠(Value.slice ra (S j).rs.length rc).ownBlock:=fun e=>by
    have:=(OR.lt D e.symm).1;omega
   have nO:some D≠(Value.slice oa (S j).os.length oc).ownBlock:=fun e=>by
    have:=(OO.lt D e.symm).1;omega
   obtain ⟨d1,f1⟩:=qhn g1 (b:=D) (by simpa using hD) nR;have OO1:Hid (OwnI w1 (D+1) (.slice oa (S j).os.length oc) (S j).os):=qft (OO.setBelow (by simp) _) g1 AP.out;have hD1:D<w1.heap.size:=by have:=g1.size;simp at this;omega
   have G1:Hid (World.grownBy (wr.setCell ⟨D,j*4,none⟩ (.int .i64 X)) w1 (Value.slice ra (S j).rs.length rc).ownBlock):=g1;clear g1;go_wp2_with fail
   refine (qcr oa oc (D+1) (S j).os _ _ r2 (by omega) (by omega) OO1.out).mono ?_;rintro e w2 ⟨rfl,-,g2⟩;obtain ⟨d2,f2⟩:=qhn g2 (b:=D) hD1 nO
   have HT2:Hid (∀ u,MkS w (w2.setCell ⟨D,j*4+3,none⟩ u) D (j+1) vs):=by
    intro u
    have t0 : qaa (fun b => b = D ∨ ∃ t, t < j + 1 ∧ qae (vs t) b) w wr := HT.tch.mono (by
     rintro b (e | ⟨t,ht,h1⟩)
     ·exact .inl e
     ·exact .inr ⟨t,by omega,h1⟩)
    have t1:qaa (fun b=>b=D\/∃ t,t<j+1/\qae (vs t) b) wr (wr.setCell ⟨D,j*4,none⟩ (.int .i64 X)):=qaa.of_set _ (.inl rfl) _
    have t2 : qaa (fun b => b = D ∨ ∃ t, t < j + 1 ∧ qae (vs t) b) (wr.setCell ⟨D, j * 4, none⟩ (.int .i64 X)) w1 := qaa.of_grown G1.out fun b e => .inr ⟨j, by omega, by
     rw [HV.out]
     exact (qal _ _ _ _ _).2 (.inl e)⟩
    have t3 : qaa (fun b => b = D ∨ ∃ t, t < j + 1 ∧ qae (vs t) b) w1 w2 := qaa.of_grown g2 fun b e => .inr ⟨j, by omega, by
     rw [HV.out]
     exact (qal _ _ _ _ _).2 (.inr e)⟩
    refine ⟨(((t0.trans t1).trans t2).trans t3).trans (qaa.of_set _ (.inl rfl) _),fun i hi=>?_,fun i=>?_⟩
    ·have s1:∀ (W:World) (o:Nat) (u:Value),o≠i->(W.setCell ⟨D,o,none⟩ u).cell? ⟨D,i,none⟩=W.cell? ⟨D,i,none⟩:=fun W o u h=>World.cell?_setCell_other _ _ _ _ fun e=>h (by injection e)
     rw [s1 _ _ _ (by omega),d2,d1,s1 _ _ _ (by omega)];exact HT.cel i (by omega)
    ·rw [World.frozen?_setCell,f2,f1,World.frozen?_setCell]
     exact HT.fr i
   clear g2 G1 OO1 OO OR AP HV HT;go_wp2;go_roundw
   case rel=>exact ⟨j+1,by omega,by go_num,by rw [HN.out],HT2.out _⟩
   case measure=>simp [intOf];omega
  ·have hkl:j=n:=by omega
   subst hkl
   have HT1 : Hid (qaa (fun b => D ≤ b ∧ b < hi) w wr) := HT.tch.mono (by
    rintro b (e | ⟨t,ht,h1⟩)
    ·subst e
     exact ⟨nA _,O.lt⟩
    ·exact ⟨by have:=((O.own t ht).lt h1).1;omega,O.bd t ht b h1⟩)
   clear HT;go_wp2;go_ret;exact ⟨rfl,HT1.out⟩
theorem qis {H:Type} {enc:TypeId × Value->H} {w:World} {base fuel:Nat} {held:Bool} {c0 c1 c2 c3:Value} {x:DataW H × List MemPlace}
  (hf':DataW.trod enc prog w base (fun _=>true) held fuel 159 [c0,c1,c2,c3]=some x):
  ∃ q:St8,(c0=.int .i64 q.p/\c1=.slice q.ra q.rs.length q.rc/\c2=.slice q.oa q.os.length q.oc/\c3=.int .i64 q.c)/\(q.rs.length<=maxLen/\q.os.length<=maxLen)/\Sl w q.ra q.rs/\Sl w q.oa q.os:=by
 obtain ⟨xs,m,-,-,-,hl,hx⟩:=DataW.trod_struct Tryz.underlying159 hf';have hl:xs.length=4:=hl;have q0:DataW.trod enc prog w base (fun _=>true) held m 3 [c0]=xs[0]?:=by simpa [qb4] using hx 0 _ rfl
 have q1:DataW.trod enc prog w base (fun _=>true) held m 28 [c1]=xs[1]?:=by simpa [qm1] using hx 1 _ rfl
 have q2:DataW.trod enc prog w base (fun _=>true) held m 28 [c2]=xs[2]?:=by simpa [qm1] using hx 2 _ rfl
 have q3:DataW.trod enc prog w base (fun _=>true) held m 3 [c3]=xs[3]?:=by simpa [qb4] using hx 3 _ rfl
 rw [List.getElem?_eq_getElem (by omega)] at q0 q1 q2 q3;obtain ⟨z0,e0,-,-⟩:=DataW.trod_int Tryz.underlying3 q0;obtain ⟨z3,e3,-,-⟩:=DataW.trod_int Tryz.underlying3 q3;obtain ⟨ra,rc,rs,rfl,hr,h1⟩:=qir q1;obtain ⟨oa,oc,os,rfl,ho,h2⟩:=qir q2;simp only [List.cons.injEq,and_true] at e0 e3;subst e0 e3;exact ⟨⟨z0,ra,rc,rs,oa,oc,os,z3⟩,⟨rfl,rfl,rfl,rfl⟩,⟨hr,ho⟩,h1,h2⟩
theorem qql {H:Type} {enc:TypeId × Value->H} {w:World} {held:Bool} {base:Nat} {a0:Option Addr} {len cap:Nat} {d:DataW H} {p:List MemPlace}
  (h:DataW.Trod enc prog w base (fun _=>true) held 23 (.slice a0 len cap) d p):
  len<=maxLen/\∃ q,qbg w a0 len q/\∀ i,i<len->(q i).rs.length<=maxLen/\(q i).os.length<=maxLen:=by
 obtain ⟨fuel,hf⟩:=h;have inh:Inhabited St8:=⟨⟨0,none,0,[],none,0,[],0⟩⟩
 rcases Go.Deep.open_slice Tryz.underlying23 hf with ⟨hcs,_⟩ | ⟨a,len',cap',m,n,D,Pl,hcs,_,hl,hm,hmm,_,hx⟩
 ·simp [Value.cells] at hcs
  obtain ⟨_,rfl,_⟩:=hcs;exact ⟨nD _,fun _=>default,⟨.inl rfl,fun i hi=>by omega⟩,fun i hi=>by omega⟩
 ·simp [Value.cells] at hcs
  obtain ⟨rfl,rfl,rfl⟩:=hcs;refine ⟨zO hl hm,?_⟩;have hle:len<=m:=by rw [hmm];split <;> omega
  rw [qkm] at hx;obtain ⟨b,off,spot⟩:=a
  have hcell:∀ i,i<len->∃ q:St8,(w.cell? (Addr.add (Addr.add ⟨b,off,spot⟩ (i*4)) 0)=some (.int .i64 q.p)/\w.cell? (Addr.add (Addr.add ⟨b,off,spot⟩ (i*4)) 1)=some (.slice q.ra q.rs.length q.rc)/\w.cell? (Addr.add (Addr.add ⟨b,off,spot⟩ (i*4)) 2)=some (.slice q.oa q.os.length q.oc)/\w.cell? (Addr.add (Addr.add ⟨b,off,spot⟩ (i*4)) 3)=some (.int .i64 q.c))/\(q.rs.length<=maxLen/\q.os.length<=maxLen)/\Sl w q.ra q.rs/\Sl w q.oa q.os:=by
   intro i hi;obtain ⟨cs',h1,h2⟩:=hx i (by omega);obtain ⟨_,hlen,hc⟩:=World.cells?_some h1
   match cs',hlen with
   | [c0,c1,c2,c3],_=>
    obtain ⟨q,⟨rfl,rfl,rfl,rfl⟩,hb,hs⟩:=qis h2;exact ⟨q,⟨hc 0 (by omega),hc 1 (by omega),hc 2 (by omega),hc 3 (by omega)⟩,hb,hs⟩
  obtain ⟨g,hg⟩:=Go.Deep.choose_lt (α:=St8) hcell;refine ⟨g,⟨?_,fun i hi=>(hg i hi).2.2⟩,fun i hi=>(hg i hi).2.1⟩;by_cases h0:len=0
  ·exact .inl h0
  have hspot:spot=none:=by
   have hx0:=(hg 0 (by omega)).1.1;simpa [Addr.add] using World.cell?_spot hx0
  subst hspot
  have hI:∀ i,i<len->w.cell? ⟨b,off+i*4,none⟩=some (.int .i64 (g i).p)/\w.cell? ⟨b,off+i*4+1,none⟩=some (.slice (g i).ra (g i).rs.length (g i).rc)/\w.cell? ⟨b,off+i*4+2,none⟩=some (.slice (g i).oa (g i).os.length (g i).oc)/\w.cell? ⟨b,off+i*4+3,none⟩=some (.int .i64 (g i).c):=by
   intro i hi;obtain ⟨⟨q0,q1,q2,q3⟩,-⟩:=hg i hi;rw [qb3,qb3] at q0 q1 q2 q3;exact ⟨q0,q1,q2,q3⟩
  exact .inr ⟨b,off,rfl,qge (hI 0 (by omega)).1,hI⟩
def hitB (eh:Nat->E3) (kd pr:Int) (i:Nat):Bool:=((eh i).k == kd) && ((eh i).q == pr)
def plN (eh:Nat->E3) (kd pr:Int):Nat->List Nat
 | 0=>[]
 | n+1=>if hitB eh kd pr n=true then plN eh kd pr n ++ [n] else plN eh kd pr n
def valL (eh:Nat->E3) (kd pr:Int) (n:Nat):List Int:=(plN eh kd pr n).map fun i=>(eh i).v
def plI (eh:Nat->E3) (kd pr:Int) (n:Nat):List Int:=(plN eh kd pr n).map fun i:Nat=>(i:Int)
theorem qr2 (eh:Nat->E3) (kd pr:Int):∀ n,(plN eh kd pr n).length<=n
 | 0=>nA _
 | n+1=>by
  unfold plN;have:=qr2 eh kd pr n
  split
  ·simp;omega
  ·omega
theorem qgt (eh:Nat->E3) (kd pr:Int) (n:Nat):(valL eh kd pr n).length<=n:=by
 unfold valL;rw [List.length_map];exact qr2 eh kd pr n
theorem qxz (eh:Nat->E3) (kd pr:Int) (n:Nat):(plI eh kd pr n).length<=n:=by
 unfold plI;rw [List.length_map];exact qr2 eh kd pr n
theorem qsa {eh:Nat->E3} {kd pr:Int} {n:Nat} (hh:hitB eh kd pr n=true):valL eh kd pr (n+1)=valL eh kd pr n ++ [(eh n).v]:=by
 unfold valL;rw [plN,nC hh,List.map_append];rfl
theorem qmf {eh:Nat->E3} {kd pr:Int} {n:Nat} (hh:hitB eh kd pr n=false):valL eh kd pr (n+1)=valL eh kd pr n:=by
 unfold valL;rw [plN,nB (by rw [hh];decide)]
theorem qyq {eh:Nat->E3} {kd pr:Int} {n:Nat} (hh:hitB eh kd pr n=true):plI eh kd pr (n+1)=plI eh kd pr n ++ [(n:Int)]:=by
 unfold plI;rw [plN,nC hh,List.map_append];rfl
theorem qvk {eh:Nat->E3} {kd pr:Int} {n:Nat} (hh:hitB eh kd pr n=false):plI eh kd pr (n+1)=plI eh kd pr n:=by
 unfold plI;rw [plN,nB (by rw [hh];decide)]
theorem qw7 (w:World):
  Calls prog 169 #[.int .i64 1] w (rB w (.func (.func 212) #[] #[])):=by
 go_enter func169,ntmps169
 go_wp2_with fail
 refine bodyPost_ret (v:=.func (.func 212) #[] #[]) (by simp [results,results169,go_sem]) rfl ⟨rfl,?_⟩
 go_grown
theorem qw8 (w:World):
  Calls prog 169 #[.int .i64 2] w (rB w (.func (.func 213) #[] #[])):=by
 go_enter func169,ntmps169
 go_wp2_with fail
 refine bodyPost_ret (v:=.func (.func 213) #[] #[]) (by simp [results,results169,go_sem]) rfl ⟨rfl,?_⟩
 go_grown
theorem qw9 (w:World):
  Calls prog 169 #[.int .i64 3] w (rB w (.func (.func 214) #[] #[])):=by
 go_enter func169,ntmps169
 go_wp2_with fail
 refine bodyPost_ret (v:=.func (.func 214) #[] #[]) (by simp [results,results169,go_sem]) rfl ⟨rfl,?_⟩
 go_grown
theorem qxa (w:World):
  Calls prog 169 #[.int .i64 4] w (rB w (.func (.func 215) #[] #[])):=by
 go_enter func169,ntmps169
 go_wp2_with fail
 refine bodyPost_ret (v:=.func (.func 215) #[] #[]) (by simp [results,results169,go_sem]) rfl ⟨rfl,?_⟩
 go_grown
theorem qr8 (w:World):
  Calls prog 169 #[.int .i64 5] w (rB w (.func (.func 216) #[] #[])):=by
 go_enter func169,ntmps169
 go_wp2_with fail
 refine bodyPost_ret (v:=.func (.func 216) #[] #[]) (by simp [results,results169,go_sem]) rfl ⟨rfl,?_⟩
 go_grown
theorem qxb (w:World):
  Calls prog 169 #[.int .i64 6] w (rB w (.func (.func 217) #[] #[])):=by
 go_enter func169,ntmps169
 go_wp2_with fail
 refine bodyPost_ret (v:=.func (.func 217) #[] #[]) (by simp [results,results169,go_sem]) rfl ⟨rfl,?_⟩
 go_grown
theorem qxc (w:World):
  Calls prog 169 #[.int .i64 7] w (rB w (.func (.func 218) #[] #[])):=by
 go_enter func169,ntmps169
 go_wp2_with fail
 refine bodyPost_ret (v:=.func (.func 218) #[] #[]) (by simp [results,results169,go_sem]) rfl ⟨rfl,?_⟩
 go_grown
theorem qxd (w:World):
  Calls prog 169 #[.int .i64 8] w (rB w (.func (.func 219) #[] #[])):=by
 go_enter func169,ntmps169
 go_wp2_with fail
 refine bodyPost_ret (v:=.func (.func 219) #[] #[]) (by simp [results,results169,go_sem]) rfl ⟨rfl,?_⟩
 go_grown
theorem qxe (w:World):
  Calls prog 169 #[.int .i64 9] w (rB w (.func (.func 220) #[] #[])):=by
 go_enter func169,ntmps169
 go_wp2_with fail
 refine bodyPost_ret (v:=.func (.func 220) #[] #[]) (by simp [results,results169,go_sem]) rfl ⟨rfl,?_⟩
 go_grown
theorem qoq (w:World):
  Calls prog 169 #[.int .i64 10] w (rB w (.func (.func 221) #[] #[])):=by
 go_enter func169,ntmps169
 go_wp2_with fail
 refine bodyPost_ret (v:=.func (.func 221) #[] #[]) (by simp [results,results169,go_sem]) rfl ⟨rfl,?_⟩
 go_grown
theorem qvw (w:World):
  Calls prog 169 #[.int .i64 11] w (rB w (.func (.func 222) #[] #[])):=by
 go_enter func169,ntmps169
 go_wp2_with fail
 refine bodyPost_ret (v:=.func (.func 222) #[] #[]) (by simp [results,results169,go_sem]) rfl ⟨rfl,?_⟩
 go_grown
structure Tu (lo hi:Nat) (w w':World):Prop where
 os:w'.os=w.os
 tape:w'.tape=w.tape
 output:w'.output=w.output
 size:w.heap.size<=w'.heap.size
 block:∀ k,k<w.heap.size->(k<lo\/hi<=k)->w'.heap[k]? = w.heap[k]?
theorem Tu.of_below {w w':World} (h:Below w.heap.size w w'):Tu 0 0 w w':=⟨h.os,h.tape,h.output,h.size,fun k hk _=>h.block k hk⟩
theorem Tu.of_row {w w':World} {b:Nat} (h:w.grownBy w' (some b)):Tu b (b+1) w w':=⟨h.os,h.tape,h.output,h.size,fun k hk hn=>h.block k hk (by simp;omega)⟩
theorem Tu.bw {lo hi B:Nat} {w w':World} (h:Tu lo hi w w') (hB:B<=w.heap.size) (hl:B<=lo):Below B w w':=⟨h.os,h.tape,h.output,h.size,fun k hk=>h.block k (by omega) (.inl (by omega))⟩
theorem OwnI.ofBlock {w w':World} {B:Nat} {u:Value} {xs:List Int} (hu:OwnI w B u xs) (ha:∀ k,u.ownBlock=some k->w'.heap[k]? = w.heap[k]?):OwnI w' B u xs:=by
 rcases hu.2 with ⟨rfl,h0⟩ | ⟨g,cap,cur,rfl,hb,hg,hr⟩
 ·exact ⟨hu.1,.inl ⟨rfl,h0⟩⟩
 ·refine ⟨hu.1,.inr ⟨g,cap,cur,rfl,hb,?_,hr⟩⟩
  rw [ha g rfl];exact hg
theorem OwnI.slOf {w:World} {B n cap:Nat} {a0:Option Addr} {xs:List Int} (h:OwnI w B (.slice a0 n cap) xs):Sl w a0 xs:=by
 obtain ⟨a1,c1,e,s⟩:=h.form;simp only [Value.slice.injEq] at e;obtain ⟨rfl,-,-⟩:=e;exact s
structure Tl (w:World) (B C N:Nat) (p c:Int) (ra:Option Addr) (rn rc:Nat) (oa:Option Addr) (on oc:Nat) (rs os:List Int):Prop where
 lo:B<=N
 hi:N<C
 sz:C<=w.heap.size
 box:BoxC w N (.int .i64 p) (.slice ra rn rc) (.slice oa on oc) (.int .i64 c)
 own:qag w B (stV p ra rn rc oa on oc c) p rs os c
 up:∀ k,qae (stV p ra rn rc oa on oc c) k->k<C
 ne:¬ qae (stV p ra rn rc oa on oc c) N
theorem Tl.tu {w w':World} {B C N:Nat} {p c:Int} {ra:Option Addr} {rn rc:Nat} {oa:Option Addr} {on oc:Nat} {rs os:List Int} {lo hi:Nat} (h:Tl w B C N p c ra rn rc oa on oc rs os) (t:Tu lo hi w w') (hd:C<=lo\/hi<=B):Tl w' B C N p c ra rn rc oa on oc rs os:=by
 obtain ⟨h1,h2,h3,⟨b0,b1,b2,b3⟩,h5,h6,h7⟩:=h;have hb:∀ k,B<=k->k<C->w'.heap[k]? = w.heap[k]?:=fun k k1 k2=>t.block k (by omega) (by omega);have hN:=hb N h1 h2;refine ⟨h1,h2,zO h3 t.size,⟨(zH hN).trans b0,(zH hN).trans b1,(zH hN).trans b2,(zH hN).trans b3⟩,?_,h6,h7⟩;obtain ⟨o1,o2,ha⟩:=h5.parts;refine ⟨_,_,rfl,o1.ofBlock fun k hk=>?_,o2.ofBlock fun k hk=>?_,ha⟩
 ·exact hb k (o1.lt k hk).1 (h6 k ((qal _ _ _ _ _).2 (.inl hk)))
 ·exact hb k (o2.lt k hk).1 (h6 k ((qal _ _ _ _ _).2 (.inr hk)))
theorem Tl.bw {w w':World} {B C N:Nat} {p c:Int} {ra:Option Addr} {rn rc:Nat} {oa:Option Addr} {on oc:Nat} {rs os:List Int} (h:Tl w B C N p c ra rn rc oa on oc rs os) (hb:Below w.heap.size w w'):Tl w' B C N p c ra rn rc oa on oc rs os:=h.tu (Tu.of_below hb) (.inr (nD _))
theorem Tl.sl {w:World} {B C N:Nat} {p c:Int} {ra:Option Addr} {rn rc:Nat} {oa:Option Addr} {on oc:Nat} {rs os:List Int} (h:Tl w B C N p c ra rn rc oa on oc rs os):Sl w ra rs/\Sl w oa os:=⟨h.own.parts.1.slOf,h.own.parts.2.1.slOf⟩
theorem Tl.marked {w w':World} {B C N:Nat} {p c:Int} {ra:Option Addr} {rn rc:Nat} {oa:Option Addr} {on oc:Nat} {rs os rs' os':List Int} (h:Tl w B C N p c ra rn rc oa on oc rs os) (ho:qag w' B (stV p ra rn rc oa on oc c) p rs' os' c) (hm:qa9 (stV p ra rn rc oa on oc c) w w'):Tl w' B C N p c ra rn rc oa on oc rs' os':=
 ⟨h.lo,h.hi,zO h.sz hm.size,h.box.marked hm h.ne,ho,h.up,h.ne⟩
theorem Tl.of_alloc {w:World} {B:Nat} {p c:Int} {ra oa:Option Addr} {rn rc on oc:Nat} {rs os:List Int} (h:qag w B (stV p ra rn rc oa on oc c) p rs os c) (hw:B<=w.heap.size) (t:TypeId):Tl (w.alloc (.cells #[.int .i64 p,.slice ra rn rc,.slice oa on oc,.int .i64 c] t)) B (w.heap.size+1) w.heap.size p c ra rn rc oa on oc rs os:=
 ⟨hw,Nat.lt_succ_self _,by simp,BoxC.new w _ _ _ _ _,h.bw (zS _ _),fun k hk=>Nat.lt_succ_of_lt (h.lt hk).2,fun e=>Nat.lt_irrefl _ (h.lt e).2⟩
def Told (w:World) (B N:Nat) (S:S4):Prop:=∃ ra rc oa oc,BoxC w N (.int .i64 S.p) (.slice ra S.rs.length rc) (.slice oa S.os.length oc) (.int .i64 S.c)/\qag w B (stV S.p ra S.rs.length rc oa S.os.length oc S.c) S.p S.rs S.os S.c/\B<=N/\¬ qae (stV S.p ra S.rs.length rc oa S.os.length oc S.c) N
theorem Told.tl {w:World} {B N:Nat} {S:S4} (h:Told w B N S):∃ ra rc oa oc,Tl w B w.heap.size N S.p S.c ra S.rs.length rc oa S.os.length oc S.rs S.os:=by
 obtain ⟨ra,rc,oa,oc,h1,h2,h3,h4⟩:=h;exact ⟨ra,rc,oa,oc,h3,zJ w _ h1.1,nA _,h1,h2,fun k hk=>(h2.lt hk).2,h4⟩
theorem BoxC.set4 {w:World} {N:Nat} {z0 z1 z2 z3:Value} (h:BoxC w N z0 z1 z2 z3) (a b c d:Value):BoxC ((((w.setCell ⟨N,0,none⟩ a).setCell ⟨N,1,none⟩ b).setCell ⟨N,2,none⟩ c).setCell ⟨N,3,none⟩ d) N a b c d:=by
 obtain ⟨h0,h1,h2,h3⟩:=h;exact ⟨by go_cell,by go_cell,by go_cell,by go_cell⟩
theorem qxv (w:World) (N:Nat) (a b c d:Value):w.grownBy ((((w.setCell ⟨N,0,none⟩ a).setCell ⟨N,1,none⟩ b).setCell ⟨N,2,none⟩ c).setCell ⟨N,3,none⟩ d) (some N):=by
 repeat (refine zU ?_ (.inl rfl) _)
 exact World.grownBy.refl _ _
theorem Told.of_alloc {w:World} {B B':Nat} {S:S4} {ra oa:Option Addr} {rc oc:Nat} (h:qag w B' (stV S.p ra S.rs.length rc oa S.os.length oc S.c) S.p S.rs S.os S.c) (hB:B<=B') (hw:B<=w.heap.size) (t:TypeId):Told (w.alloc (.cells #[.int .i64 S.p,.slice ra S.rs.length rc,.slice oa S.os.length oc,.int .i64 S.c] t)) B w.heap.size S:=by
 refine ⟨ra,rc,oa,oc,BoxC.new w _ _ _ _ _,?_,hw,fun e=>Nat.lt_irrefl _ (h.lt e).2⟩;obtain ⟨vr,vo,e,o1,o2,ha⟩:=h;exact ⟨vr,vo,e,(o1.bw (zS _ _)).mono hB,(o2.bw (zS _ _)).mono hB,ha⟩
theorem Told.of_put {w:World} {B B' N:Nat} {S:S4} {ra oa:Option Addr} {rc oc:Nat} {z0 z1 z2 z3:Value} (h:qag w B' (stV S.p ra S.rs.length rc oa S.os.length oc S.c) S.p S.rs S.os S.c) (hB:B<=B') (hN:N<B') (hw:B<=N) (hZ:BoxC w N z0 z1 z2 z3):Told ((((w.setCell ⟨N,0,none⟩ (.int .i64 S.p)).setCell ⟨N,1,none⟩ (.slice ra S.rs.length rc)).setCell ⟨N,2,none⟩ (.slice oa S.os.length oc)).setCell ⟨N,3,none⟩ (.int .i64 S.c)) B N S:=
 ⟨ra,rc,oa,oc,hZ.set4 _ _ _ _,h.put4 hN hB,hw,fun e=>Nat.not_le_of_lt hN (h.lt e).1⟩
