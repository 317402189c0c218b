import Derived.Test.YtkdablcbhhphoaaGreatDoorBk9
import Derived.Test.YtkdablcbhhphoaaGreatDoorBk10
namespace Go.Proofs.YtkdablcbhhphoaaGreatDoor
set_option maxRecDepth 100000
set_option maxHeartbeats 1000000
open Go.RowKit Go.Deep
theorem qqy (b off len cap:Nat) (g:Nat->I5) (w:World) (hlen:len<=1048576) (hb:b<w.heap.size) (hc:qan w b off len g):
  Calls Tryz.prog 126 #[.slice (some ⟨b,off,none⟩) len cap] w fun e w'=>e=.returned (.slice (some ⟨w.heap.size,0,none⟩) len len)/\qan w' w.heap.size 0 len g/\w.heap.size<w'.heap.size/\Below w.heap.size w w'/\∀ j,w'.frozen? ⟨w.heap.size,j,none⟩=false:=by
 have hl':(len:Int)<=1048576:=by omega
 have hmk:=qhb len hlen;have HC:Hid (qan w b off len g):=hc;clear hc
 go_enter Tryz.func126,Tryz.ntmps126
 go_wp2_with fail
 clear hmk
 go_loopw [4] (fun i wr=>∃ k:Nat,k<=len/\i=.int .i64 k/\(∃ f,wr.rowIs w.heap.size 184 (len*5) f/\Hid (qh3 f g k))/\Below w.heap.size w wr) (fun i _=>len - (intOf i).toNat)
 case atStart=>exact ⟨0,Nat.zero_le _,rfl,⟨_,qp9 w len,fun i hi=>by omega⟩,(Below.refl _ _).alloc (Nat.le_refl _) _⟩
 case round=>
  obtain ⟨k,hk,rfl,⟨f,hrow,HF⟩,hbw⟩:=hrel;have hs:=hrow.lt;by_cases hlt:k<len
  ·obtain ⟨c0,c1,c2,c3,c4⟩:=HC.out.below hbw hb k hlt
   have HR:Hid (wr.rowIs w.heap.size 184 (len*5) f):=hrow;clear hrow;go_wp2_with fail
   refine (qvt _ _ _ _ _ _).mono ?_;rintro e w1 ⟨rfl,hb1⟩;have hr1:w1.rowIs w.heap.size 184 (len*5) f:=HR.out.of_block (hb1.block _ hs);have f0:=hr1.frozen (k*5);have f1:=hr1.frozen (k*5+1);have f2:=hr1.frozen (k*5+2);have f3:=hr1.frozen (k*5+3);have f4:=hr1.frozen (k*5+4);have g0:=hr1.cell (i:=k*5) (by omega);have g1:=hr1.cell (i:=k*5+1) (by omega);have g2:=hr1.cell (i:=k*5+2) (by omega);have g3:=hr1.cell (i:=k*5+3) (by omega);have g4:=hr1.cell (i:=k*5+4) (by omega);have HR1:Hid (w1.rowIs w.heap.size 184 (len*5) f):=hr1;clear hr1;go_wp2_with fail
   exact ⟨⟨k+1,by omega,by go_num,qh3.step HR1.out HF.out,(((((hbw.trans (hb1.mono (Nat.le_of_lt hs))).setCell (Nat.le_refl _) _).setCell (Nat.le_refl _) _).setCell (Nat.le_refl _) _).setCell (Nat.le_refl _) _).setCell (Nat.le_refl _) _⟩,by simp [intOf];omega⟩
  ·have hkl:k=len:=by omega
   have HI:Hid (qan wr w.heap.size 0 len g):=by
    have:=HF.out.at hrow hk;rw [hkl] at this;exact this
   have HZ:Hid (∀ j,wr.frozen? ⟨w.heap.size,j,none⟩=false):=fun j=>hrow.frozen j;clear hkl HF hrow;go_wp2;go_ret;exact ⟨rfl,HI.out,hs,hbw,HZ.out⟩
theorem qhq (a0:Option Addr) (cap:Nat) (g:Nat->I5) (w:World):
  Calls Tryz.prog 126 #[.slice a0 0 cap] w fun e w'=>e=.returned (.slice (some ⟨w.heap.size,0,none⟩) 0 0)/\qan w' w.heap.size 0 0 g/\w.heap.size<w'.heap.size/\Below w.heap.size w w'/\∀ j,w'.frozen? ⟨w.heap.size,j,none⟩=false:=by
 have hmk:∀ w:World,(Instr.makeSlice 144 (.int .i64 0) (.int .i64 0)).run Tryz.prog w=.ok (.slice (some ⟨w.heap.size,0,none⟩) 0 0) (w.alloc (.cells (madeCells (insV 0 0 0 0 0).cells (0*5)) 184)):=fun w=>qhb 0 (by omega) w
 go_enter Tryz.func126,Tryz.ntmps126
 go_wp2_with fail
 clear hmk
 go_rounds 1
 go_ret;exact ⟨rfl,fun i hi=>by omega,by simp,(Below.refl _ _).alloc (Nat.le_refl _) _,fun j=>yA _ _ _ j rfl⟩
def qj9 (w:World) (a0:Option Addr) (len cap:Nat) (g:Nat->I5):Prop:=∀ wx,Below w.heap.size w wx->
 Calls Tryz.prog 126 #[.slice a0 len cap] wx fun e w'=>e=.returned (.slice (some ⟨wx.heap.size,0,none⟩) len len)/\qan w' wx.heap.size 0 len g/\wx.heap.size<w'.heap.size/\Below wx.heap.size wx w'/\∀ j,w'.frozen? ⟨wx.heap.size,j,none⟩=false
theorem qsl {W:World} {a0:Option Addr} {len cap:Nat} (hl:len<=1048576) (hr:len=0\/∃ b off g,a0=some ⟨b,off,none⟩/\b<W.heap.size/\qan W b off len g):∃ g,qj9 W a0 len cap g:=by
 rcases hr with rfl | ⟨b,off,g,rfl,hb,hI⟩
 ·exact ⟨fun _=>⟨0,0,0,0,0⟩,fun wx _=>qhq a0 cap _ wx⟩
 ·exact ⟨g,fun wx hB=>qqy b off len cap g wx hl (zL hb hB.size) (hI.below hB hb)⟩
def Room (w:World) (b len:Nat):Prop:=(∀ i,i<len*5->∃ u,w.cell? ⟨b,i,none⟩=some u)/\∀ j,w.frozen? ⟨b,j,none⟩=false
theorem Room.set {w:World} {b len:Nat} (h:Room w b len) (p:Addr) (v:Value):Room (w.setCell p v) b len:=
 ⟨fun i hi=>(h.1 i hi).elim fun _ e=>cell?_setCell_some e,fun j=>by rw [World.frozen?_setCell];exact h.2 j⟩
theorem Room.of_ins {w:World} {b len:Nat} {g:Nat->I5} (h:qan w b 0 len g) (hf:∀ j,w.frozen? ⟨b,j,none⟩=false):Room w b len:=by
 refine ⟨fun i hi=>?_,hf⟩;obtain ⟨c0,c1,c2,c3,c4⟩:=h (i / 5) (by omega);simp only [Nat.zero_add] at c0 c1 c2 c3 c4;have hh:i=i / 5*5\/i=i / 5*5+1\/i=i / 5*5+2\/i=i / 5*5+3\/i=i / 5*5+4:=by omega
 rcases hh with e | e | e | e | e
 ·rw [e];exact ⟨_,c0⟩
 ·rw [e];exact ⟨_,c1⟩
 ·rw [e];exact ⟨_,c2⟩
 ·rw [e];exact ⟨_,c3⟩
 ·rw [e];exact ⟨_,c4⟩
theorem qnt (b len cap:Nat) (k:Int) (w:World) (hlen:len<=1048576) (k0:0<=k) (k1:k<=100000000) (h:Room w b len):
  Calls Tryz.prog 151 #[.slice (some ⟨b,0,none⟩) len cap,.int .i64 k] w fun e w'=>e=.returned (.int .i64 (k+5*len))/\w.grownBy w' (some b):=by
 have hl':(len:Int)<=1048576:=by omega
 have HO:Hid (Room w b len):=h;clear h
 go_enter Tryz.func151,Tryz.ntmps151
 go_wp2_with fail
 go_loopw [1,5] (fun q i wr=>∃ j:Nat,j<=len/\i=.int .i64 j/\q=.int .i64 (k+5*j)/\Hid (Room wr b len/\w.grownBy wr (some b))) (fun _ i _=>len - (intOf i).toNat)
 case atStart=>exact ⟨0,Nat.zero_le _,rfl,by simp,HO.out,World.grownBy.refl _ _⟩
 case round=>
  clear HO;obtain ⟨j,hj,rfl,rfl,HR⟩:=hrel;by_cases hlt:j<len
  ·have hlt':(j:Int)<(len:Int):=by omega
   obtain ⟨u0,c0⟩:=HR.1.1 (j*5) (by omega);obtain ⟨u1,c1⟩:=HR.1.1 (j*5+1) (by omega);obtain ⟨u2,c2⟩:=HR.1.1 (j*5+2) (by omega);obtain ⟨u3,c3⟩:=HR.1.1 (j*5+3) (by omega);obtain ⟨u4,c4⟩:=HR.1.1 (j*5+4) (by omega);have fz:=HR.1.2;go_wp2;go_roundw
   case rel=>
    refine ⟨j+1,by omega,by go_num,by go_num,?_⟩;refine ⟨?_,?_⟩
    ·repeat (refine Room.set ?_ _ _)
     exact HR.1
    ·repeat (refine zU ?_ (.inl rfl) _)
     exact HR.2
   case measure=>simp [intOf];omega
  ·have hlt':¬ (j:Int)<(len:Int):=by omega
   have HF:Hid (w.grownBy wr (some b)):=HR.2;have hjl:(j:Int)=len:=by omega
   have HJ:Hid ((j:Int)=len):=hjl;clear HR hjl;go_wp2;go_ret;exact ⟨qe7 (by rw [HJ.out]),HF.out⟩
open Go.ChangeShapes Go.WideShapes Go.ChangeAt
structure E3 where
 k:Int
 q:Int
 v:Int
def EvAt (w:World) (b off len:Nat) (h:Nat->E3):Prop:=∀ i,i<len->
 w.cell? ⟨b,off+i*3,none⟩=some (.int .i64 (h i).k)/\w.cell? ⟨b,off+i*3+1,none⟩=some (.int .i64 (h i).q)/\w.cell? ⟨b,off+i*3+2,none⟩=some (.int .i64 (h i).v)
theorem EvAt.below {w w':World} {B b off len:Nat} {h:Nat->E3} (hh:EvAt w b off len h) (hb:Below B w w') (hB:b<B):EvAt w' b off len h:=by
 intro i hi;obtain ⟨h0,h1,h2⟩:=hh i hi;exact ⟨(hb.cell hB).trans h0,(hb.cell hB).trans h1,(hb.cell hB).trans h2⟩
theorem qyy:(Tryz.prog.info? 86).map (fun i=>(i.zero,i.size,i.bytes))=some (some (evV 0 0 0),3,24):=by kernel_rfl
theorem qit (n:Nat) (hn:n<=1048576) (w:World):
  (Instr.makeSlice 87 (.int .i64 (n:Int)) (.int .i64 (n:Int))).run Tryz.prog w=.ok (.slice (some ⟨w.heap.size,0,none⟩) n n) (w.alloc (.cells (madeCells (evV 0 0 0).cells (n*3)) 86)):=by
 have hinfo:=qyy;cases hi:Tryz.prog.info? 86 with
 | none=>rw [hi] at hinfo;cases hinfo
 | some i=>
  rw [hi] at hinfo;simp only [Option.map_some,Option.some.injEq,Prod.mk.injEq] at hinfo;obtain ⟨hz,hs,hb⟩:=hinfo;have h:=run_make (P:=Tryz.prog) w 87 86 i _ Tryz.underlying87 hi hz .i64 .i64 (n:Int) (n:Int) (by omega) (Int.le_refl _) (by rw [hb];omega) (by omega);rw [hs] at h;simpa using h
theorem qta (w:World) (n:Nat):(w.alloc (.cells (madeCells (evV 0 0 0).cells (n*3)) 86)).rowIs w.heap.size 86 (n*3) (fun _=>.int .i64 0):=by
 refine ⟨_,blk_alloc_new _ _,size_madeCells _ _,fun i hi=>?_⟩;have h3:i % 3<3:=Nat.mod_lt _ (by omega)
 have:∀ j,j<3->(#[Value.int .i64 0,.int .i64 0,.int .i64 0]:Array Value)[j]! = .int .i64 0:=by
  intro j hj
  match j,hj with
  | 0,_=>rfl
  | 1,_=>rfl
  | 2,_=>rfl
 simp only [madeCells,Value.cells];rw [Array.getElem?_map,Array.getElem?_range,if_pos hi];exact congrArg some (this (i % 3) h3)
def qew (f:Nat->Value) (h:Nat->E3) (k:Nat):Prop:=∀ i,i<k->
 f (i*3)=.int .i64 (h i).k/\f (i*3+1)=.int .i64 (h i).q/\f (i*3+2)=.int .i64 (h i).v
theorem qew.at {w:World} {b:Nat} {t:TypeId} {len k:Nat} {f:Nat->Value} {h:Nat->E3} (hh:qew f h k) (hr:w.rowIs b t (len*3) f) (hk:k<=len):EvAt w b 0 k h:=by
 intro i hi;obtain ⟨h0,h1,h2⟩:=hh i hi;refine ⟨?_,?_,?_⟩
 ·rw [hr.cell (by omega),Nat.zero_add,h0]
 ·rw [hr.cell (by omega),Nat.zero_add,h1]
 ·rw [hr.cell (by omega),Nat.zero_add,h2]
theorem qew.step {w:World} {b:Nat} {t:TypeId} {len k:Nat} {f:Nat->Value} {h:Nat->E3} (hr:w.rowIs b t (len*3) f) (hh:qew f h k):
  ∃ f',(((w.setCell ⟨b,k*3,none⟩ (.int .i64 (h k).k)).setCell ⟨b,k*3+1,none⟩ (.int .i64 (h k).q)).setCell ⟨b,k*3+2,none⟩ (.int .i64 (h k).v)).rowIs b t (len*3) f'/\qew f' h (k+1):=by
 refine ⟨_,((hr.set _ _).set _ _).set _ _,fun i hi=>?_⟩;by_cases hik:i=k
 ·subst hik
  simp
 ·have hlt:i<k:=by omega
  obtain ⟨h0,h1,h2⟩:=hh i hlt;refine ⟨?_,?_,?_⟩
  ·rw [if_neg (by omega),if_neg (by omega),if_neg (by omega)];exact h0
  ·rw [if_neg (by omega),if_neg (by omega),if_neg (by omega)];exact h1
  ·rw [if_neg (by omega),if_neg (by omega),if_neg (by omega)];exact h2
theorem qes (a0:Option Addr) (len cap:Nat) (L:Int) (w:World) (h:(len:Int)<=L) (hL:L<=1048576):
  Calls Tryz.prog 119 #[.slice a0 len cap,.int .i64 L] w fun e w'=>e=.returned (.int .i64 (L - (len:Int)))/\w'=w:=by
 have h1:(len:Int)<=1048576:=by omega
 have h2:0<=L:=by omega
 have h3:¬ (L - (len:Int)<0):=by omega
 go_enter Tryz.func119,Tryz.ntmps119
 go_wp2;go_ret;exact ⟨rfl,rfl⟩
theorem qjv (a0:Option Addr) (len cap:Nat) (L:Int) (w:World) (h:L<(len:Int)) (h0:0<=L) (hL:L<=1048576) (hm:len<=maxLen):
  Calls Tryz.prog 119 #[.slice a0 len cap,.int .i64 L] w fun e w'=>e=.returned (.int .i64 (-1))/\w'=w:=by
 unfold maxLen at hm;have h2:(len:Int)<=9223372036854775807:=by omega
 have h3:L - (len:Int)<0:=by omega
 go_enter Tryz.func119,Tryz.ntmps119
 go_wp2;go_ret;exact ⟨rfl,rfl⟩
theorem ql8 (b off len cap:Nat) (h:Nat->E3) (w:World) (hlen:len<=1048576) (hb:b<w.heap.size) (hc:EvAt w b off len h):
  Calls Tryz.prog 129 #[.slice (some ⟨b,off,none⟩) len cap] w fun e w'=>e=.returned (.slice (some ⟨w.heap.size,0,none⟩) len len)/\EvAt w' w.heap.size 0 len h/\w.heap.size<w'.heap.size/\Below w.heap.size w w'/\∀ j,w'.frozen? ⟨w.heap.size,j,none⟩=false:=by
 have hl':(len:Int)<=1048576:=by omega
 have hmk:=qit len hlen;have HC:Hid (EvAt w b off len h):=hc;clear hc
 go_enter Tryz.func129,Tryz.ntmps129
 go_wp2_with fail
 clear hmk
 go_loopw [4] (fun i wr=>∃ k:Nat,k<=len/\i=.int .i64 k/\(∃ f,wr.rowIs w.heap.size 86 (len*3) f/\Hid (qew f h k))/\Below w.heap.size w wr) (fun i _=>len - (intOf i).toNat)
 case atStart=>exact ⟨0,Nat.zero_le _,rfl,⟨_,qta w len,fun i hi=>by omega⟩,(Below.refl _ _).alloc (Nat.le_refl _) _⟩
 case round=>
  obtain ⟨k,hk,rfl,⟨f,hrow,HF⟩,hbw⟩:=hrel;have hs:=hrow.lt;by_cases hlt:k<len
  ·obtain ⟨c0,c1,c2⟩:=HC.out.below hbw hb k hlt
   have HR:Hid (wr.rowIs w.heap.size 86 (len*3) f):=hrow;clear hrow;go_wp2_with fail
   refine (qqw _ _ _ _).mono ?_;rintro e w1 ⟨rfl,hb1⟩;have hr1:w1.rowIs w.heap.size 86 (len*3) f:=HR.out.of_block (hb1.block _ hs);have f0:=hr1.frozen (k*3);have f1:=hr1.frozen (k*3+1);have f2:=hr1.frozen (k*3+2);have g0:=hr1.cell (i:=k*3) (by omega);have g1:=hr1.cell (i:=k*3+1) (by omega);have g2:=hr1.cell (i:=k*3+2) (by omega);have HR1:Hid (w1.rowIs w.heap.size 86 (len*3) f):=hr1;clear hr1;go_wp2_with fail
   exact ⟨⟨k+1,by omega,by go_num,qew.step HR1.out HF.out,(((hbw.trans (hb1.mono (Nat.le_of_lt hs))).setCell (Nat.le_refl _) _).setCell (Nat.le_refl _) _).setCell (Nat.le_refl _) _⟩,by simp [intOf];omega⟩
  ·have hkl:k=len:=by omega
   have HI:Hid (EvAt wr w.heap.size 0 len h):=by
    have:=HF.out.at hrow hk;rw [hkl] at this;exact this
   have HZ:Hid (∀ j,wr.frozen? ⟨w.heap.size,j,none⟩=false):=fun j=>hrow.frozen j;clear hkl HF hrow;go_wp2;go_ret;exact ⟨rfl,HI.out,hs,hbw,HZ.out⟩
theorem qf6 (a0:Option Addr) (cap:Nat) (h:Nat->E3) (w:World):
  Calls Tryz.prog 129 #[.slice a0 0 cap] w fun e w'=>e=.returned (.slice (some ⟨w.heap.size,0,none⟩) 0 0)/\EvAt w' w.heap.size 0 0 h/\w.heap.size<w'.heap.size/\Below w.heap.size w w'/\∀ j,w'.frozen? ⟨w.heap.size,j,none⟩=false:=by
 have hmk:∀ w:World,(Instr.makeSlice 87 (.int .i64 0) (.int .i64 0)).run Tryz.prog w=.ok (.slice (some ⟨w.heap.size,0,none⟩) 0 0) (w.alloc (.cells (madeCells (evV 0 0 0).cells (0*3)) 86)):=fun w=>qit 0 (by omega) w
 go_enter Tryz.func129,Tryz.ntmps129
 go_wp2_with fail
 clear hmk
 go_rounds 1
 go_ret;exact ⟨rfl,fun i hi=>by omega,by simp,(Below.refl _ _).alloc (Nat.le_refl _) _,fun j=>yA _ _ _ j rfl⟩
def qj8 (w:World) (a0:Option Addr) (len cap:Nat) (h:Nat->E3):Prop:=∀ wx,Below w.heap.size w wx->
 Calls Tryz.prog 129 #[.slice a0 len cap] wx fun e w'=>e=.returned (.slice (some ⟨wx.heap.size,0,none⟩) len len)/\EvAt w' wx.heap.size 0 len h/\wx.heap.size<w'.heap.size/\Below wx.heap.size wx w'/\∀ j,w'.frozen? ⟨wx.heap.size,j,none⟩=false
theorem qsk {W:World} {a0:Option Addr} {len cap:Nat} (hl:len<=1048576) (hr:len=0\/∃ b off h,a0=some ⟨b,off,none⟩/\b<W.heap.size/\EvAt W b off len h):∃ h,qj8 W a0 len cap h:=by
 rcases hr with rfl | ⟨b,off,h,rfl,hb,hI⟩
 ·exact ⟨fun _=>⟨0,0,0⟩,fun wx _=>qf6 a0 cap _ wx⟩
 ·exact ⟨h,fun wx hB=>ql8 b off len cap h wx hl (zL hb hB.size) (hI.below hB hb)⟩
theorem qfh (b1 b2 len c1 c2:Nat) (h:Nat->E3) (w:World) (hlen:len<=1048576) (hb1:b1<w.heap.size) (hb2:b2<w.heap.size) (hc1:EvAt w b1 0 len h) (hc2:EvAt w b2 0 len h):
  Calls Tryz.prog 150 #[.slice (some ⟨b1,0,none⟩) len c1,.slice (some ⟨b2,0,none⟩) len c2] w fun e w'=>e=.returned (.bool true)/\Below w.heap.size w w':=by
 have hl':(len:Int)<=1048576:=by omega
 have HC1:Hid (EvAt w b1 0 len h):=hc1;have HC2:Hid (EvAt w b2 0 len h):=hc2;clear hc1 hc2
 go_enter Tryz.func150,Tryz.ntmps150
 go_wp2_with fail
 go_loopw [5] (fun i wr=>∃ k:Nat,k<=len/\i=.int .i64 k/\Below w.heap.size w wr) (fun i _=>len - (intOf i).toNat)
 case atStart=>exact ⟨0,Nat.zero_le _,rfl,Below.refl _ _⟩
 case round=>
  obtain ⟨k,hk,rfl,hbw⟩:=hrel;have hs:=hbw.size;by_cases hlt:k<len
  ·obtain ⟨c0,c1,c2⟩:=HC1.out.below hbw hb1 k hlt
   obtain ⟨d0,d1,d2⟩:=HC2.out.below hbw hb2 k hlt;have hlt':(k:Int)<(len:Int):=by omega
   rw [Nat.zero_add] at c0 c1 c2 d0 d1 d2;go_wp2_with fail
   first|(go_region_with (go_at_call 207;refine (qm3 _ _ _ _).mono ?_;rintro e w1 ⟨rfl,hq1⟩)) | fail
   all_goals
    go_wp2;go_roundw
    case rel=>exact ⟨k+1,by omega,by go_num,hbw.drew.trans (hq1.mono hs)⟩
    case measure=>simp [intOf];omega
  ·go_wp2
   go_ret;exact ⟨rfl,hbw⟩
def qhf (w:World) (b len:Nat):Prop:=(∀ i,i<len*3->∃ u,w.cell? ⟨b,i,none⟩=some u)/\∀ j,w.frozen? ⟨b,j,none⟩=false
theorem qhf.set {w:World} {b len:Nat} (h:qhf w b len) (p:Addr) (v:Value):qhf (w.setCell p v) b len:=
 ⟨fun i hi=>(h.1 i hi).elim fun _ e=>cell?_setCell_some e,fun j=>by rw [World.frozen?_setCell];exact h.2 j⟩
theorem qhf.of_ev {w:World} {b len:Nat} {h:Nat->E3} (hh:EvAt w b 0 len h) (hf:∀ j,w.frozen? ⟨b,j,none⟩=false):qhf w b len:=by
 refine ⟨fun i hi=>?_,hf⟩;obtain ⟨c0,c1,c2⟩:=hh (i / 3) (by omega);simp only [Nat.zero_add] at c0 c1 c2;have he:i=i / 3*3\/i=i / 3*3+1\/i=i / 3*3+2:=by omega
 rcases he with e | e | e
 ·rw [e];exact ⟨_,c0⟩
 ·rw [e];exact ⟨_,c1⟩
 ·rw [e];exact ⟨_,c2⟩
theorem qjl (b len cap:Nat) (k:Int) (w:World) (hlen:len<=1048576) (k0:0<=k) (k1:k<=100000000) (h:qhf w b len):
  Calls Tryz.prog 153 #[.slice (some ⟨b,0,none⟩) len cap,.int .i64 k] w fun e w'=>e=.returned (.int .i64 (k+3*len))/\w.grownBy w' (some b):=by
 have hl':(len:Int)<=1048576:=by omega
 have HO:Hid (qhf w b len):=h;clear h
 go_enter Tryz.func153,Tryz.ntmps153
 go_wp2_with fail
 go_loopw [1,5] (fun q i wr=>∃ j:Nat,j<=len/\i=.int .i64 j/\q=.int .i64 (k+3*j)/\Hid (qhf wr b len/\w.grownBy wr (some b))) (fun _ i _=>len - (intOf i).toNat)
 case atStart=>exact ⟨0,Nat.zero_le _,rfl,by simp,HO.out,World.grownBy.refl _ _⟩
 case round=>
  clear HO;obtain ⟨j,hj,rfl,rfl,HR⟩:=hrel;by_cases hlt:j<len
  ·have hlt':(j:Int)<(len:Int):=by omega
   obtain ⟨u0,c0⟩:=HR.1.1 (j*3) (by omega);obtain ⟨u1,c1⟩:=HR.1.1 (j*3+1) (by omega);obtain ⟨u2,c2⟩:=HR.1.1 (j*3+2) (by omega);have fz:=HR.1.2;go_wp2;go_roundw
   case rel=>
    refine ⟨j+1,by omega,by go_num,by go_num,?_⟩;refine ⟨?_,?_⟩
    ·repeat (refine qhf.set ?_ _ _)
     exact HR.1
    ·repeat (refine zU ?_ (.inl rfl) _)
     exact HR.2
   case measure=>simp [intOf];omega
  ·have hlt':¬ (j:Int)<(len:Int):=by omega
   have HF:Hid (w.grownBy wr (some b)):=HR.2;have hjl:(j:Int)=len:=by omega
   have HJ:Hid ((j:Int)=len):=hjl;clear HR hjl;go_wp2;go_ret;exact ⟨qe7 (by rw [HJ.out]),HF.out⟩
theorem qsh:Tryz.prog.cellsOf 228=3:=by kernel_rfl
theorem qn2 {H:Type} {enc:TypeId × Value->H} {w:World} {base fuel:Nat} {spare:Nat->Bool} {held:Bool} {c0 c1 c2:Value} {x:DataW H × List MemPlace}
  (hf:DataW.trod enc Tryz.prog w base spare held fuel 228 [c0,c1,c2]=some x):
  ∃ k q v:Int,c0=.int .i64 k/\c1=.int .i64 q/\c2=.int .i64 v:=by
 obtain ⟨xs,m,-,-,-,hl,hx⟩:=DataW.trod_struct Tryz.underlying228 hf;have hl:xs.length=3:=hl;have q0:DataW.trod enc Tryz.prog w base spare held m 3 [c0]=xs[0]?:=by simpa [qb1] using hx 0 _ rfl
 have q1:DataW.trod enc Tryz.prog w base spare held m 3 [c1]=xs[1]?:=by simpa [qb1] using hx 1 _ rfl
 have q2:DataW.trod enc Tryz.prog w base spare held m 3 [c2]=xs[2]?:=by simpa [qb1] using hx 2 _ rfl
 rw [List.getElem?_eq_getElem (by omega)] at q0 q1 q2;obtain ⟨z0,e0,-,-⟩:=DataW.trod_int Tryz.underlying3 q0;obtain ⟨z1,e1,-,-⟩:=DataW.trod_int Tryz.underlying3 q1;obtain ⟨z2,e2,-,-⟩:=DataW.trod_int Tryz.underlying3 q2;simp only [List.cons.injEq,and_true] at e0 e1 e2;exact ⟨z0,z1,z2,e0,e1,e2⟩
theorem qtk {H:Type} {enc:TypeId × Value->H} {w:World} {spare:Nat->Bool} {held:Bool} {base:Nat} {a0:Option Addr} {len cap:Nat} {d:DataW H} {p:List MemPlace}
  (h:DataW.Trod enc Tryz.prog w base spare held 163 (.slice a0 len cap) d p):
  len<=maxLen/\(len=0\/∃ b off h,a0=some ⟨b,off,none⟩/\b<w.heap.size/\EvAt w b off len h):=by
 obtain ⟨fuel,hf⟩:=h
 rcases Go.Deep.open_slice Tryz.underlying163 hf with ⟨hcs,_⟩ | ⟨a,len',cap',m,n,D,Pl,hcs,_,hl,hm,hmm,_,hx⟩
 ·simp [Value.cells] at hcs
  obtain ⟨_,rfl,_⟩:=hcs;exact ⟨Nat.zero_le _,.inl rfl⟩
 ·simp [Value.cells] at hcs
  obtain ⟨rfl,rfl,rfl⟩:=hcs;refine ⟨zO hl hm,?_⟩;by_cases h0:len=0
  ·exact .inl h0
  right;have hle:len<=m:=by rw [hmm];split <;> omega
  rw [qsh] at hx;obtain ⟨b,off,spot⟩:=a
  have hcell:∀ i,i<len->∃ x:E3,w.cell? (Addr.add (Addr.add ⟨b,off,spot⟩ (i*3)) 0)=some (.int .i64 x.k)/\w.cell? (Addr.add (Addr.add ⟨b,off,spot⟩ (i*3)) 1)=some (.int .i64 x.q)/\w.cell? (Addr.add (Addr.add ⟨b,off,spot⟩ (i*3)) 2)=some (.int .i64 x.v):=by
   intro i hi;obtain ⟨cs',h1,h2⟩:=hx i (by omega);obtain ⟨_,hlen,hc⟩:=World.cells?_some h1
   match cs',hlen with
   | [c0,c1,c2],_=>
    obtain ⟨k,q,v,rfl,rfl,rfl⟩:=qn2 h2;exact ⟨⟨k,q,v⟩,hc 0 (by omega),hc 1 (by omega),hc 2 (by omega)⟩
  have hspot:spot=none:=by
   obtain ⟨x,hx0,_⟩:=hcell 0 (by omega);simpa [Addr.add] using World.cell?_spot hx0
  subst hspot;have inh:Inhabited E3:=⟨⟨0,0,0⟩⟩
  obtain ⟨g,hg⟩:=Go.Deep.choose_lt (α:=E3) hcell
  have hI:EvAt w b off len g:=by
   intro i hi;obtain ⟨q0,q1,q2⟩:=hg i hi;rw [qb0,qb0] at q0 q1 q2;exact ⟨q0,q1,q2⟩
  exact ⟨b,off,g,rfl,qga (hI 0 (by omega)).1,hI⟩
structure I2 where
 m:Bool
 v:Int
abbrev itV (m:Bool) (v:Int):Value:=.agg #[.bool m,.int .i64 v]
def ItAt (w:World) (b off len:Nat) (h:Nat->I2):Prop:=∀ i,i<len->
 w.cell? ⟨b,off+i*2,none⟩=some (.bool (h i).m)/\w.cell? ⟨b,off+i*2+1,none⟩=some (.int .i64 (h i).v)
theorem ItAt.below {w w':World} {B b off len:Nat} {h:Nat->I2} (hh:ItAt w b off len h) (hb:Below B w w') (hB:b<B):ItAt w' b off len h:=by
 intro i hi;obtain ⟨h0,h1⟩:=hh i hi;exact ⟨(hb.cell hB).trans h0,(hb.cell hB).trans h1⟩
theorem qyz:(Tryz.prog.info? 74).map (fun i=>(i.zero,i.size,i.bytes))=some (some (itV false 0),2,16):=by kernel_rfl
theorem qiu (n:Nat) (hn:n<=1048576) (w:World):
  (Instr.makeSlice 72 (.int .i64 (n:Int)) (.int .i64 (n:Int))).run Tryz.prog w=.ok (.slice (some ⟨w.heap.size,0,none⟩) n n) (w.alloc (.cells (madeCells (itV false 0).cells (n*2)) 74)):=by
 have hinfo:=qyz;cases hi:Tryz.prog.info? 74 with
 | none=>rw [hi] at hinfo;cases hinfo
 | some i=>
  rw [hi] at hinfo;simp only [Option.map_some,Option.some.injEq,Prod.mk.injEq] at hinfo;obtain ⟨hz,hs,hb⟩:=hinfo;have h:=run_make (P:=Tryz.prog) w 72 74 i _ Tryz.underlying72 hi hz .i64 .i64 (n:Int) (n:Int) (by omega) (Int.le_refl _) (by rw [hb];omega) (by omega);rw [hs] at h;simpa using h
theorem qtb (w:World) (n:Nat):(w.alloc (.cells (madeCells (itV false 0).cells (n*2)) 74)).rowIs w.heap.size 74 (n*2) (fun i=>if i % 2=0 then .bool false else .int .i64 0):=by
 refine ⟨_,blk_alloc_new _ _,size_madeCells _ _,fun i hi=>?_⟩;have h3:i % 2<2:=Nat.mod_lt _ (by omega)
 have:∀ j,j<2->(#[Value.bool false,.int .i64 0]:Array Value)[j]! = if j=0 then .bool false else .int .i64 0:=by
  intro j hj
  match j,hj with
  | 0,_=>rfl
  | 1,_=>rfl
 simp only [madeCells,Value.cells];rw [Array.getElem?_map,Array.getElem?_range,if_pos hi];exact congrArg some (this (i % 2) h3)
def qex (f:Nat->Value) (h:Nat->I2) (k:Nat):Prop:=∀ i,i<k->
 f (i*2)=.bool (h i).m/\f (i*2+1)=.int .i64 (h i).v
theorem qex.at {w:World} {b:Nat} {t:TypeId} {len k:Nat} {f:Nat->Value} {h:Nat->I2} (hh:qex f h k) (hr:w.rowIs b t (len*2) f) (hk:k<=len):ItAt w b 0 k h:=by
 intro i hi;obtain ⟨h0,h1⟩:=hh i hi;refine ⟨?_,?_⟩
 ·rw [hr.cell (by omega),Nat.zero_add,h0]
 ·rw [hr.cell (by omega),Nat.zero_add,h1]
theorem qex.step {w:World} {b:Nat} {t:TypeId} {len k:Nat} {f:Nat->Value} {h:Nat->I2} (hr:w.rowIs b t (len*2) f) (hh:qex f h k):
  ∃ f',((w.setCell ⟨b,k*2,none⟩ (.bool (h k).m)).setCell ⟨b,k*2+1,none⟩ (.int .i64 (h k).v)).rowIs b t (len*2) f'/\qex f' h (k+1):=by
 refine ⟨_,(hr.set _ _).set _ _,fun i hi=>?_⟩;by_cases hik:i=k
 ·subst hik
  simp
 ·have hlt:i<k:=by omega
  obtain ⟨h0,h1⟩:=hh i hlt;refine ⟨?_,?_⟩
  ·rw [if_neg (by omega),if_neg (by omega)];exact h0
  ·rw [if_neg (by omega),if_neg (by omega)];exact h1
theorem qtz (m:Bool) (v:Int) (w:World):
  Calls Tryz.prog 178 #[itV m v] w fun e w'=>e=.returned (itV m v)/\Below w.heap.size w w':=by
 go_enter Tryz.func178,Tryz.ntmps178
 go_wp2;refine bodyPost_ret (v:=itV m v) (by simp [results,Tryz.results178,go_sem]) rfl ⟨rfl,?_⟩
 go_grown
theorem qpt (m:Bool) (v:Int) (w:World):
  Calls Tryz.prog 206 #[itV m v,itV m v] w fun e w'=>e=.returned (.bool true)/\Below w.heap.size w w':=by
 cases m
 all_goals
  go_enter Tryz.func206,Tryz.ntmps206
  go_wp2;go_ret;exact ⟨rfl,by go_grown⟩
theorem qf3 (a0:Option Addr) (len cap:Nat) (L:Int) (w:World) (h:(len:Int)<=L) (hL:L<=1048576):
  Calls Tryz.prog 118 #[.slice a0 len cap,.int .i64 L] w fun e w'=>e=.returned (.int .i64 (L - (len:Int)))/\w'=w:=by
 have h1:(len:Int)<=1048576:=by omega
 have h2:0<=L:=by omega
 have h3:¬ (L - (len:Int)<0):=by omega
 go_enter Tryz.func118,Tryz.ntmps118
 go_wp2;go_ret;exact ⟨rfl,rfl⟩
theorem ql5 (a0:Option Addr) (len cap:Nat) (L:Int) (w:World) (h:L<(len:Int)) (h0:0<=L) (hL:L<=1048576) (hm:len<=maxLen):
  Calls Tryz.prog 118 #[.slice a0 len cap,.int .i64 L] w fun e w'=>e=.returned (.int .i64 (-1))/\w'=w:=by
 unfold maxLen at hm;have h2:(len:Int)<=9223372036854775807:=by omega
 have h3:L - (len:Int)<0:=by omega
 go_enter Tryz.func118,Tryz.ntmps118
 go_wp2;go_ret;exact ⟨rfl,rfl⟩
theorem qov (b off len cap:Nat) (h:Nat->I2) (w:World) (hlen:len<=1048576) (hb:b<w.heap.size) (hc:ItAt w b off len h):
  Calls Tryz.prog 128 #[.slice (some ⟨b,off,none⟩) len cap] w fun e w'=>e=.returned (.slice (some ⟨w.heap.size,0,none⟩) len len)/\ItAt w' w.heap.size 0 len h/\w.heap.size<w'.heap.size/\Below w.heap.size w w'/\∀ j,w'.frozen? ⟨w.heap.size,j,none⟩=false:=by
 have hl':(len:Int)<=1048576:=by omega
 have hmk:=qiu len hlen;have HC:Hid (ItAt w b off len h):=hc;clear hc
 go_enter Tryz.func128,Tryz.ntmps128
 go_wp2_with fail
 clear hmk
 go_loopw [4] (fun i wr=>∃ k:Nat,k<=len/\i=.int .i64 k/\(∃ f,wr.rowIs w.heap.size 74 (len*2) f/\Hid (qex f h k))/\Below w.heap.size w wr) (fun i _=>len - (intOf i).toNat)
 case atStart=>exact ⟨0,Nat.zero_le _,rfl,⟨_,qtb w len,fun i hi=>by omega⟩,(Below.refl _ _).alloc (Nat.le_refl _) _⟩
 case round=>
  obtain ⟨k,hk,rfl,⟨f,hrow,HF⟩,hbw⟩:=hrel;have hs:=hrow.lt;by_cases hlt:k<len
  ·obtain ⟨c0,c1⟩:=HC.out.below hbw hb k hlt
   have HR:Hid (wr.rowIs w.heap.size 74 (len*2) f):=hrow;clear hrow;go_wp2_with fail
   refine (qtz _ _ _).mono ?_;rintro e w1 ⟨rfl,hb1⟩;have hr1:w1.rowIs w.heap.size 74 (len*2) f:=HR.out.of_block (hb1.block _ hs);have f0:=hr1.frozen (k*2);have f1:=hr1.frozen (k*2+1);have g0:=hr1.cell (i:=k*2) (by omega);have g1:=hr1.cell (i:=k*2+1) (by omega);have HR1:Hid (w1.rowIs w.heap.size 74 (len*2) f):=hr1;clear hr1;go_wp2_with fail
   exact ⟨⟨k+1,by omega,by go_num,qex.step HR1.out HF.out,((hbw.trans (hb1.mono (Nat.le_of_lt hs))).setCell (Nat.le_refl _) _).setCell (Nat.le_refl _) _⟩,by simp [intOf];omega⟩
  ·have hkl:k=len:=by omega
   have HI:Hid (ItAt wr w.heap.size 0 len h):=by
    have:=HF.out.at hrow hk;rw [hkl] at this;exact this
   have HZ:Hid (∀ j,wr.frozen? ⟨w.heap.size,j,none⟩=false):=fun j=>hrow.frozen j;clear hkl HF hrow;go_wp2;go_ret;exact ⟨rfl,HI.out,hs,hbw,HZ.out⟩
theorem qgo (a0:Option Addr) (cap:Nat) (h:Nat->I2) (w:World):
  Calls Tryz.prog 128 #[.slice a0 0 cap] w fun e w'=>e=.returned (.slice (some ⟨w.heap.size,0,none⟩) 0 0)/\ItAt w' w.heap.size 0 0 h/\w.heap.size<w'.heap.size/\Below w.heap.size w w'/\∀ j,w'.frozen? ⟨w.heap.size,j,none⟩=false:=by
 have hmk:∀ w:World,(Instr.makeSlice 72 (.int .i64 0) (.int .i64 0)).run Tryz.prog w=.ok (.slice (some ⟨w.heap.size,0,none⟩) 0 0) (w.alloc (.cells (madeCells (itV false 0).cells (0*2)) 74)):=fun w=>qiu 0 (by omega) w
 go_enter Tryz.func128,Tryz.ntmps128
 go_wp2_with fail
 clear hmk
 go_rounds 1
 go_ret;exact ⟨rfl,fun i hi=>by omega,by simp,(Below.refl _ _).alloc (Nat.le_refl _) _,fun j=>yA _ _ _ j rfl⟩
def qka (w:World) (a0:Option Addr) (len cap:Nat) (h:Nat->I2):Prop:=∀ wx,Below w.heap.size w wx->
 Calls Tryz.prog 128 #[.slice a0 len cap] wx fun e w'=>e=.returned (.slice (some ⟨wx.heap.size,0,none⟩) len len)/\ItAt w' wx.heap.size 0 len h/\wx.heap.size<w'.heap.size/\Below wx.heap.size wx w'/\∀ j,w'.frozen? ⟨wx.heap.size,j,none⟩=false
theorem qsm {W:World} {a0:Option Addr} {len cap:Nat} (hl:len<=1048576) (hr:len=0\/∃ b off h,a0=some ⟨b,off,none⟩/\b<W.heap.size/\ItAt W b off len h):∃ h,qka W a0 len cap h:=by
 rcases hr with rfl | ⟨b,off,h,rfl,hb,hI⟩
 ·exact ⟨fun _=>⟨false,0⟩,fun wx _=>qgo a0 cap _ wx⟩
 ·exact ⟨h,fun wx hB=>qov b off len cap h wx hl (zL hb hB.size) (hI.below hB hb)⟩
theorem qg4 (b1 b2 len c1 c2:Nat) (h:Nat->I2) (w:World) (hlen:len<=1048576) (hb1:b1<w.heap.size) (hb2:b2<w.heap.size) (hc1:ItAt w b1 0 len h) (hc2:ItAt w b2 0 len h):
  Calls Tryz.prog 149 #[.slice (some ⟨b1,0,none⟩) len c1,.slice (some ⟨b2,0,none⟩) len c2] w fun e w'=>e=.returned (.bool true)/\Below w.heap.size w w':=by
 have hl':(len:Int)<=1048576:=by omega
 have HC1:Hid (ItAt w b1 0 len h):=hc1;have HC2:Hid (ItAt w b2 0 len h):=hc2;clear hc1 hc2
 go_enter Tryz.func149,Tryz.ntmps149
 go_wp2_with fail
 go_loopw [5] (fun i wr=>∃ k:Nat,k<=len/\i=.int .i64 k/\Below w.heap.size w wr) (fun i _=>len - (intOf i).toNat)
 case atStart=>exact ⟨0,Nat.zero_le _,rfl,Below.refl _ _⟩
 case round=>
  obtain ⟨k,hk,rfl,hbw⟩:=hrel;have hs:=hbw.size;by_cases hlt:k<len
  ·obtain ⟨c0,c1⟩:=HC1.out.below hbw hb1 k hlt
   obtain ⟨d0,d1⟩:=HC2.out.below hbw hb2 k hlt;have hlt':(k:Int)<(len:Int):=by omega
   rw [Nat.zero_add] at c0 c1 d0 d1;go_wp2_with fail
   first|(go_region_with (go_at_call 206;refine (qpt _ _ _).mono ?_;rintro e w1 ⟨rfl,hq1⟩)) | fail
   all_goals
    go_wp2;go_roundw
    case rel=>exact ⟨k+1,by omega,by go_num,hbw.drew.trans (hq1.mono hs)⟩
    case measure=>simp [intOf];omega
  ·go_wp2
   go_ret;exact ⟨rfl,hbw⟩
def qhg (w:World) (b len:Nat):Prop:=(∀ i,i<len*2->∃ u,w.cell? ⟨b,i,none⟩=some u)/\∀ j,w.frozen? ⟨b,j,none⟩=false
theorem qhg.set {w:World} {b len:Nat} (h:qhg w b len) (p:Addr) (v:Value):qhg (w.setCell p v) b len:=
 ⟨fun i hi=>(h.1 i hi).elim fun _ e=>cell?_setCell_some e,fun j=>by rw [World.frozen?_setCell];exact h.2 j⟩
theorem qhg.of_it {w:World} {b len:Nat} {h:Nat->I2} (hh:ItAt w b 0 len h) (hf:∀ j,w.frozen? ⟨b,j,none⟩=false):qhg w b len:=by
 refine ⟨fun i hi=>?_,hf⟩;obtain ⟨c0,c1⟩:=hh (i / 2) (by omega);simp only [Nat.zero_add] at c0 c1;have he:i=i / 2*2\/i=i / 2*2+1:=by omega
 rcases he with e | e
 ·rw [e];exact ⟨_,c0⟩
 ·rw [e];exact ⟨_,c1⟩
theorem qlj (b len cap:Nat) (k:Int) (w:World) (hlen:len<=1048576) (k0:0<=k) (k1:k<=100000000) (h:qhg w b len):
  Calls Tryz.prog 152 #[.slice (some ⟨b,0,none⟩) len cap,.int .i64 k] w fun e w'=>e=.returned (.int .i64 (k+2*len))/\w.grownBy w' (some b):=by
 have hl':(len:Int)<=1048576:=by omega
 have HO:Hid (qhg w b len):=h;clear h
 go_enter Tryz.func152,Tryz.ntmps152
 go_wp2_with fail
 go_loopw [1,5] (fun q i wr=>∃ j:Nat,j<=len/\i=.int .i64 j/\q=.int .i64 (k+2*j)/\Hid (qhg wr b len/\w.grownBy wr (some b))) (fun _ i _=>len - (intOf i).toNat)
 case atStart=>exact ⟨0,Nat.zero_le _,rfl,by simp,HO.out,World.grownBy.refl _ _⟩
 case round=>
  clear HO;obtain ⟨j,hj,rfl,rfl,HR⟩:=hrel;by_cases hlt:j<len
  ·have hlt':(j:Int)<(len:Int):=by omega
   obtain ⟨u0,c0⟩:=HR.1.1 (j*2) (by omega);obtain ⟨u1,c1⟩:=HR.1.1 (j*2+1) (by omega);have fz:=HR.1.2;go_wp2;go_roundw
   case rel=>
    refine ⟨j+1,by omega,by go_num,by go_num,?_⟩;refine ⟨?_,?_⟩
    ·repeat (refine qhg.set ?_ _ _)
     exact HR.1
    ·repeat (refine zU ?_ (.inl rfl) _)
     exact HR.2
   case measure=>simp [intOf];omega
  ·have hlt':¬ (j:Int)<(len:Int):=by omega
   have HF:Hid (w.grownBy wr (some b)):=HR.2;have hjl:(j:Int)=len:=by omega
   have HJ:Hid ((j:Int)=len):=hjl;clear HR hjl;go_wp2;go_ret;exact ⟨qe7 (by rw [HJ.out]),HF.out⟩
theorem qsi:Tryz.prog.cellsOf 226=2:=by kernel_rfl
theorem qmw:Tryz.prog.cellsOf 4=1:=by kernel_rfl
theorem qn3 {H:Type} {enc:TypeId × Value->H} {w:World} {base fuel:Nat} {spare:Nat->Bool} {held:Bool} {c0 c1:Value} {x:DataW H × List MemPlace}
  (hf:DataW.trod enc Tryz.prog w base spare held fuel 226 [c0,c1]=some x):
  ∃ (m:Bool) (v:Int),c0=.bool m/\c1=.int .i64 v:=by
 obtain ⟨xs,m,-,-,-,hl,hx⟩:=DataW.trod_struct Tryz.underlying226 hf;have hl:xs.length=2:=hl;have q0:DataW.trod enc Tryz.prog w base spare held m 4 [c0]=xs[0]?:=by simpa [qmw] using hx 0 _ rfl
 have q1:DataW.trod enc Tryz.prog w base spare held m 3 [c1]=xs[1]?:=by simpa [qb1,qmw] using hx 1 _ rfl
 rw [List.getElem?_eq_getElem (by omega)] at q0 q1;obtain ⟨z0,e0,-⟩:=DataW.trod_bool Tryz.underlying4 q0;obtain ⟨z1,e1,-,-⟩:=DataW.trod_int Tryz.underlying3 q1;simp only [List.cons.injEq,and_true] at e0 e1;exact ⟨z0,z1,e0,e1⟩
theorem qtl {H:Type} {enc:TypeId × Value->H} {w:World} {spare:Nat->Bool} {held:Bool} {base:Nat} {a0:Option Addr} {len cap:Nat} {d:DataW H} {p:List MemPlace}
  (h:DataW.Trod enc Tryz.prog w base spare held 161 (.slice a0 len cap) d p):
  len<=maxLen/\(len=0\/∃ b off h,a0=some ⟨b,off,none⟩/\b<w.heap.size/\ItAt w b off len h):=by
 obtain ⟨fuel,hf⟩:=h
 rcases Go.Deep.open_slice Tryz.underlying161 hf with ⟨hcs,_⟩ | ⟨a,len',cap',m,n,D,Pl,hcs,_,hl,hm,hmm,_,hx⟩
 ·simp [Value.cells] at hcs
  obtain ⟨_,rfl,_⟩:=hcs;exact ⟨Nat.zero_le _,.inl rfl⟩
 ·simp [Value.cells] at hcs
  obtain ⟨rfl,rfl,rfl⟩:=hcs;refine ⟨zO hl hm,?_⟩;by_cases h0:len=0
  ·exact .inl h0
  right;have hle:len<=m:=by rw [hmm];split <;> omega
  rw [qsi] at hx;obtain ⟨b,off,spot⟩:=a
  have hcell:∀ i,i<len->∃ x:I2,w.cell? (Addr.add (Addr.add ⟨b,off,spot⟩ (i*2)) 0)=some (.bool x.m)/\w.cell? (Addr.add (Addr.add ⟨b,off,spot⟩ (i*2)) 1)=some (.int .i64 x.v):=by
   intro i hi;obtain ⟨cs',h1,h2⟩:=hx i (by omega);obtain ⟨_,hlen,hc⟩:=World.cells?_some h1
   match cs',hlen with
   | [c0,c1],_=>
    obtain ⟨k,v,rfl,rfl⟩:=qn3 h2;exact ⟨⟨k,v⟩,hc 0 (by omega),hc 1 (by omega)⟩
  have hspot:spot=none:=by
   obtain ⟨x,hx0,_⟩:=hcell 0 (by omega);simpa [Addr.add] using World.cell?_spot hx0
  subst hspot;have inh:Inhabited I2:=⟨⟨false,0⟩⟩
  obtain ⟨g,hg⟩:=Go.Deep.choose_lt (α:=I2) hcell
  have hI:ItAt w b off len g:=by
   intro i hi;obtain ⟨q0,q1⟩:=hg i hi;rw [qb0,qb0] at q0 q1;exact ⟨q0,q1⟩
  exact ⟨b,off,g,rfl,qga (hI 0 (by omega)).1,hI⟩
def sumL (ls:Nat->Nat):Nat->Nat
 | 0=>0
 | n+1=>sumL ls n+ls n
theorem qvp (ls:Nat->Nat) {k n:Nat} (h:k<=n):sumL ls k<=sumL ls n:=by
 induction n with
 | zero=>
  have:k=0:=by omega
  subst this;exact Nat.le_refl _
 | succ n ih=>
  by_cases hk:k=n+1
  ·subst hk
   exact Nat.le_refl _
  ·have:=ih (by omega)
   show sumL ls k<=sumL ls n+ls n;omega
theorem qbc (ls:Nat->Nat) {k n:Nat} (h:k<n):sumL ls k+ls k<=sumL ls n:=qvp ls (k:=k+1) h
def RowS (w:World) (a0:Option Addr) (n:Nat) (f:Nat->Value):Prop:=
 n=0\/∃ b off,a0=some ⟨b,off,none⟩/\b<w.heap.size/\∀ i,i<n->w.cell? ⟨b,off+i,none⟩=some (f i)
theorem RowS.below {w w':World} {a0:Option Addr} {n:Nat} {f:Nat->Value} (h:RowS w a0 n f) (hb:Below w.heap.size w w'):RowS w' a0 n f:=by
 rcases h with h | ⟨b,off,e,hlt,hc⟩
 ·exact .inl h
 ·exact .inr ⟨b,off,e,zL hlt hb.size,fun i hi=>(hb.cell (p:=⟨b,off+i,none⟩) hlt).trans (hc i hi)⟩
theorem RowS.at {w:World} {a0:Option Addr} {n:Nat} {f:Nat->Value} (h:RowS w a0 n f) {k:Nat} (hk:k<n):∃ b off,a0=some ⟨b,off,none⟩/\w.cell? ⟨b,off+k,none⟩=some (f k):=by
 rcases h with rfl | ⟨b,off,e,-,hc⟩
 ·omega
 ·exact ⟨b,off,e,hc k hk⟩
structure qaa (P:Nat->Prop) (w w':World):Prop where
 os:w'.os=w.os
 tape:w'.tape=w.tape
 output:w'.output=w.output
 size:w.heap.size<=w'.heap.size
 block:∀ k,k<w.heap.size->¬ P k->w'.heap[k]? = w.heap[k]?
theorem qaa.refl (P:Nat->Prop) (w:World):qaa P w w:=⟨rfl,rfl,rfl,Nat.le_refl _,fun _ _ _=>rfl⟩
theorem qaa.trans {P:Nat->Prop} {a b c:World} (h:qaa P a b) (k:qaa P b c):qaa P a c:=
 ⟨k.os.trans h.os,k.tape.trans h.tape,k.output.trans h.output,zO h.size k.size,fun i hi hn=>(k.block i (zL hi h.size) hn).trans (h.block i hi hn)⟩
theorem qaa.mono {P Q:Nat->Prop} {w w':World} (h:qaa P w w') (hq:∀ k,P k->Q k):qaa Q w w':=
 ⟨h.os,h.tape,h.output,h.size,fun k hk hn=>h.block k hk fun hp=>hn (hq k hp)⟩
theorem qaa.of_grown {P:Nat->Prop} {w w':World} {row:Option Nat} (h:w.grownBy w' row) (hp:∀ k,row=some k->P k):qaa P w w':=
 ⟨h.os,h.tape,h.output,h.size,fun k hk hn=>h.block k hk fun e=>hn (hp k e.symm)⟩
theorem qaa.of_below {P:Nat->Prop} {w w':World} (h:Below w.heap.size w w'):qaa P w w':=
 ⟨h.os,h.tape,h.output,h.size,fun k hk _=>h.block k hk⟩
theorem qaa.of_set {P:Nat->Prop} (w:World) {a:Addr} (ha:P a.block) (u:Value):qaa P w (w.setCell a u):=
 ⟨rfl,rfl,rfl,by simp [World.setCell],fun k _ hn=>zN _ _ _ _ fun e=>hn (e ▸ ha)⟩
theorem qaa.below {P:Nat->Prop} {w w':World} {B:Nat} (h:qaa P w w') (hB:B<=w.heap.size) (hp:∀ k,P k->B<=k):Below B w w':=
 ⟨h.os,h.tape,h.output,h.size,fun k hk=>h.block k (by omega) fun e=>by have:=hp k e;omega⟩
theorem qaa.cell {P:Nat->Prop} {w w':World} (h:qaa P w w') {b:Nat} (hb:b<w.heap.size) (hp:¬ P b) (j:Nat):w'.cell? ⟨b,j,none⟩=w.cell? ⟨b,j,none⟩:=zH (h.block b hb hp)
theorem qaa.frozen {P:Nat->Prop} {w w':World} (h:qaa P w w') {b:Nat} (hb:b<w.heap.size) (hp:¬ P b) (j:Nat):w'.frozen? ⟨b,j,none⟩=w.frozen? ⟨b,j,none⟩:=zI (h.block b hb hp)
theorem qdg {H:Type} {enc:TypeId × Value->H} {w:World} {spare:Nat->Bool} {held:Bool} {base:Nat} {a0:Option Addr} {len cap:Nat} {d:DataW H} {p:List MemPlace} {t el:TypeId} (hu:Tryz.prog.underlying t=some (.slice el)) (h1:Tryz.prog.cellsOf el=1)
  (h:DataW.Trod enc Tryz.prog w base spare held t (.slice a0 len cap) d p):
  len<=maxLen/\∃ f:Nat->Value,RowS w a0 len f/\∀ i,i<len->∃ m x,DataW.trod enc Tryz.prog w base spare held m el [f i]=some x:=by
 obtain ⟨fuel,hf⟩:=h
 rcases Go.Deep.open_slice hu hf with ⟨hcs,_⟩ | ⟨a,len',cap',m,n,D,Pl,hcs,_,hl,hm,hmm,_,hx⟩
 ·simp [Value.cells] at hcs
  obtain ⟨_,rfl,_⟩:=hcs;exact ⟨Nat.zero_le _,fun _=>.int .i64 0,.inl rfl,fun i hi=>by omega⟩
 ·simp [Value.cells] at hcs
  obtain ⟨rfl,rfl,rfl⟩:=hcs;refine ⟨zO hl hm,?_⟩;have hle:len<=m:=by rw [hmm];split <;> omega
  rw [h1] at hx;obtain ⟨b,off,spot⟩:=a
  have hcell:∀ i,i<len->∃ c:Value,w.cell? (Addr.add (Addr.add ⟨b,off,spot⟩ (i*1)) 0)=some c/\∃ m x,DataW.trod enc Tryz.prog w base spare held m el [c]=some x:=by
   intro i hi;obtain ⟨cs',h1,h2⟩:=hx i (by omega);obtain ⟨_,hlen,hc⟩:=World.cells?_some h1
   match cs',hlen with
   | [c0],_=>exact ⟨c0,hc 0 (by omega),_,_,h2⟩
  have inh:Inhabited Value:=⟨.int .i64 0⟩
  obtain ⟨g,hg⟩:=Go.Deep.choose_lt (α:=Value) hcell;refine ⟨g,?_,fun i hi=>(hg i hi).2⟩;by_cases h0:len=0
  ·exact .inl h0
  have hspot:spot=none:=by
   have hx0:=(hg 0 (by omega)).1;simpa [Addr.add] using World.cell?_spot hx0
  subst hspot
  have hI:∀ i,i<len->w.cell? ⟨b,off+i,none⟩=some (g i):=by
   intro i hi;have q0:=(hg i hi).1;rw [qb0,qb0,Nat.mul_one] at q0;exact q0
  exact .inr ⟨b,off,rfl,qga (hI 0 (by omega)),hI⟩
def EvL (w:World) (a:Option Addr) (len:Nat) (h:Nat->E3):Prop:=len=0\/∃ b off,a=some ⟨b,off,none⟩/\b<w.heap.size/\EvAt w b off len h
theorem EvL.below {w w':World} {a:Option Addr} {len:Nat} {h:Nat->E3} (hh:EvL w a len h) (hb:Below w.heap.size w w'):EvL w' a len h:=by
 rcases hh with e | ⟨b,off,e,hlt,hc⟩
 ·exact .inl e
 ·exact .inr ⟨b,off,e,zL hlt hb.size,hc.below hb hlt⟩
theorem EvL.at {w:World} {a:Option Addr} {len:Nat} {h:Nat->E3} (hh:EvL w a len h) {k:Nat} (hk:k<len):∃ b off,a=some ⟨b,off,none⟩/\b<w.heap.size/\w.cell? ⟨b,off+k*3,none⟩=some (.int .i64 (h k).k)/\w.cell? ⟨b,off+k*3+1,none⟩=some (.int .i64 (h k).q)/\w.cell? ⟨b,off+k*3+2,none⟩=some (.int .i64 (h k).v):=by
 rcases hh with rfl | ⟨b,off,e,hlt,hc⟩
 ·omega
 ·exact ⟨b,off,e,hlt,hc k hk⟩
theorem EvL.take {w:World} {a:Option Addr} {len:Nat} {h:Nat->E3} (hh:EvL w a len h) {k:Nat} (hk:k<=len):EvL w a k h:=by
 rcases hh with rfl | ⟨b,off,e,hlt,hc⟩
 ·exact .inl (by omega)
 ·exact .inr ⟨b,off,e,hlt,fun i hi=>hc i (by omega)⟩
theorem EvL.one {w:World} {b off len:Nat} {h:Nat->E3} (hh:EvL w (some ⟨b,off,none⟩) len h) {k:Nat} (hk:k<len):EvAt w b off len h/\b<w.heap.size:=by
 rcases hh with rfl | ⟨b',off',e,hlt,hc⟩
 ·omega
 ·simp only [Option.some.injEq,Addr.mk.injEq] at e
  obtain ⟨rfl,rfl,-⟩:=e;exact ⟨hc,hlt⟩
def hitB (eh:Nat->E3) (kd pr:Int) (i:Nat):Bool:=((eh i).k == kd) && ((eh i).q == pr)
def plN (eh:Nat->E3) (kd pr:Int):Nat->List Nat
 | 0=>[]
 | n+1=>if hitB eh kd pr n=true then plN eh kd pr n ++ [n] else plN eh kd pr n
def valL (eh:Nat->E3) (kd pr:Int) (n:Nat):List Int:=(plN eh kd pr n).map fun i=>(eh i).v
def plI (eh:Nat->E3) (kd pr:Int) (n:Nat):List Int:=(plN eh kd pr n).map fun i:Nat=>(i:Int)
theorem qru (eh:Nat->E3) (kd pr:Int):∀ n,(plN eh kd pr n).length<=n
 | 0=>Nat.le_refl _
 | n+1=>by
  unfold plN;have:=qru eh kd pr n
  split
  ·simp;omega
  ·omega
theorem qgp (eh:Nat->E3) (kd pr:Int) (n:Nat):(valL eh kd pr n).length<=n:=by
 unfold valL;rw [List.length_map];exact qru eh kd pr n
theorem qxo (eh:Nat->E3) (kd pr:Int) (n:Nat):(plI eh kd pr n).length<=n:=by
 unfold plI;rw [List.length_map];exact qru eh kd pr n
theorem qr2 {eh:Nat->E3} {kd pr:Int} {n:Nat} (hh:hitB eh kd pr n=true):valL eh kd pr (n+1)=valL eh kd pr n ++ [(eh n).v]:=by
 unfold valL;rw [plN,if_pos hh,List.map_append];rfl
theorem qmb {eh:Nat->E3} {kd pr:Int} {n:Nat} (hh:hitB eh kd pr n=false):valL eh kd pr (n+1)=valL eh kd pr n:=by
 unfold valL;rw [plN,if_neg (by rw [hh];decide)]
theorem qyf {eh:Nat->E3} {kd pr:Int} {n:Nat} (hh:hitB eh kd pr n=true):plI eh kd pr (n+1)=plI eh kd pr n ++ [(n:Int)]:=by
 unfold plI;rw [plN,if_pos hh,List.map_append];rfl
theorem qvb {eh:Nat->E3} {kd pr:Int} {n:Nat} (hh:hitB eh kd pr n=false):plI eh kd pr (n+1)=plI eh kd pr n:=by
 unfold plI;rw [plN,if_neg (by rw [hh];decide)]
structure Tu (lo hi:Nat) (w w':World):Prop where
 os:w'.os=w.os
 tape:w'.tape=w.tape
 output:w'.output=w.output
 size:w.heap.size<=w'.heap.size
 block:∀ k,k<w.heap.size->(k<lo\/hi<=k)->w'.heap[k]? = w.heap[k]?
theorem Tu.of_below {w w':World} (h:Below w.heap.size w w'):Tu 0 0 w w':=⟨h.os,h.tape,h.output,h.size,fun k hk _=>h.block k hk⟩
theorem Tu.of_row {w w':World} {b:Nat} (h:w.grownBy w' (some b)):Tu b (b+1) w w':=⟨h.os,h.tape,h.output,h.size,fun k hk hn=>h.block k hk (by simp;omega)⟩
theorem Tu.below {lo hi B:Nat} {w w':World} (h:Tu lo hi w w') (hB:B<=w.heap.size) (hl:B<=lo):Below B w w':=⟨h.os,h.tape,h.output,h.size,fun k hk=>h.block k (by omega) (.inl (by omega))⟩
theorem OwnI.ofBlock {w w':World} {B:Nat} {u:Value} {xs:List Int} (hu:OwnI w B u xs) (ha:∀ k,u.ownBlock=some k->w'.heap[k]? = w.heap[k]?):OwnI w' B u xs:=by
 rcases hu.2 with ⟨rfl,h0⟩ | ⟨g,cap,cur,rfl,hb,hg,hr⟩
 ·exact ⟨hu.1,.inl ⟨rfl,h0⟩⟩
 ·refine ⟨hu.1,.inr ⟨g,cap,cur,rfl,hb,?_,hr⟩⟩
  rw [ha g rfl];exact hg
theorem OwnI.slOf {w:World} {B n cap:Nat} {a0:Option Addr} {xs:List Int} (h:OwnI w B (.slice a0 n cap) xs):Sl w a0 xs:=by
 obtain ⟨a1,c1,e,s⟩:=h.form;simp only [Value.slice.injEq] at e;obtain ⟨rfl,-,-⟩:=e;exact s
structure Tl (w:World) (B C N:Nat) (p c:Int) (ra:Option Addr) (rn rc:Nat) (oa:Option Addr) (on oc:Nat) (rs os:List Int):Prop where
 lo:B<=N
 hi:N<C
 sz:C<=w.heap.size
 box:BoxC w N (.int .i64 p) (.slice ra rn rc) (.slice oa on oc) (.int .i64 c)
 own:qag w B (stV p ra rn rc oa on oc c) p rs os c
 up:∀ k,qae (stV p ra rn rc oa on oc c) k->k<C
 ne:¬ qae (stV p ra rn rc oa on oc c) N
theorem Tl.tu {w w':World} {B C N:Nat} {p c:Int} {ra:Option Addr} {rn rc:Nat} {oa:Option Addr} {on oc:Nat} {rs os:List Int} {lo hi:Nat} (h:Tl w B C N p c ra rn rc oa on oc rs os) (t:Tu lo hi w w') (hd:C<=lo\/hi<=B):Tl w' B C N p c ra rn rc oa on oc rs os:=by
 obtain ⟨h1,h2,h3,⟨b0,b1,b2,b3⟩,h5,h6,h7⟩:=h;have hb:∀ k,B<=k->k<C->w'.heap[k]? = w.heap[k]?:=fun k k1 k2=>t.block k (by omega) (by omega);have hN:=hb N h1 h2;refine ⟨h1,h2,zO h3 t.size,⟨(zH hN).trans b0,(zH hN).trans b1,(zH hN).trans b2,(zH hN).trans b3⟩,?_,h6,h7⟩;obtain ⟨o1,o2,ha⟩:=h5.parts;refine ⟨_,_,rfl,o1.ofBlock fun k hk=>?_,o2.ofBlock fun k hk=>?_,ha⟩
 ·exact hb k (o1.lt k hk).1 (h6 k ((qal _ _ _ _ _).2 (.inl hk)))
 ·exact hb k (o2.lt k hk).1 (h6 k ((qal _ _ _ _ _).2 (.inr hk)))
theorem Tl.below {w w':World} {B C N:Nat} {p c:Int} {ra:Option Addr} {rn rc:Nat} {oa:Option Addr} {on oc:Nat} {rs os:List Int} (h:Tl w B C N p c ra rn rc oa on oc rs os) (hb:Below w.heap.size w w'):Tl w' B C N p c ra rn rc oa on oc rs os:=h.tu (Tu.of_below hb) (.inr (Nat.zero_le _))
theorem Tl.sl {w:World} {B C N:Nat} {p c:Int} {ra:Option Addr} {rn rc:Nat} {oa:Option Addr} {on oc:Nat} {rs os:List Int} (h:Tl w B C N p c ra rn rc oa on oc rs os):Sl w ra rs/\Sl w oa os:=⟨h.own.parts.1.slOf,h.own.parts.2.1.slOf⟩
theorem Tl.marked {w w':World} {B C N:Nat} {p c:Int} {ra:Option Addr} {rn rc:Nat} {oa:Option Addr} {on oc:Nat} {rs os rs' os':List Int} (h:Tl w B C N p c ra rn rc oa on oc rs os) (ho:qag w' B (stV p ra rn rc oa on oc c) p rs' os' c) (hm:qa6 (stV p ra rn rc oa on oc c) w w'):Tl w' B C N p c ra rn rc oa on oc rs' os':=
 ⟨h.lo,h.hi,zO h.sz hm.size,h.box.marked hm h.ne,ho,h.up,h.ne⟩
theorem Tl.of_alloc {w:World} {B:Nat} {p c:Int} {ra oa:Option Addr} {rn rc on oc:Nat} {rs os:List Int} (h:qag w B (stV p ra rn rc oa on oc c) p rs os c) (hw:B<=w.heap.size) (t:TypeId):Tl (w.alloc (.cells #[.int .i64 p,.slice ra rn rc,.slice oa on oc,.int .i64 c] t)) B (w.heap.size+1) w.heap.size p c ra rn rc oa on oc rs os:=
 ⟨hw,Nat.lt_succ_self _,by simp,BoxC.new w _ _ _ _ _,h.below (zS _ _),fun k hk=>Nat.lt_succ_of_lt (h.lt hk).2,fun e=>Nat.lt_irrefl _ (h.lt e).2⟩
def Told (w:World) (B N:Nat) (S:S4):Prop:=∃ ra rc oa oc,BoxC w N (.int .i64 S.p) (.slice ra S.rs.length rc) (.slice oa S.os.length oc) (.int .i64 S.c)/\qag w B (stV S.p ra S.rs.length rc oa S.os.length oc S.c) S.p S.rs S.os S.c/\B<=N/\¬ qae (stV S.p ra S.rs.length rc oa S.os.length oc S.c) N
theorem Told.tl {w:World} {B N:Nat} {S:S4} (h:Told w B N S):∃ ra rc oa oc,Tl w B w.heap.size N S.p S.c ra S.rs.length rc oa S.os.length oc S.rs S.os:=by
 obtain ⟨ra,rc,oa,oc,h1,h2,h3,h4⟩:=h;exact ⟨ra,rc,oa,oc,h3,zJ w _ h1.1,Nat.le_refl _,h1,h2,fun k hk=>(h2.lt hk).2,h4⟩
theorem BoxC.set4 {w:World} {N:Nat} {z0 z1 z2 z3:Value} (h:BoxC w N z0 z1 z2 z3) (a b c d:Value):BoxC ((((w.setCell ⟨N,0,none⟩ a).setCell ⟨N,1,none⟩ b).setCell ⟨N,2,none⟩ c).setCell ⟨N,3,none⟩ d) N a b c d:=by
 obtain ⟨h0,h1,h2,h3⟩:=h;exact ⟨by go_cell,by go_cell,by go_cell,by go_cell⟩
theorem qxk (w:World) (N:Nat) (a b c d:Value):w.grownBy ((((w.setCell ⟨N,0,none⟩ a).setCell ⟨N,1,none⟩ b).setCell ⟨N,2,none⟩ c).setCell ⟨N,3,none⟩ d) (some N):=by
 repeat (refine zU ?_ (.inl rfl) _)
 exact World.grownBy.refl _ _
theorem Told.of_alloc {w:World} {B B':Nat} {S:S4} {ra oa:Option Addr} {rc oc:Nat} (h:qag w B' (stV S.p ra S.rs.length rc oa S.os.length oc S.c) S.p S.rs S.os S.c) (hB:B<=B') (hw:B<=w.heap.size) (t:TypeId):Told (w.alloc (.cells #[.int .i64 S.p,.slice ra S.rs.length rc,.slice oa S.os.length oc,.int .i64 S.c] t)) B w.heap.size S:=by
 refine ⟨ra,rc,oa,oc,BoxC.new w _ _ _ _ _,?_,hw,fun e=>Nat.lt_irrefl _ (h.lt e).2⟩;obtain ⟨vr,vo,e,o1,o2,ha⟩:=h;exact ⟨vr,vo,e,(o1.below (zS _ _)).mono hB,(o2.below (zS _ _)).mono hB,ha⟩
theorem Told.of_put {w:World} {B B' N:Nat} {S:S4} {ra oa:Option Addr} {rc oc:Nat} {z0 z1 z2 z3:Value} (h:qag w B' (stV S.p ra S.rs.length rc oa S.os.length oc S.c) S.p S.rs S.os S.c) (hB:B<=B') (hN:N<B') (hw:B<=N) (hZ:BoxC w N z0 z1 z2 z3):Told ((((w.setCell ⟨N,0,none⟩ (.int .i64 S.p)).setCell ⟨N,1,none⟩ (.slice ra S.rs.length rc)).setCell ⟨N,2,none⟩ (.slice oa S.os.length oc)).setCell ⟨N,3,none⟩ (.int .i64 S.c)) B N S:=
 ⟨ra,rc,oa,oc,hZ.set4 _ _ _ _,h.put4 hN hB,hw,fun e=>Nat.not_le_of_lt hN (h.lt e).1⟩
theorem qho (w:World):
  Calls Tryz.prog 224 #[] w fun e w'=>∃ v,e=.returned v/\qag w' w.heap.size v 0 [0,0,0,0] [] 0/\Below w.heap.size w w':=by
 have hmk:∀ w:World,(Instr.makeSlice 28 (.int .i64 4) (.int .i64 4)).run Tryz.prog w=.ok (.slice (some ⟨w.heap.size,0,none⟩) 4 4) (w.alloc (.cells (madeCells #[.int .i64 0] 4) 3)):=fun w=>qb9 4 (by omega) w;have HM:Hid (∀ w:World,OwnI (w.alloc (.cells (madeCells #[.int .i64 0] 4) 3)) w.heap.size (.slice (some ⟨w.heap.size,0,none⟩) 4 4) [0,0,0,0]):=fun w=>qle w 4 (by omega)
 go_enter Tryz.func224,Tryz.ntmps224
 go_wp2;have hB:w.heap.size<=w.heap.size+1:=by omega
 have hM:=HM.out (w.alloc (oQ1 0 (some ⟨w.heap.size+1,0,none⟩) 4 4 none 0 0 0));rw [World.size_alloc] at hM;refine bodyPost_ret (v:=stV 0 (some ⟨w.heap.size+1,0,none⟩) 4 4 none 0 0 0) (by simp [results,Tryz.results224,go_sem]) rfl ⟨_,rfl,⟨_,_,rfl,hM.mono hB,World.ownsRow_nil _ _ _ _,fun k _=>by simp [Value.ownBlock]⟩,by go_grown⟩
theorem qq2 (eh:Nat->E3) (kd pr:Int) (n:Nat):(valL eh kd pr n).length=(plN eh kd pr n).length:=by simp [valL]
theorem qei (eh:Nat->E3) (kd pr:Int) (n:Nat):(plI eh kd pr n).length=(plN eh kd pr n).length:=by simp [plI]
def nthV (eh:Nat->E3) (kd pr:Int) (len:Nat) (n:Int):Int:=if belB n ((plI eh kd pr len).length:Nat)=true then zi (plI eh kd pr len) n.toNat else -1
theorem qql (eh:Nat->E3) (kd pr:Int):∀ n,∀ q ∈ plN eh kd pr n,q<n
 | 0,q,h=>by simp [plN] at h
 | n+1,q,h=>by
  unfold plN at h
  split at h
  ·simp at h
   rcases h with h | h
   ·have:=qql eh kd pr n q h
    omega
   ·omega
  ·have:=qql eh kd pr n q h
   omega
theorem qn5 (eh:Nat->E3) (kd pr:Int) (len j:Nat) (hj:j<(plI eh kd pr len).length):∃ q:Nat,zi (plI eh kd pr len) j=(q:Int)/\q<len/\(plN eh kd pr len)[j]? = some q:=by
 have hj':j<(plN eh kd pr len).length:=by rw [qei] at hj;exact hj
 refine ⟨(plN eh kd pr len)[j],?_,qql eh kd pr len _ (List.getElem_mem hj'),List.getElem?_eq_getElem hj'⟩;unfold zi plI;rw [List.getD_eq_getElem?_getD,List.getElem?_map,List.getElem?_eq_getElem hj'];rfl
theorem qr6 {ops:Array Oper} {rest:List Oper} {op:Oper} {act:Act} {Q:Exit->Act->World->Prop} (w:World) (hgd:op.guard=none) (s x:Operand)
  (ho:op.op=.call { callee:=.builtin .append,args:=#[s,x],argTypes:=#[28,28] })
  (B:Nat) (v:Value) (xs:List Int) (hs:act.eval s=v) (hv:OwnI w B v xs) (y:Int) (hx:act.eval x=.slice (some ⟨w.heap.size,0,none⟩) 1 1) (hn:xs.length<=1048576) (hB:B<=w.heap.size)
  (h:∀ v' w',OwnI w' B v' (xs ++ [y])->w.grownBy w' v.ownBlock->(∀ j,v'.ownBlock=some j->v.ownBlock=some j\/w.heap.size<=j)->wpList Tryz.prog ops Q rest (act.put op.dst v') w'):
  wpList Tryz.prog ops Q (op :: rest) act (w.alloc (.cells #[.int .i64 y] 3)):=by
 have hb:Below w.heap.size w (w.alloc (.cells #[.int .i64 y] 3)):=(Below.refl _ _).alloc (Nat.le_refl _) _;refine qba _ hgd s x ho B 1 v (some ⟨w.heap.size,0,none⟩) xs [y] hs hx (hv.below hb) (.inr ⟨w.heap.size,0,rfl,by simp,fun i hi=>?_⟩) (by simp;omega) (by simp;omega) ?_
 ·have:i=0:=by simp at hi;omega
  subst this;exact zV _ _ _ 0 rfl
 ·intro v' w' o g a
  refine h v' w' o ⟨g.os,g.tape,g.output,zO hb.size g.size,fun k hk hne=>(g.block k (zL hk hb.size) hne).trans (hb.block k hk)⟩ fun j hj=>?_
  rcases a with a | a
  ·exact .inl (a.symm.trans hj)
  ·rw [hj] at a
   simp only [Option.some.injEq] at a;right;rw [a];simp
def Away (w w1 wr:World) (o:Value):Prop:=(∀ j,o.ownBlock=some j->j=w.heap.size\/w1.heap.size<=j)/\(∀ j,w.heap.size<j->j<w1.heap.size->wr.heap[j]? = w1.heap[j]?)/\w1.heap.size<=wr.heap.size
theorem Away.step {w w1 wr w4:World} {o v':Value} (h:Away w w1 wr o) (g:wr.grownBy w4 o.ownBlock) (a:∀ j,v'.ownBlock=some j->o.ownBlock=some j\/wr.heap.size<=j):Away w w1 w4 v':=by
 obtain ⟨h1,h2,h3⟩:=h;refine ⟨fun j hj=>?_,fun j p1 p2=>?_,zO h3 g.size⟩
 ·rcases a j hj with a | a
  ·exact h1 j a
  ·right;omega
 ·rw [g.block j (by omega) (fun e=>?_),h2 j p1 p2]
  rcases h1 j e.symm with e | e <;> omega
theorem Away.sl {w w1 wr:World} {o:Value} (h:Away w w1 wr o) {B cp:Nat} {a0:Option Addr} {xs:List Int} (hB:w.heap.size<B) (hO:OwnI w1 B (.slice a0 xs.length cp) xs):Sl wr a0 xs:=by
 by_cases hx:0<xs.length
 ·obtain ⟨g,cap,e,hg,hl⟩:=hO.block hx
  simp only [Value.slice.injEq] at e;obtain ⟨rfl,-,rfl⟩:=e;refine .inr ⟨g,0,rfl,zL hl h.2.2,fun i hi=>?_⟩;rw [Nat.zero_add,zH (h.2.1 g (by omega) hl)];exact hO.cell hi
 ·exact .inl (List.eq_nil_of_length_eq_zero (by omega))
def valT (eh:Nat->E3) (kd pr:Int) (len j:Nat):List Int:=((plN eh kd pr len).take j).map fun i=>(eh i).v
theorem qyk (eh:Nat->E3) (kd pr:Int) (len j:Nat):(valT eh kd pr len j).length<=j:=by simp [valT];omega
theorem qxb (eh:Nat->E3) (kd pr:Int) (len:Nat):valT eh kd pr len (plI eh kd pr len).length=valL eh kd pr len:=by
 unfold valT valL;rw [qei,List.take_length]
theorem qvw {eh:Nat->E3} {kd pr:Int} {len j q:Nat} (h:(plN eh kd pr len)[j]? = some q):valT eh kd pr len (j+1)=valT eh kd pr len j ++ [(eh q).v]:=by
 unfold valT;rw [List.take_add_one,h,List.map_append];rfl
