import Derived.Test.YtchhijiibjijhaaGreatDoorYf11
namespace Go.Proofs.YtchhijiibjijhaaGreatDoor
set_option maxRecDepth 100000
set_option maxHeartbeats 1000000
open Go.RowKit Go.Deep
theorem qqh (b off len cap:Nat) (g:Nat->I5) (w:World) (hlen:len<=1048576) (hb:b<w.heap.size) (hc:qaj w b off len g):
  Calls Tryz.prog 93 #[.slice (some ⟨b,off,none⟩) len cap] w fun e w'=>e=.returned (.slice (some ⟨w.heap.size,0,none⟩) len len)/\qaj w' w.heap.size 0 len g/\w.heap.size<w'.heap.size/\Below w.heap.size w w'/\∀ j,w'.frozen? ⟨w.heap.size,j,none⟩=false:=by
 have hl':(len:Int)<=1048576:=by omega
 have hmk:=qho len hlen
 have HC:Hid (qaj w b off len g):=hc
 clear hc
 go_enter Tryz.func93,Tryz.ntmps93
 go_wp2_with fail
 clear hmk
 go_loopw [4] (fun i wr=>∃ k:Nat,k<=len/\i=.int .i64 k/\(∃ f,wr.rowIs w.heap.size 115 (len*5) f/\Hid (qid f g k))/\Below w.heap.size w wr) (fun i _=>len - (intOf i).toNat)
 case atStart=>exact ⟨0,Nat.zero_le _,rfl,⟨_,qpo w len,fun i hi=>by omega⟩,(Below.refl _ _).alloc (Nat.le_refl _) _⟩
 case round=>
  obtain ⟨k,hk,rfl,⟨f,hrow,HF⟩,hbw⟩:=hrel
  have hs:=hrow.lt
  by_cases hlt:k<len
  ·obtain ⟨c0,c1,c2,c3,c4⟩:=HC.out.below hbw hb k hlt
   have HR:Hid (wr.rowIs w.heap.size 115 (len*5) f):=hrow
   clear hrow
   go_wp2_with fail
   refine (qu8 _ _ _ _ _ _).mono ?_
   rintro e w1 ⟨rfl,hb1⟩
   have hr1:w1.rowIs w.heap.size 115 (len*5) f:=HR.out.of_block (hb1.block _ hs)
   have f0:=hr1.frozen (k*5)
   have f1:=hr1.frozen (k*5+1)
   have f2:=hr1.frozen (k*5+2)
   have f3:=hr1.frozen (k*5+3)
   have f4:=hr1.frozen (k*5+4)
   have g0:=hr1.cell (i:=k*5) (by omega)
   have g1:=hr1.cell (i:=k*5+1) (by omega)
   have g2:=hr1.cell (i:=k*5+2) (by omega)
   have g3:=hr1.cell (i:=k*5+3) (by omega)
   have g4:=hr1.cell (i:=k*5+4) (by omega)
   have HR1:Hid (w1.rowIs w.heap.size 115 (len*5) f):=hr1
   clear hr1
   go_wp2_with fail
   exact ⟨⟨k+1,by omega,by go_num,qid.step HR1.out HF.out,(((((hbw.trans (hb1.mono (Nat.le_of_lt hs))).setCell (Nat.le_refl _) _).setCell (Nat.le_refl _) _).setCell (Nat.le_refl _) _).setCell (Nat.le_refl _) _).setCell (Nat.le_refl _) _⟩,by simp [intOf];omega⟩
  ·have hkl:k=len:=by omega
   have HI:Hid (qaj wr w.heap.size 0 len g):=by
    have:=HF.out.at hrow hk
    rw [hkl] at this
    exact this
   have HZ:Hid (∀ j,wr.frozen? ⟨w.heap.size,j,none⟩=false):=fun j=>hrow.frozen j
   clear hkl HF hrow
   go_wp2
   go_ret
   exact ⟨rfl,HI.out,hs,hbw,HZ.out⟩
theorem qh3 (a0:Option Addr) (cap:Nat) (g:Nat->I5) (w:World):
  Calls Tryz.prog 93 #[.slice a0 0 cap] w fun e w'=>e=.returned (.slice (some ⟨w.heap.size,0,none⟩) 0 0)/\qaj w' w.heap.size 0 0 g/\w.heap.size<w'.heap.size/\Below w.heap.size w w'/\∀ j,w'.frozen? ⟨w.heap.size,j,none⟩=false:=by
 have hmk:∀ w:World,(Instr.makeSlice 113 (.int .i64 0) (.int .i64 0)).run Tryz.prog w=.ok (.slice (some ⟨w.heap.size,0,none⟩) 0 0) (w.alloc (.cells (madeCells (insV 0 0 0 0 0).cells (0*5)) 115)):=fun w=>qho 0 (by omega) w
 go_enter Tryz.func93,Tryz.ntmps93
 go_wp2_with fail
 clear hmk
 go_rounds 1
 go_ret
 exact ⟨rfl,fun i hi=>by omega,by simp,(Below.refl _ _).alloc (Nat.le_refl _) _,fun j=>yD _ _ _ j rfl⟩
def qkc (w:World) (a0:Option Addr) (len cap:Nat) (g:Nat->I5):Prop:=∀ wx,Below w.heap.size w wx->
 Calls Tryz.prog 93 #[.slice a0 len cap] wx fun e w'=>e=.returned (.slice (some ⟨wx.heap.size,0,none⟩) len len)/\qaj w' wx.heap.size 0 len g/\wx.heap.size<w'.heap.size/\Below wx.heap.size wx w'/\∀ j,w'.frozen? ⟨wx.heap.size,j,none⟩=false
theorem qr2 {W:World} {a0:Option Addr} {len cap:Nat} (hl:len<=1048576) (hr:len=0\/∃ b off g,a0=some ⟨b,off,none⟩/\b<W.heap.size/\qaj W b off len g):∃ g,qkc W a0 len cap g:=by
 rcases hr with rfl | ⟨b,off,g,rfl,hb,hI⟩
 ·exact ⟨fun _=>⟨0,0,0,0,0⟩,fun wx _=>qh3 a0 cap _ wx⟩
 ·exact ⟨g,fun wx hB=>qqh b off len cap g wx hl (zL hb hB.size) (hI.below hB hb)⟩
def Room (w:World) (b len:Nat):Prop:=(∀ i,i<len*5->∃ u,w.cell? ⟨b,i,none⟩=some u)/\∀ j,w.frozen? ⟨b,j,none⟩=false
theorem Room.set {w:World} {b len:Nat} (h:Room w b len) (p:Addr) (v:Value):Room (w.setCell p v) b len:=
 ⟨fun i hi=>(h.1 i hi).elim fun _ e=>cell?_setCell_some e,fun j=>by rw [World.frozen?_setCell];exact h.2 j⟩
theorem Room.of_ins {w:World} {b len:Nat} {g:Nat->I5} (h:qaj w b 0 len g) (hf:∀ j,w.frozen? ⟨b,j,none⟩=false):Room w b len:=by
 refine ⟨fun i hi=>?_,hf⟩
 obtain ⟨c0,c1,c2,c3,c4⟩:=h (i / 5) (by omega)
 simp only [Nat.zero_add] at c0 c1 c2 c3 c4
 have hh:i=i / 5*5\/i=i / 5*5+1\/i=i / 5*5+2\/i=i / 5*5+3\/i=i / 5*5+4:=by omega
 rcases hh with e | e | e | e | e
 ·rw [e];exact ⟨_,c0⟩
 ·rw [e];exact ⟨_,c1⟩
 ·rw [e];exact ⟨_,c2⟩
 ·rw [e];exact ⟨_,c3⟩
 ·rw [e];exact ⟨_,c4⟩
theorem qng (b len cap:Nat) (k:Int) (w:World) (hlen:len<=1048576) (k0:0<=k) (k1:k<=100000000) (h:Room w b len):
  Calls Tryz.prog 106 #[.slice (some ⟨b,0,none⟩) len cap,.int .i64 k] w fun e w'=>e=.returned (.int .i64 (k+5*len))/\w.grownBy w' (some b):=by
 have hl':(len:Int)<=1048576:=by omega
 have HO:Hid (Room w b len):=h
 clear h
 go_enter Tryz.func106,Tryz.ntmps106
 go_wp2_with fail
 go_loopw [1,5] (fun q i wr=>∃ j:Nat,j<=len/\i=.int .i64 j/\q=.int .i64 (k+5*j)/\Hid (Room wr b len/\w.grownBy wr (some b))) (fun _ i _=>len - (intOf i).toNat)
 case atStart=>exact ⟨0,Nat.zero_le _,rfl,by simp,HO.out,World.grownBy.refl _ _⟩
 case round=>
  clear HO
  obtain ⟨j,hj,rfl,rfl,HR⟩:=hrel
  by_cases hlt:j<len
  ·have hlt':(j:Int)<(len:Int):=by omega
   obtain ⟨u0,c0⟩:=HR.out.1.1 (j*5) (by omega)
   obtain ⟨u1,c1⟩:=HR.out.1.1 (j*5+1) (by omega)
   obtain ⟨u2,c2⟩:=HR.out.1.1 (j*5+2) (by omega)
   obtain ⟨u3,c3⟩:=HR.out.1.1 (j*5+3) (by omega)
   obtain ⟨u4,c4⟩:=HR.out.1.1 (j*5+4) (by omega)
   have fz:=HR.out.1.2
   go_wp2
   go_roundw
   case rel=>
    refine ⟨j+1,by omega,by go_num,by go_num,?_⟩
    refine ⟨?_,?_⟩
    ·repeat (refine Room.set ?_ _ _)
     exact HR.out.1
    ·repeat (refine zV ?_ (.inl rfl) _)
     exact HR.out.2
   case measure=>simp [intOf];omega
  ·have hlt':¬ (j:Int)<(len:Int):=by omega
   have HF:Hid (w.grownBy wr (some b)):=HR.out.2
   have hjl:(j:Int)=len:=by omega
   have HJ:Hid ((j:Int)=len):=hjl
   clear HR hjl
   go_wp2
   go_ret
   exact ⟨qel (by rw [HJ.out]),HF.out⟩
open Go.ChangeShapes Go.WideShapes Go.ChangeAt
structure E3 where
 k:Int
 q:Int
 v:Int
def EvAt (w:World) (b off len:Nat) (h:Nat->E3):Prop:=∀ i,i<len->
 w.cell? ⟨b,off+i*3,none⟩=some (.int .i64 (h i).k)/\w.cell? ⟨b,off+i*3+1,none⟩=some (.int .i64 (h i).q)/\w.cell? ⟨b,off+i*3+2,none⟩=some (.int .i64 (h i).v)
theorem EvAt.below {w w':World} {B b off len:Nat} {h:Nat->E3} (hh:EvAt w b off len h) (hb:Below B w w') (hB:b<B):EvAt w' b off len h:=by
 intro i hi
 obtain ⟨h0,h1,h2⟩:=hh i hi
 exact ⟨(hb.cell hB).trans h0,(hb.cell hB).trans h1,(hb.cell hB).trans h2⟩
theorem qy3:(Tryz.prog.info? 74).map (fun i=>(i.zero,i.size,i.bytes))=some (some (evV 0 0 0),3,24):=by kernel_rfl
theorem qi7 (n:Nat) (hn:n<=1048576) (w:World):
  (Instr.makeSlice 75 (.int .i64 (n:Int)) (.int .i64 (n:Int))).run Tryz.prog w=.ok (.slice (some ⟨w.heap.size,0,none⟩) n n) (w.alloc (.cells (madeCells (evV 0 0 0).cells (n*3)) 74)):=by
 have hinfo:=qy3
 cases hi:Tryz.prog.info? 74 with
 | none=>rw [hi] at hinfo;cases hinfo
 | some i=>
  rw [hi] at hinfo
  simp only [Option.map_some,Option.some.injEq,Prod.mk.injEq] at hinfo
  obtain ⟨hz,hs,hb⟩:=hinfo
  have h:=run_make (P:=Tryz.prog) w 75 74 i _ Tryz.underlying75 hi hz .i64 .i64 (n:Int) (n:Int) (by omega) (Int.le_refl _) (by rw [hb];omega) (by omega)
  rw [hs] at h
  simpa using h
theorem qsn (w:World) (n:Nat):(w.alloc (.cells (madeCells (evV 0 0 0).cells (n*3)) 74)).rowIs w.heap.size 74 (n*3) (fun _=>.int .i64 0):=by
 refine ⟨_,blk_alloc_new _ _,size_madeCells _ _,fun i hi=>?_⟩
 have h3:i % 3<3:=Nat.mod_lt _ (by omega)
 have:∀ j,j<3->(#[Value.int .i64 0,.int .i64 0,.int .i64 0]:Array Value)[j]! = .int .i64 0:=by
  intro j hj
  match j,hj with
  | 0,_=>rfl
  | 1,_=>rfl
  | 2,_=>rfl
 simp only [madeCells,Value.cells]
 rw [Array.getElem?_map,Array.getElem?_range,if_pos hi]
 exact congrArg some (this (i % 3) h3)
def qff (f:Nat->Value) (h:Nat->E3) (k:Nat):Prop:=∀ i,i<k->
 f (i*3)=.int .i64 (h i).k/\f (i*3+1)=.int .i64 (h i).q/\f (i*3+2)=.int .i64 (h i).v
theorem qff.at {w:World} {b:Nat} {t:TypeId} {len k:Nat} {f:Nat->Value} {h:Nat->E3} (hh:qff f h k) (hr:w.rowIs b t (len*3) f) (hk:k<=len):EvAt w b 0 k h:=by
 intro i hi
 obtain ⟨h0,h1,h2⟩:=hh i hi
 refine ⟨?_,?_,?_⟩
 ·rw [hr.cell (by omega),Nat.zero_add,h0]
 ·rw [hr.cell (by omega),Nat.zero_add,h1]
 ·rw [hr.cell (by omega),Nat.zero_add,h2]
theorem qff.step {w:World} {b:Nat} {t:TypeId} {len k:Nat} {f:Nat->Value} {h:Nat->E3} (hr:w.rowIs b t (len*3) f) (hh:qff f h k):
  ∃ f',(((w.setCell ⟨b,k*3,none⟩ (.int .i64 (h k).k)).setCell ⟨b,k*3+1,none⟩ (.int .i64 (h k).q)).setCell ⟨b,k*3+2,none⟩ (.int .i64 (h k).v)).rowIs b t (len*3) f'/\qff f' h (k+1):=by
 refine ⟨_,((hr.set _ _).set _ _).set _ _,fun i hi=>?_⟩
 by_cases hik:i=k
 ·subst hik
  simp
 ·have hlt:i<k:=by omega
  obtain ⟨h0,h1,h2⟩:=hh i hlt
  refine ⟨?_,?_,?_⟩
  ·rw [if_neg (by omega),if_neg (by omega),if_neg (by omega)];exact h0
  ·rw [if_neg (by omega),if_neg (by omega),if_neg (by omega)];exact h1
  ·rw [if_neg (by omega),if_neg (by omega),if_neg (by omega)];exact h2
theorem qfc (a0:Option Addr) (len cap:Nat) (L:Int) (w:World) (h:(len:Int)<=L) (hL:L<=1048576):
  Calls Tryz.prog 87 #[.slice a0 len cap,.int .i64 L] w fun e w'=>e=.returned (.int .i64 (L - (len:Int)))/\w'=w:=by
 have h1:(len:Int)<=1048576:=by omega
 have h2:0<=L:=by omega
 have h3:¬ (L - (len:Int)<0):=by omega
 go_enter Tryz.func87,Tryz.ntmps87
 go_wp2
 go_ret
 exact ⟨rfl,rfl⟩
theorem qj1 (a0:Option Addr) (len cap:Nat) (L:Int) (w:World) (h:L<(len:Int)) (h0:0<=L) (hL:L<=1048576) (hm:len<=maxLen):
  Calls Tryz.prog 87 #[.slice a0 len cap,.int .i64 L] w fun e w'=>e=.returned (.int .i64 (-1))/\w'=w:=by
 unfold maxLen at hm
 have h2:(len:Int)<=9223372036854775807:=by omega
 have h3:L - (len:Int)<0:=by omega
 go_enter Tryz.func87,Tryz.ntmps87
 go_wp2
 go_ret
 exact ⟨rfl,rfl⟩
theorem ql6 (b off len cap:Nat) (h:Nat->E3) (w:World) (hlen:len<=1048576) (hb:b<w.heap.size) (hc:EvAt w b off len h):
  Calls Tryz.prog 96 #[.slice (some ⟨b,off,none⟩) len cap] w fun e w'=>e=.returned (.slice (some ⟨w.heap.size,0,none⟩) len len)/\EvAt w' w.heap.size 0 len h/\w.heap.size<w'.heap.size/\Below w.heap.size w w'/\∀ j,w'.frozen? ⟨w.heap.size,j,none⟩=false:=by
 have hl':(len:Int)<=1048576:=by omega
 have hmk:=qi7 len hlen
 have HC:Hid (EvAt w b off len h):=hc
 clear hc
 go_enter Tryz.func96,Tryz.ntmps96
 go_wp2_with fail
 clear hmk
 go_loopw [4] (fun i wr=>∃ k:Nat,k<=len/\i=.int .i64 k/\(∃ f,wr.rowIs w.heap.size 74 (len*3) f/\Hid (qff f h k))/\Below w.heap.size w wr) (fun i _=>len - (intOf i).toNat)
 case atStart=>exact ⟨0,Nat.zero_le _,rfl,⟨_,qsn w len,fun i hi=>by omega⟩,(Below.refl _ _).alloc (Nat.le_refl _) _⟩
 case round=>
  obtain ⟨k,hk,rfl,⟨f,hrow,HF⟩,hbw⟩:=hrel
  have hs:=hrow.lt
  by_cases hlt:k<len
  ·obtain ⟨c0,c1,c2⟩:=HC.out.below hbw hb k hlt
   have HR:Hid (wr.rowIs w.heap.size 74 (len*3) f):=hrow
   clear hrow
   go_wp2_with fail
   refine (qqf _ _ _ _).mono ?_
   rintro e w1 ⟨rfl,hb1⟩
   have hr1:w1.rowIs w.heap.size 74 (len*3) f:=HR.out.of_block (hb1.block _ hs)
   have f0:=hr1.frozen (k*3)
   have f1:=hr1.frozen (k*3+1)
   have f2:=hr1.frozen (k*3+2)
   have g0:=hr1.cell (i:=k*3) (by omega)
   have g1:=hr1.cell (i:=k*3+1) (by omega)
   have g2:=hr1.cell (i:=k*3+2) (by omega)
   have HR1:Hid (w1.rowIs w.heap.size 74 (len*3) f):=hr1
   clear hr1
   go_wp2_with fail
   exact ⟨⟨k+1,by omega,by go_num,qff.step HR1.out HF.out,(((hbw.trans (hb1.mono (Nat.le_of_lt hs))).setCell (Nat.le_refl _) _).setCell (Nat.le_refl _) _).setCell (Nat.le_refl _) _⟩,by simp [intOf];omega⟩
  ·have hkl:k=len:=by omega
   have HI:Hid (EvAt wr w.heap.size 0 len h):=by
    have:=HF.out.at hrow hk
    rw [hkl] at this
    exact this
   have HZ:Hid (∀ j,wr.frozen? ⟨w.heap.size,j,none⟩=false):=fun j=>hrow.frozen j
   clear hkl HF hrow
   go_wp2
   go_ret
   exact ⟨rfl,HI.out,hs,hbw,HZ.out⟩
theorem qgn (a0:Option Addr) (cap:Nat) (h:Nat->E3) (w:World):
  Calls Tryz.prog 96 #[.slice a0 0 cap] w fun e w'=>e=.returned (.slice (some ⟨w.heap.size,0,none⟩) 0 0)/\EvAt w' w.heap.size 0 0 h/\w.heap.size<w'.heap.size/\Below w.heap.size w w'/\∀ j,w'.frozen? ⟨w.heap.size,j,none⟩=false:=by
 have hmk:∀ w:World,(Instr.makeSlice 75 (.int .i64 0) (.int .i64 0)).run Tryz.prog w=.ok (.slice (some ⟨w.heap.size,0,none⟩) 0 0) (w.alloc (.cells (madeCells (evV 0 0 0).cells (0*3)) 74)):=fun w=>qi7 0 (by omega) w
 go_enter Tryz.func96,Tryz.ntmps96
 go_wp2_with fail
 clear hmk
 go_rounds 1
 go_ret
 exact ⟨rfl,fun i hi=>by omega,by simp,(Below.refl _ _).alloc (Nat.le_refl _) _,fun j=>yD _ _ _ j rfl⟩
def qkb (w:World) (a0:Option Addr) (len cap:Nat) (h:Nat->E3):Prop:=∀ wx,Below w.heap.size w wx->
 Calls Tryz.prog 96 #[.slice a0 len cap] wx fun e w'=>e=.returned (.slice (some ⟨wx.heap.size,0,none⟩) len len)/\EvAt w' wx.heap.size 0 len h/\wx.heap.size<w'.heap.size/\Below wx.heap.size wx w'/\∀ j,w'.frozen? ⟨wx.heap.size,j,none⟩=false
theorem qr1 {W:World} {a0:Option Addr} {len cap:Nat} (hl:len<=1048576) (hr:len=0\/∃ b off h,a0=some ⟨b,off,none⟩/\b<W.heap.size/\EvAt W b off len h):∃ h,qkb W a0 len cap h:=by
 rcases hr with rfl | ⟨b,off,h,rfl,hb,hI⟩
 ·exact ⟨fun _=>⟨0,0,0⟩,fun wx _=>qgn a0 cap _ wx⟩
 ·exact ⟨h,fun wx hB=>ql6 b off len cap h wx hl (zL hb hB.size) (hI.below hB hb)⟩
theorem qf0 (b1 b2 len c1 c2:Nat) (h:Nat->E3) (w:World) (hlen:len<=1048576) (hb1:b1<w.heap.size) (hb2:b2<w.heap.size) (hc1:EvAt w b1 0 len h) (hc2:EvAt w b2 0 len h):
  Calls Tryz.prog 105 #[.slice (some ⟨b1,0,none⟩) len c1,.slice (some ⟨b2,0,none⟩) len c2] w fun e w'=>e=.returned (.bool true)/\Below w.heap.size w w':=by
 have hl':(len:Int)<=1048576:=by omega
 have HC1:Hid (EvAt w b1 0 len h):=hc1
 have HC2:Hid (EvAt w b2 0 len h):=hc2
 clear hc1 hc2
 go_enter Tryz.func105,Tryz.ntmps105
 go_wp2_with fail
 go_loopw [5] (fun i wr=>∃ k:Nat,k<=len/\i=.int .i64 k/\Below w.heap.size w wr) (fun i _=>len - (intOf i).toNat)
 case atStart=>exact ⟨0,Nat.zero_le _,rfl,Below.refl _ _⟩
 case round=>
  obtain ⟨k,hk,rfl,hbw⟩:=hrel
  have hs:=hbw.size
  by_cases hlt:k<len
  ·obtain ⟨c0,c1,c2⟩:=HC1.out.below hbw hb1 k hlt
   obtain ⟨d0,d1,d2⟩:=HC2.out.below hbw hb2 k hlt
   have hlt':(k:Int)<(len:Int):=by omega
   rw [Nat.zero_add] at c0 c1 c2 d0 d1 d2
   go_wp2_with fail
   first|(go_region_with (go_at_call 175;refine (qmy _ _ _ _).mono ?_;rintro e w1 ⟨rfl,hq1⟩)) | fail
   all_goals
    go_wp2
    go_roundw
    case rel=>exact ⟨k+1,by omega,by go_num,hbw.drew.trans (hq1.mono hs)⟩
    case measure=>simp [intOf];omega
  ·go_wp2
   go_ret
   exact ⟨rfl,hbw⟩
def qhr (w:World) (b len:Nat):Prop:=(∀ i,i<len*3->∃ u,w.cell? ⟨b,i,none⟩=some u)/\∀ j,w.frozen? ⟨b,j,none⟩=false
theorem qhr.set {w:World} {b len:Nat} (h:qhr w b len) (p:Addr) (v:Value):qhr (w.setCell p v) b len:=
 ⟨fun i hi=>(h.1 i hi).elim fun _ e=>cell?_setCell_some e,fun j=>by rw [World.frozen?_setCell];exact h.2 j⟩
theorem qhr.of_ev {w:World} {b len:Nat} {h:Nat->E3} (hh:EvAt w b 0 len h) (hf:∀ j,w.frozen? ⟨b,j,none⟩=false):qhr w b len:=by
 refine ⟨fun i hi=>?_,hf⟩
 obtain ⟨c0,c1,c2⟩:=hh (i / 3) (by omega)
 simp only [Nat.zero_add] at c0 c1 c2
 have he:i=i / 3*3\/i=i / 3*3+1\/i=i / 3*3+2:=by omega
 rcases he with e | e | e
 ·rw [e];exact ⟨_,c0⟩
 ·rw [e];exact ⟨_,c1⟩
 ·rw [e];exact ⟨_,c2⟩
theorem qju (b len cap:Nat) (k:Int) (w:World) (hlen:len<=1048576) (k0:0<=k) (k1:k<=100000000) (h:qhr w b len):
  Calls Tryz.prog 108 #[.slice (some ⟨b,0,none⟩) len cap,.int .i64 k] w fun e w'=>e=.returned (.int .i64 (k+3*len))/\w.grownBy w' (some b):=by
 have hl':(len:Int)<=1048576:=by omega
 have HO:Hid (qhr w b len):=h
 clear h
 go_enter Tryz.func108,Tryz.ntmps108
 go_wp2_with fail
 go_loopw [1,5] (fun q i wr=>∃ j:Nat,j<=len/\i=.int .i64 j/\q=.int .i64 (k+3*j)/\Hid (qhr wr b len/\w.grownBy wr (some b))) (fun _ i _=>len - (intOf i).toNat)
 case atStart=>exact ⟨0,Nat.zero_le _,rfl,by simp,HO.out,World.grownBy.refl _ _⟩
 case round=>
  clear HO
  obtain ⟨j,hj,rfl,rfl,HR⟩:=hrel
  by_cases hlt:j<len
  ·have hlt':(j:Int)<(len:Int):=by omega
   obtain ⟨u0,c0⟩:=HR.out.1.1 (j*3) (by omega)
   obtain ⟨u1,c1⟩:=HR.out.1.1 (j*3+1) (by omega)
   obtain ⟨u2,c2⟩:=HR.out.1.1 (j*3+2) (by omega)
   have fz:=HR.out.1.2
   go_wp2
   go_roundw
   case rel=>
    refine ⟨j+1,by omega,by go_num,by go_num,?_⟩
    refine ⟨?_,?_⟩
    ·repeat (refine qhr.set ?_ _ _)
     exact HR.out.1
    ·repeat (refine zV ?_ (.inl rfl) _)
     exact HR.out.2
   case measure=>simp [intOf];omega
  ·have hlt':¬ (j:Int)<(len:Int):=by omega
   have HF:Hid (w.grownBy wr (some b)):=HR.out.2
   have hjl:(j:Int)=len:=by omega
   have HJ:Hid ((j:Int)=len):=hjl
   clear HR hjl
   go_wp2
   go_ret
   exact ⟨qel (by rw [HJ.out]),HF.out⟩
theorem qrz:Tryz.prog.cellsOf 194=3:=by kernel_rfl
theorem qnn {H:Type} {enc:TypeId × Value->H} {w:World} {base fuel:Nat} {spare:Nat->Bool} {held:Bool} {c0 c1 c2:Value} {x:DataW H × List MemPlace}
  (hf:DataW.trod enc Tryz.prog w base spare held fuel 194 [c0,c1,c2]=some x):
  ∃ k q v:Int,c0=.int .i64 k/\c1=.int .i64 q/\c2=.int .i64 v:=by
 obtain ⟨xs,m,-,-,-,hl,hx⟩:=DataW.trod_struct Tryz.underlying194 hf
 have hl:xs.length=3:=hl
 have q0:DataW.trod enc Tryz.prog w base spare held m 3 [c0]=xs[0]?:=by simpa [qb7] using hx 0 _ rfl
 have q1:DataW.trod enc Tryz.prog w base spare held m 3 [c1]=xs[1]?:=by simpa [qb7] using hx 1 _ rfl
 have q2:DataW.trod enc Tryz.prog w base spare held m 3 [c2]=xs[2]?:=by simpa [qb7] using hx 2 _ rfl
 rw [List.getElem?_eq_getElem (by omega)] at q0 q1 q2
 obtain ⟨z0,e0,-,-⟩:=DataW.trod_int Tryz.underlying3 q0
 obtain ⟨z1,e1,-,-⟩:=DataW.trod_int Tryz.underlying3 q1
 obtain ⟨z2,e2,-,-⟩:=DataW.trod_int Tryz.underlying3 q2
 simp only [List.cons.injEq,and_true] at e0 e1 e2
 exact ⟨z0,z1,z2,e0,e1,e2⟩
theorem qsu {H:Type} {enc:TypeId × Value->H} {w:World} {spare:Nat->Bool} {held:Bool} {base:Nat} {a0:Option Addr} {len cap:Nat} {d:DataW H} {p:List MemPlace}
  (h:DataW.Trod enc Tryz.prog w base spare held 130 (.slice a0 len cap) d p):
  len<=maxLen/\(len=0\/∃ b off h,a0=some ⟨b,off,none⟩/\b<w.heap.size/\EvAt w b off len h):=by
 obtain ⟨fuel,hf⟩:=h
 rcases Go.Deep.open_slice Tryz.underlying130 hf with ⟨hcs,_⟩ | ⟨a,len',cap',m,n,D,Pl,hcs,_,hl,hm,hmm,_,hx⟩
 ·simp [Value.cells] at hcs
  obtain ⟨_,rfl,_⟩:=hcs
  exact ⟨Nat.zero_le _,.inl rfl⟩
 ·simp [Value.cells] at hcs
  obtain ⟨rfl,rfl,rfl⟩:=hcs
  refine ⟨zP hl hm,?_⟩
  by_cases h0:len=0
  ·exact .inl h0
  right
  have hle:len<=m:=by rw [hmm];split <;> omega
  rw [qrz] at hx
  obtain ⟨b,off,spot⟩:=a
  have hcell:∀ i,i<len->∃ x:E3,w.cell? (Addr.add (Addr.add ⟨b,off,spot⟩ (i*3)) 0)=some (.int .i64 x.k)/\w.cell? (Addr.add (Addr.add ⟨b,off,spot⟩ (i*3)) 1)=some (.int .i64 x.q)/\w.cell? (Addr.add (Addr.add ⟨b,off,spot⟩ (i*3)) 2)=some (.int .i64 x.v):=by
   intro i hi
   obtain ⟨cs',h1,h2⟩:=hx i (by omega)
   obtain ⟨_,hlen,hc⟩:=World.cells?_some h1
   match cs',hlen with
   | [c0,c1,c2],_=>
    obtain ⟨k,q,v,rfl,rfl,rfl⟩:=qnn h2
    exact ⟨⟨k,q,v⟩,hc 0 (by omega),hc 1 (by omega),hc 2 (by omega)⟩
  have hspot:spot=none:=by
   obtain ⟨x,hx0,_⟩:=hcell 0 (by omega)
   simpa [Addr.add] using World.cell?_spot hx0
  subst hspot
  have inh:Inhabited E3:=⟨⟨0,0,0⟩⟩
  obtain ⟨g,hg⟩:=Go.Deep.choose_lt (α:=E3) hcell
  have hI:EvAt w b off len g:=by
   intro i hi
   obtain ⟨q0,q1,q2⟩:=hg i hi
   rw [qb5,qb5] at q0 q1 q2
   exact ⟨q0,q1,q2⟩
  exact ⟨b,off,g,rfl,qgq (hI 0 (by omega)).1,hI⟩
theorem qdl {ops:Array Oper} {rest:List Oper} {op:Oper} {act:Act} {Q:Exit->Act->World->Prop} (w:World) (hgd:op.guard=none) (s x:Operand)
  (ho:op.op=.call { callee:=.builtin .append,args:=#[s,x],argTypes:=#[47,47] })
  (B:Nat) (v:Value) (xs:List Int) (hs:act.eval s=v) (hv:OwnI w B v xs) (y:Int) (hx:act.eval x=.slice (some ⟨w.heap.size,0,none⟩) 1 1) (hn:xs.length<=1048576) (hB:B<=w.heap.size)
  (h:∀ v' w',OwnI w' B v' (xs ++ [y])->Below B w w'->wpList Tryz.prog ops Q rest (act.put op.dst v') w'):
  wpList Tryz.prog ops Q (op :: rest) act (w.alloc (.cells #[.int .i64 y] 3)):=by
 have hb:Below w.heap.size w (w.alloc (.cells #[.int .i64 y] 3)):=(Below.refl _ _).alloc (Nat.le_refl _) _
 refine qba _ hgd s x ho B 1 v (some ⟨w.heap.size,0,none⟩) xs [y] hs hx (hv.below hb) (.inr ⟨w.heap.size,0,rfl,by simp,fun i hi=>?_⟩) (by simp;omega) (by simp;omega) ?_
 ·have:i=0:=by simp at hi;omega
  subst this
  exact zW _ _ _ 0 rfl
 ·intro v' w' o g _
  refine h v' w' o (Below.grown (hb.mono hB) g (by simp;omega) (fun k hk=>(hv.lt k hk).1))
theorem qif {ops:Array Oper} {rest:List Oper} {op:Oper} {act:Act} {Q:Exit->Act->World->Prop} (w:World) {N:Nat} (hN:N=w.heap.size) (hgd:op.guard=none) (s x:Operand)
  (ho:op.op=.call { callee:=.builtin .append,args:=#[s,x],argTypes:=#[47,47] })
  (B:Nat) (v:Value) (xs:List Int) (hs:act.eval s=v) (hv:OwnI w B v xs) (y:Int) (hx:act.eval x=.slice (some ⟨N,0,none⟩) 1 1) (hn:xs.length<=1048576) (hB:B<=w.heap.size)
  (h:∀ v' w',OwnI w' B v' (xs ++ [y])->Below B w w'->wpList Tryz.prog ops Q rest (act.put op.dst v') w'):
  wpList Tryz.prog ops Q (op :: rest) act (w.alloc (.cells #[.int .i64 y] 3)):=by
 subst hN
 exact qdl w hgd s x ho B v xs hs hv y hx hn hB h
theorem OwnI.to {w:World} {B:Nat} {v:Value} {xs ys:List Int} (h:OwnI w B v xs) (e:ys=xs):OwnI w B v ys:=e ▸ h
structure Tu (lo hi:Nat) (w w':World):Prop where
 os:w'.os=w.os
 tape:w'.tape=w.tape
 output:w'.output=w.output
 size:w.heap.size<=w'.heap.size
 block:∀ k,k<w.heap.size->(k<lo\/hi<=k)->w'.heap[k]? = w.heap[k]?
theorem Tu.of_below {w w':World} (h:Below w.heap.size w w'):Tu 0 0 w w':=⟨h.os,h.tape,h.output,h.size,fun k hk _=>h.block k hk⟩
theorem Tu.of_row {w w':World} {b:Nat} (h:w.grownBy w' (some b)):Tu b (b+1) w w':=⟨h.os,h.tape,h.output,h.size,fun k hk hn=>h.block k hk (by simp;omega)⟩
theorem Tu.below {lo hi B:Nat} {w w':World} (h:Tu lo hi w w') (hB:B<=w.heap.size) (hl:B<=lo):Below B w w':=⟨h.os,h.tape,h.output,h.size,fun k hk=>h.block k (by omega) (.inl (by omega))⟩
theorem OwnI.ofBlock {w w':World} {B:Nat} {u:Value} {xs:List Int} (hu:OwnI w B u xs) (ha:∀ k,u.ownBlock=some k->w'.heap[k]? = w.heap[k]?):OwnI w' B u xs:=by
 rcases hu.2 with ⟨rfl,h0⟩ | ⟨g,cap,cur,rfl,hb,hg,hr⟩
 ·exact ⟨hu.1,.inl ⟨rfl,h0⟩⟩
 ·refine ⟨hu.1,.inr ⟨g,cap,cur,rfl,hb,?_,hr⟩⟩
  rw [ha g rfl]
  exact hg
theorem OwnI.slOf {w:World} {B n cap:Nat} {a0:Option Addr} {xs:List Int} (h:OwnI w B (.slice a0 n cap) xs):Sl w a0 xs:=by
 obtain ⟨a1,c1,e,s⟩:=h.form
 simp only [Value.slice.injEq] at e
 obtain ⟨rfl,-,-⟩:=e
 exact s
structure Tl (w:World) (B C N:Nat) (p c:Int) (ra:Option Addr) (rn rc:Nat) (oa:Option Addr) (on oc:Nat) (rs os:List Int):Prop where
 lo:B<=N
 hi:N<C
 sz:C<=w.heap.size
 box:BoxC w N (.int .i64 p) (.slice ra rn rc) (.slice oa on oc) (.int .i64 c)
 own:qaf w B (stV p ra rn rc oa on oc c) p rs os c
 up:∀ k,qae (stV p ra rn rc oa on oc c) k->k<C
 ne:¬ qae (stV p ra rn rc oa on oc c) N
theorem Tl.tu {w w':World} {B C N:Nat} {p c:Int} {ra:Option Addr} {rn rc:Nat} {oa:Option Addr} {on oc:Nat} {rs os:List Int} {lo hi:Nat} (h:Tl w B C N p c ra rn rc oa on oc rs os) (t:Tu lo hi w w') (hd:C<=lo\/hi<=B):Tl w' B C N p c ra rn rc oa on oc rs os:=by
 obtain ⟨h1,h2,h3,⟨b0,b1,b2,b3⟩,h5,h6,h7⟩:=h
 have hb:∀ k,B<=k->k<C->w'.heap[k]? = w.heap[k]?:=fun k k1 k2=>t.block k (by omega) (by omega)
 have hN:=hb N h1 h2
 refine ⟨h1,h2,zP h3 t.size,⟨(zH hN).trans b0,(zH hN).trans b1,(zH hN).trans b2,(zH hN).trans b3⟩,?_,h6,h7⟩
 obtain ⟨o1,o2,ha⟩:=h5.parts
 refine ⟨_,_,rfl,o1.ofBlock fun k hk=>?_,o2.ofBlock fun k hk=>?_,ha⟩
 ·exact hb k (o1.lt k hk).1 (h6 k ((qak _ _ _ _ _).2 (.inl hk)))
 ·exact hb k (o2.lt k hk).1 (h6 k ((qak _ _ _ _ _).2 (.inr hk)))
theorem Tl.below {w w':World} {B C N:Nat} {p c:Int} {ra:Option Addr} {rn rc:Nat} {oa:Option Addr} {on oc:Nat} {rs os:List Int} (h:Tl w B C N p c ra rn rc oa on oc rs os) (hb:Below w.heap.size w w'):Tl w' B C N p c ra rn rc oa on oc rs os:=h.tu (Tu.of_below hb) (.inr (Nat.zero_le _))
theorem Tl.sl {w:World} {B C N:Nat} {p c:Int} {ra:Option Addr} {rn rc:Nat} {oa:Option Addr} {on oc:Nat} {rs os:List Int} (h:Tl w B C N p c ra rn rc oa on oc rs os):Sl w ra rs/\Sl w oa os:=⟨h.own.parts.1.slOf,h.own.parts.2.1.slOf⟩
theorem Tl.marked {w w':World} {B C N:Nat} {p c:Int} {ra:Option Addr} {rn rc:Nat} {oa:Option Addr} {on oc:Nat} {rs os rs' os':List Int} (h:Tl w B C N p c ra rn rc oa on oc rs os) (ho:qaf w' B (stV p ra rn rc oa on oc c) p rs' os' c) (hm:qbh (stV p ra rn rc oa on oc c) w w'):Tl w' B C N p c ra rn rc oa on oc rs' os':=
 ⟨h.lo,h.hi,zP h.sz hm.size,h.box.marked hm h.ne,ho,h.up,h.ne⟩
theorem Tl.of_alloc {w:World} {B:Nat} {p c:Int} {ra oa:Option Addr} {rn rc on oc:Nat} {rs os:List Int} (h:qaf w B (stV p ra rn rc oa on oc c) p rs os c) (hw:B<=w.heap.size) (t:TypeId):Tl (w.alloc (.cells #[.int .i64 p,.slice ra rn rc,.slice oa on oc,.int .i64 c] t)) B (w.heap.size+1) w.heap.size p c ra rn rc oa on oc rs os:=
 ⟨hw,Nat.lt_succ_self _,by simp,BoxC.new w _ _ _ _ _,h.below (zT _ _),fun k hk=>Nat.lt_succ_of_lt (h.lt hk).2,fun e=>Nat.lt_irrefl _ (h.lt e).2⟩
def Told (w:World) (B N:Nat) (S:S4):Prop:=∃ ra rc oa oc,BoxC w N (.int .i64 S.p) (.slice ra S.rs.length rc) (.slice oa S.os.length oc) (.int .i64 S.c)/\qaf w B (stV S.p ra S.rs.length rc oa S.os.length oc S.c) S.p S.rs S.os S.c/\B<=N/\¬ qae (stV S.p ra S.rs.length rc oa S.os.length oc S.c) N
theorem Told.tl {w:World} {B N:Nat} {S:S4} (h:Told w B N S):∃ ra rc oa oc,Tl w B w.heap.size N S.p S.c ra S.rs.length rc oa S.os.length oc S.rs S.os:=by
 obtain ⟨ra,rc,oa,oc,h1,h2,h3,h4⟩:=h
 exact ⟨ra,rc,oa,oc,h3,zJ w _ h1.1,Nat.le_refl _,h1,h2,fun k hk=>(h2.lt hk).2,h4⟩
theorem BoxC.set4 {w:World} {N:Nat} {z0 z1 z2 z3:Value} (h:BoxC w N z0 z1 z2 z3) (a b c d:Value):BoxC ((((w.setCell ⟨N,0,none⟩ a).setCell ⟨N,1,none⟩ b).setCell ⟨N,2,none⟩ c).setCell ⟨N,3,none⟩ d) N a b c d:=by
 obtain ⟨h0,h1,h2,h3⟩:=h
 exact ⟨by go_cell,by go_cell,by go_cell,by go_cell⟩
theorem qxf (w:World) (N:Nat) (a b c d:Value):w.grownBy ((((w.setCell ⟨N,0,none⟩ a).setCell ⟨N,1,none⟩ b).setCell ⟨N,2,none⟩ c).setCell ⟨N,3,none⟩ d) (some N):=by
 repeat (refine zV ?_ (.inl rfl) _)
 exact World.grownBy.refl _ _
theorem Told.of_alloc {w:World} {B B':Nat} {S:S4} {ra oa:Option Addr} {rc oc:Nat} (h:qaf w B' (stV S.p ra S.rs.length rc oa S.os.length oc S.c) S.p S.rs S.os S.c) (hB:B<=B') (hw:B<=w.heap.size) (t:TypeId):Told (w.alloc (.cells #[.int .i64 S.p,.slice ra S.rs.length rc,.slice oa S.os.length oc,.int .i64 S.c] t)) B w.heap.size S:=by
 refine ⟨ra,rc,oa,oc,BoxC.new w _ _ _ _ _,?_,hw,fun e=>Nat.lt_irrefl _ (h.lt e).2⟩
 obtain ⟨vr,vo,e,o1,o2,ha⟩:=h
 exact ⟨vr,vo,e,(o1.below (zT _ _)).mono hB,(o2.below (zT _ _)).mono hB,ha⟩
theorem Told.of_put {w:World} {B B' N:Nat} {S:S4} {ra oa:Option Addr} {rc oc:Nat} {z0 z1 z2 z3:Value} (h:qaf w B' (stV S.p ra S.rs.length rc oa S.os.length oc S.c) S.p S.rs S.os S.c) (hB:B<=B') (hN:N<B') (hw:B<=N) (hZ:BoxC w N z0 z1 z2 z3):Told ((((w.setCell ⟨N,0,none⟩ (.int .i64 S.p)).setCell ⟨N,1,none⟩ (.slice ra S.rs.length rc)).setCell ⟨N,2,none⟩ (.slice oa S.os.length oc)).setCell ⟨N,3,none⟩ (.int .i64 S.c)) B N S:=
 ⟨ra,rc,oa,oc,hZ.set4 _ _ _ _,h.put4 hN hB,hw,fun e=>Nat.not_le_of_lt hN (h.lt e).1⟩
