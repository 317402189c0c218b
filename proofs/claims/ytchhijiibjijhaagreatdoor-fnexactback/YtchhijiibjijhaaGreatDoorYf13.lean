import Derived.Test.YtchhijiibjijhaaGreatDoorYf12
namespace Go.Proofs.YtchhijiibjijhaaGreatDoor
set_option maxRecDepth 100000
set_option maxHeartbeats 2000000
open Go.ChangeShapes Go.WideShapes Go.ChangeAt Go.RowKit Go.Deep
structure I2 where
 m:Bool
 v:Int
abbrev itV (m:Bool) (v:Int):Value:=.agg #[.bool m,.int .i64 v]
def ItAt (w:World) (b off len:Nat) (h:Nat->I2):Prop:=∀ i,i<len->
 w.cell? ⟨b,off+i*2,none⟩=some (.bool (h i).m)/\w.cell? ⟨b,off+i*2+1,none⟩=some (.int .i64 (h i).v)
theorem ItAt.below {w w':World} {B b off len:Nat} {h:Nat->I2} (hh:ItAt w b off len h) (hb:Below B w w') (hB:b<B):ItAt w' b off len h:=by
 intro i hi
 obtain ⟨h0,h1⟩:=hh i hi
 exact ⟨(hb.cell hB).trans h0,(hb.cell hB).trans h1⟩
theorem qy4:(Tryz.prog.info? 138).map (fun i=>(i.zero,i.size,i.bytes))=some (some (itV false 0),2,16):=by kernel_rfl
theorem qi8 (n:Nat) (hn:n<=1048576) (w:World):
  (Instr.makeSlice 136 (.int .i64 (n:Int)) (.int .i64 (n:Int))).run Tryz.prog w=.ok (.slice (some ⟨w.heap.size,0,none⟩) n n) (w.alloc (.cells (madeCells (itV false 0).cells (n*2)) 138)):=by
 have hinfo:=qy4
 cases hi:Tryz.prog.info? 138 with
 | none=>rw [hi] at hinfo;cases hinfo
 | some i=>
  rw [hi] at hinfo
  simp only [Option.map_some,Option.some.injEq,Prod.mk.injEq] at hinfo
  obtain ⟨hz,hs,hb⟩:=hinfo
  have h:=run_make (P:=Tryz.prog) w 136 138 i _ Tryz.underlying136 hi hz .i64 .i64 (n:Int) (n:Int) (by omega) (Int.le_refl _) (by rw [hb];omega) (by omega)
  rw [hs] at h
  simpa using h
theorem qso (w:World) (n:Nat):(w.alloc (.cells (madeCells (itV false 0).cells (n*2)) 138)).rowIs w.heap.size 138 (n*2) (fun i=>if i % 2=0 then .bool false else .int .i64 0):=by
 refine ⟨_,blk_alloc_new _ _,size_madeCells _ _,fun i hi=>?_⟩
 have h3:i % 2<2:=Nat.mod_lt _ (by omega)
 have:∀ j,j<2->(#[Value.bool false,.int .i64 0]:Array Value)[j]! = if j=0 then .bool false else .int .i64 0:=by
  intro j hj
  match j,hj with
  | 0,_=>rfl
  | 1,_=>rfl
 simp only [madeCells,Value.cells]
 rw [Array.getElem?_map,Array.getElem?_range,if_pos hi]
 exact congrArg some (this (i % 2) h3)
def qfg (f:Nat->Value) (h:Nat->I2) (k:Nat):Prop:=∀ i,i<k->
 f (i*2)=.bool (h i).m/\f (i*2+1)=.int .i64 (h i).v
theorem qfg.at {w:World} {b:Nat} {t:TypeId} {len k:Nat} {f:Nat->Value} {h:Nat->I2} (hh:qfg f h k) (hr:w.rowIs b t (len*2) f) (hk:k<=len):ItAt w b 0 k h:=by
 intro i hi
 obtain ⟨h0,h1⟩:=hh i hi
 refine ⟨?_,?_⟩
 ·rw [hr.cell (by omega),Nat.zero_add,h0]
 ·rw [hr.cell (by omega),Nat.zero_add,h1]
theorem qfg.step {w:World} {b:Nat} {t:TypeId} {len k:Nat} {f:Nat->Value} {h:Nat->I2} (hr:w.rowIs b t (len*2) f) (hh:qfg f h k):
  ∃ f',((w.setCell ⟨b,k*2,none⟩ (.bool (h k).m)).setCell ⟨b,k*2+1,none⟩ (.int .i64 (h k).v)).rowIs b t (len*2) f'/\qfg f' h (k+1):=by
 refine ⟨_,(hr.set _ _).set _ _,fun i hi=>?_⟩
 by_cases hik:i=k
 ·subst hik
  simp
 ·have hlt:i<k:=by omega
  obtain ⟨h0,h1⟩:=hh i hlt
  refine ⟨?_,?_⟩
  ·rw [if_neg (by omega),if_neg (by omega)];exact h0
  ·rw [if_neg (by omega),if_neg (by omega)];exact h1
theorem qs8 (m:Bool) (v:Int) (w:World):
  Calls Tryz.prog 156 #[itV m v] w fun e w'=>e=.returned (itV m v)/\Below w.heap.size w w':=by
 go_enter Tryz.func156,Tryz.ntmps156
 go_wp2
 refine bodyPost_ret (v:=itV m v) (by simp [results,Tryz.results156,go_sem]) rfl ⟨rfl,?_⟩
 go_grown
theorem qpc (m:Bool) (v:Int) (w:World):
  Calls Tryz.prog 174 #[itV m v,itV m v] w fun e w'=>e=.returned (.bool true)/\Below w.heap.size w w':=by
 cases m
 all_goals
  go_enter Tryz.func174,Tryz.ntmps174
  go_wp2
  go_ret
  exact ⟨rfl,by go_grown⟩
theorem qgl (a0:Option Addr) (len cap:Nat) (L:Int) (w:World) (h:(len:Int)<=L) (hL:L<=1048576):
  Calls Tryz.prog 86 #[.slice a0 len cap,.int .i64 L] w fun e w'=>e=.returned (.int .i64 (L - (len:Int)))/\w'=w:=by
 have h1:(len:Int)<=1048576:=by omega
 have h2:0<=L:=by omega
 have h3:¬ (L - (len:Int)<0):=by omega
 go_enter Tryz.func86,Tryz.ntmps86
 go_wp2
 go_ret
 exact ⟨rfl,rfl⟩
theorem ql3 (a0:Option Addr) (len cap:Nat) (L:Int) (w:World) (h:L<(len:Int)) (h0:0<=L) (hL:L<=1048576) (hm:len<=maxLen):
  Calls Tryz.prog 86 #[.slice a0 len cap,.int .i64 L] w fun e w'=>e=.returned (.int .i64 (-1))/\w'=w:=by
 unfold maxLen at hm
 have h2:(len:Int)<=9223372036854775807:=by omega
 have h3:L - (len:Int)<0:=by omega
 go_enter Tryz.func86,Tryz.ntmps86
 go_wp2
 go_ret
 exact ⟨rfl,rfl⟩
theorem qn9 (b off len cap:Nat) (h:Nat->I2) (w:World) (hlen:len<=1048576) (hb:b<w.heap.size) (hc:ItAt w b off len h):
  Calls Tryz.prog 95 #[.slice (some ⟨b,off,none⟩) len cap] w fun e w'=>e=.returned (.slice (some ⟨w.heap.size,0,none⟩) len len)/\ItAt w' w.heap.size 0 len h/\w.heap.size<w'.heap.size/\Below w.heap.size w w'/\∀ j,w'.frozen? ⟨w.heap.size,j,none⟩=false:=by
 have hl':(len:Int)<=1048576:=by omega
 have hmk:=qi8 len hlen
 have HC:Hid (ItAt w b off len h):=hc
 clear hc
 go_enter Tryz.func95,Tryz.ntmps95
 go_wp2_with fail
 clear hmk
 go_loopw [4] (fun i wr=>∃ k:Nat,k<=len/\i=.int .i64 k/\(∃ f,wr.rowIs w.heap.size 138 (len*2) f/\Hid (qfg f h k))/\Below w.heap.size w wr) (fun i _=>len - (intOf i).toNat)
 case atStart=>exact ⟨0,Nat.zero_le _,rfl,⟨_,qso w len,fun i hi=>by omega⟩,(Below.refl _ _).alloc (Nat.le_refl _) _⟩
 case round=>
  obtain ⟨k,hk,rfl,⟨f,hrow,HF⟩,hbw⟩:=hrel
  have hs:=hrow.lt
  by_cases hlt:k<len
  ·obtain ⟨c0,c1⟩:=HC.out.below hbw hb k hlt
   have HR:Hid (wr.rowIs w.heap.size 138 (len*2) f):=hrow
   clear hrow
   go_wp2_with fail
   refine (qs8 _ _ _).mono ?_
   rintro e w1 ⟨rfl,hb1⟩
   have hr1:w1.rowIs w.heap.size 138 (len*2) f:=HR.out.of_block (hb1.block _ hs)
   have f0:=hr1.frozen (k*2)
   have f1:=hr1.frozen (k*2+1)
   have g0:=hr1.cell (i:=k*2) (by omega)
   have g1:=hr1.cell (i:=k*2+1) (by omega)
   have HR1:Hid (w1.rowIs w.heap.size 138 (len*2) f):=hr1
   clear hr1
   go_wp2_with fail
   exact ⟨⟨k+1,by omega,by go_num,qfg.step HR1.out HF.out,((hbw.trans (hb1.mono (Nat.le_of_lt hs))).setCell (Nat.le_refl _) _).setCell (Nat.le_refl _) _⟩,by simp [intOf];omega⟩
  ·have hkl:k=len:=by omega
   have HI:Hid (ItAt wr w.heap.size 0 len h):=by
    have:=HF.out.at hrow hk
    rw [hkl] at this
    exact this
   have HZ:Hid (∀ j,wr.frozen? ⟨w.heap.size,j,none⟩=false):=fun j=>hrow.frozen j
   clear hkl HF hrow
   go_wp2
   go_ret
   exact ⟨rfl,HI.out,hs,hbw,HZ.out⟩
theorem qg4 (a0:Option Addr) (cap:Nat) (h:Nat->I2) (w:World):
  Calls Tryz.prog 95 #[.slice a0 0 cap] w fun e w'=>e=.returned (.slice (some ⟨w.heap.size,0,none⟩) 0 0)/\ItAt w' w.heap.size 0 0 h/\w.heap.size<w'.heap.size/\Below w.heap.size w w'/\∀ j,w'.frozen? ⟨w.heap.size,j,none⟩=false:=by
 have hmk:∀ w:World,(Instr.makeSlice 136 (.int .i64 0) (.int .i64 0)).run Tryz.prog w=.ok (.slice (some ⟨w.heap.size,0,none⟩) 0 0) (w.alloc (.cells (madeCells (itV false 0).cells (0*2)) 138)):=fun w=>qi8 0 (by omega) w
 go_enter Tryz.func95,Tryz.ntmps95
 go_wp2_with fail
 clear hmk
 go_rounds 1
 go_ret
 exact ⟨rfl,fun i hi=>by omega,by simp,(Below.refl _ _).alloc (Nat.le_refl _) _,fun j=>yD _ _ _ j rfl⟩
def qkd (w:World) (a0:Option Addr) (len cap:Nat) (h:Nat->I2):Prop:=∀ wx,Below w.heap.size w wx->
 Calls Tryz.prog 95 #[.slice a0 len cap] wx fun e w'=>e=.returned (.slice (some ⟨wx.heap.size,0,none⟩) len len)/\ItAt w' wx.heap.size 0 len h/\wx.heap.size<w'.heap.size/\Below wx.heap.size wx w'/\∀ j,w'.frozen? ⟨wx.heap.size,j,none⟩=false
theorem qr3 {W:World} {a0:Option Addr} {len cap:Nat} (hl:len<=1048576) (hr:len=0\/∃ b off h,a0=some ⟨b,off,none⟩/\b<W.heap.size/\ItAt W b off len h):∃ h,qkd W a0 len cap h:=by
 rcases hr with rfl | ⟨b,off,h,rfl,hb,hI⟩
 ·exact ⟨fun _=>⟨false,0⟩,fun wx _=>qg4 a0 cap _ wx⟩
 ·exact ⟨h,fun wx hB=>qn9 b off len cap h wx hl (zL hb hB.size) (hI.below hB hb)⟩
theorem qhj (b1 b2 len c1 c2:Nat) (h:Nat->I2) (w:World) (hlen:len<=1048576) (hb1:b1<w.heap.size) (hb2:b2<w.heap.size) (hc1:ItAt w b1 0 len h) (hc2:ItAt w b2 0 len h):
  Calls Tryz.prog 104 #[.slice (some ⟨b1,0,none⟩) len c1,.slice (some ⟨b2,0,none⟩) len c2] w fun e w'=>e=.returned (.bool true)/\Below w.heap.size w w':=by
 have hl':(len:Int)<=1048576:=by omega
 have HC1:Hid (ItAt w b1 0 len h):=hc1
 have HC2:Hid (ItAt w b2 0 len h):=hc2
 clear hc1 hc2
 go_enter Tryz.func104,Tryz.ntmps104
 go_wp2_with fail
 go_loopw [5] (fun i wr=>∃ k:Nat,k<=len/\i=.int .i64 k/\Below w.heap.size w wr) (fun i _=>len - (intOf i).toNat)
 case atStart=>exact ⟨0,Nat.zero_le _,rfl,Below.refl _ _⟩
 case round=>
  obtain ⟨k,hk,rfl,hbw⟩:=hrel
  have hs:=hbw.size
  by_cases hlt:k<len
  ·obtain ⟨c0,c1⟩:=HC1.out.below hbw hb1 k hlt
   obtain ⟨d0,d1⟩:=HC2.out.below hbw hb2 k hlt
   have hlt':(k:Int)<(len:Int):=by omega
   rw [Nat.zero_add] at c0 c1 d0 d1
   go_wp2_with fail
   first|(go_region_with (go_at_call 174;refine (qpc _ _ _).mono ?_;rintro e w1 ⟨rfl,hq1⟩)) | fail
   all_goals
    go_wp2
    go_roundw
    case rel=>exact ⟨k+1,by omega,by go_num,hbw.drew.trans (hq1.mono hs)⟩
    case measure=>simp [intOf];omega
  ·go_wp2
   go_ret
   exact ⟨rfl,hbw⟩
def qhs (w:World) (b len:Nat):Prop:=(∀ i,i<len*2->∃ u,w.cell? ⟨b,i,none⟩=some u)/\∀ j,w.frozen? ⟨b,j,none⟩=false
theorem qhs.set {w:World} {b len:Nat} (h:qhs w b len) (p:Addr) (v:Value):qhs (w.setCell p v) b len:=
 ⟨fun i hi=>(h.1 i hi).elim fun _ e=>cell?_setCell_some e,fun j=>by rw [World.frozen?_setCell];exact h.2 j⟩
theorem qhs.of_it {w:World} {b len:Nat} {h:Nat->I2} (hh:ItAt w b 0 len h) (hf:∀ j,w.frozen? ⟨b,j,none⟩=false):qhs w b len:=by
 refine ⟨fun i hi=>?_,hf⟩
 obtain ⟨c0,c1⟩:=hh (i / 2) (by omega)
 simp only [Nat.zero_add] at c0 c1
 have he:i=i / 2*2\/i=i / 2*2+1:=by omega
 rcases he with e | e
 ·rw [e];exact ⟨_,c0⟩
 ·rw [e];exact ⟨_,c1⟩
theorem qld (b len cap:Nat) (k:Int) (w:World) (hlen:len<=1048576) (k0:0<=k) (k1:k<=100000000) (h:qhs w b len):
  Calls Tryz.prog 107 #[.slice (some ⟨b,0,none⟩) len cap,.int .i64 k] w fun e w'=>e=.returned (.int .i64 (k+2*len))/\w.grownBy w' (some b):=by
 have hl':(len:Int)<=1048576:=by omega
 have HO:Hid (qhs w b len):=h
 clear h
 go_enter Tryz.func107,Tryz.ntmps107
 go_wp2_with fail
 go_loopw [1,5] (fun q i wr=>∃ j:Nat,j<=len/\i=.int .i64 j/\q=.int .i64 (k+2*j)/\Hid (qhs wr b len/\w.grownBy wr (some b))) (fun _ i _=>len - (intOf i).toNat)
 case atStart=>exact ⟨0,Nat.zero_le _,rfl,by simp,HO.out,World.grownBy.refl _ _⟩
 case round=>
  clear HO
  obtain ⟨j,hj,rfl,rfl,HR⟩:=hrel
  by_cases hlt:j<len
  ·have hlt':(j:Int)<(len:Int):=by omega
   obtain ⟨u0,c0⟩:=HR.out.1.1 (j*2) (by omega)
   obtain ⟨u1,c1⟩:=HR.out.1.1 (j*2+1) (by omega)
   have fz:=HR.out.1.2
   go_wp2
   go_roundw
   case rel=>
    refine ⟨j+1,by omega,by go_num,by go_num,?_⟩
    refine ⟨?_,?_⟩
    ·repeat (refine qhs.set ?_ _ _)
     exact HR.out.1
    ·repeat (refine zV ?_ (.inl rfl) _)
     exact HR.out.2
   case measure=>simp [intOf];omega
  ·have hlt':¬ (j:Int)<(len:Int):=by omega
   have HF:Hid (w.grownBy wr (some b)):=HR.out.2
   have hjl:(j:Int)=len:=by omega
   have HJ:Hid ((j:Int)=len):=hjl
   clear HR hjl
   go_wp2
   go_ret
   exact ⟨qel (by rw [HJ.out]),HF.out⟩
theorem qr0:Tryz.prog.cellsOf 192=2:=by kernel_rfl
theorem qms:Tryz.prog.cellsOf 4=1:=by kernel_rfl
theorem qno {H:Type} {enc:TypeId × Value->H} {w:World} {base fuel:Nat} {spare:Nat->Bool} {held:Bool} {c0 c1:Value} {x:DataW H × List MemPlace}
  (hf:DataW.trod enc Tryz.prog w base spare held fuel 192 [c0,c1]=some x):
  ∃ (m:Bool) (v:Int),c0=.bool m/\c1=.int .i64 v:=by
 obtain ⟨xs,m,-,-,-,hl,hx⟩:=DataW.trod_struct Tryz.underlying192 hf
 have hl:xs.length=2:=hl
 have q0:DataW.trod enc Tryz.prog w base spare held m 4 [c0]=xs[0]?:=by simpa [qms] using hx 0 _ rfl
 have q1:DataW.trod enc Tryz.prog w base spare held m 3 [c1]=xs[1]?:=by simpa [qb7,qms] using hx 1 _ rfl
 rw [List.getElem?_eq_getElem (by omega)] at q0 q1
 obtain ⟨z0,e0,-⟩:=DataW.trod_bool Tryz.underlying4 q0
 obtain ⟨z1,e1,-,-⟩:=DataW.trod_int Tryz.underlying3 q1
 simp only [List.cons.injEq,and_true] at e0 e1
 exact ⟨z0,z1,e0,e1⟩
theorem qsv {H:Type} {enc:TypeId × Value->H} {w:World} {spare:Nat->Bool} {held:Bool} {base:Nat} {a0:Option Addr} {len cap:Nat} {d:DataW H} {p:List MemPlace}
  (h:DataW.Trod enc Tryz.prog w base spare held 128 (.slice a0 len cap) d p):
  len<=maxLen/\(len=0\/∃ b off h,a0=some ⟨b,off,none⟩/\b<w.heap.size/\ItAt w b off len h):=by
 obtain ⟨fuel,hf⟩:=h
 rcases Go.Deep.open_slice Tryz.underlying128 hf with ⟨hcs,_⟩ | ⟨a,len',cap',m,n,D,Pl,hcs,_,hl,hm,hmm,_,hx⟩
 ·simp [Value.cells] at hcs
  obtain ⟨_,rfl,_⟩:=hcs
  exact ⟨Nat.zero_le _,.inl rfl⟩
 ·simp [Value.cells] at hcs
  obtain ⟨rfl,rfl,rfl⟩:=hcs
  refine ⟨zP hl hm,?_⟩
  by_cases h0:len=0
  ·exact .inl h0
  right
  have hle:len<=m:=by rw [hmm];split <;> omega
  rw [qr0] at hx
  obtain ⟨b,off,spot⟩:=a
  have hcell:∀ i,i<len->∃ x:I2,w.cell? (Addr.add (Addr.add ⟨b,off,spot⟩ (i*2)) 0)=some (.bool x.m)/\w.cell? (Addr.add (Addr.add ⟨b,off,spot⟩ (i*2)) 1)=some (.int .i64 x.v):=by
   intro i hi
   obtain ⟨cs',h1,h2⟩:=hx i (by omega)
   obtain ⟨_,hlen,hc⟩:=World.cells?_some h1
   match cs',hlen with
   | [c0,c1],_=>
    obtain ⟨k,v,rfl,rfl⟩:=qno h2
    exact ⟨⟨k,v⟩,hc 0 (by omega),hc 1 (by omega)⟩
  have hspot:spot=none:=by
   obtain ⟨x,hx0,_⟩:=hcell 0 (by omega)
   simpa [Addr.add] using World.cell?_spot hx0
  subst hspot
  have inh:Inhabited I2:=⟨⟨false,0⟩⟩
  obtain ⟨g,hg⟩:=Go.Deep.choose_lt (α:=I2) hcell
  have hI:ItAt w b off len g:=by
   intro i hi
   obtain ⟨q0,q1⟩:=hg i hi
   rw [qb5,qb5] at q0 q1
   exact ⟨q0,q1⟩
  exact ⟨b,off,g,rfl,qgq (hI 0 (by omega)).1,hI⟩
def sumL (ls:Nat->Nat):Nat->Nat
 | 0=>0
 | n+1=>sumL ls n+ls n
theorem qu4 (ls:Nat->Nat) {k n:Nat} (h:k<=n):sumL ls k<=sumL ls n:=by
 induction n with
 | zero=>
  have:k=0:=by omega
  subst this
  exact Nat.le_refl _
 | succ n ih=>
  by_cases hk:k=n+1
  ·subst hk
   exact Nat.le_refl _
  ·have:=ih (by omega)
   show sumL ls k<=sumL ls n+ls n
   omega
theorem qby (ls:Nat->Nat) {k n:Nat} (h:k<n):sumL ls k+ls k<=sumL ls n:=qu4 ls (k:=k+1) h
def RowS (w:World) (a0:Option Addr) (n:Nat) (f:Nat->Value):Prop:=
 n=0\/∃ b off,a0=some ⟨b,off,none⟩/\b<w.heap.size/\∀ i,i<n->w.cell? ⟨b,off+i,none⟩=some (f i)
theorem RowS.below {w w':World} {a0:Option Addr} {n:Nat} {f:Nat->Value} (h:RowS w a0 n f) (hb:Below w.heap.size w w'):RowS w' a0 n f:=by
 rcases h with h | ⟨b,off,e,hlt,hc⟩
 ·exact .inl h
 ·exact .inr ⟨b,off,e,zL hlt hb.size,fun i hi=>(hb.cell (p:=⟨b,off+i,none⟩) hlt).trans (hc i hi)⟩
theorem RowS.at {w:World} {a0:Option Addr} {n:Nat} {f:Nat->Value} (h:RowS w a0 n f) {k:Nat} (hk:k<n):∃ b off,a0=some ⟨b,off,none⟩/\w.cell? ⟨b,off+k,none⟩=some (f k):=by
 rcases h with rfl | ⟨b,off,e,-,hc⟩
 ·omega
 ·exact ⟨b,off,e,hc k hk⟩
structure qaa (P:Nat->Prop) (w w':World):Prop where
 os:w'.os=w.os
 tape:w'.tape=w.tape
 output:w'.output=w.output
 size:w.heap.size<=w'.heap.size
 block:∀ k,k<w.heap.size->¬ P k->w'.heap[k]? = w.heap[k]?
theorem qaa.refl (P:Nat->Prop) (w:World):qaa P w w:=⟨rfl,rfl,rfl,Nat.le_refl _,fun _ _ _=>rfl⟩
theorem qaa.trans {P:Nat->Prop} {a b c:World} (h:qaa P a b) (k:qaa P b c):qaa P a c:=
 ⟨k.os.trans h.os,k.tape.trans h.tape,k.output.trans h.output,zP h.size k.size,fun i hi hn=>(k.block i (zL hi h.size) hn).trans (h.block i hi hn)⟩
theorem qaa.mono {P Q:Nat->Prop} {w w':World} (h:qaa P w w') (hq:∀ k,P k->Q k):qaa Q w w':=
 ⟨h.os,h.tape,h.output,h.size,fun k hk hn=>h.block k hk fun hp=>hn (hq k hp)⟩
theorem qaa.of_grown {P:Nat->Prop} {w w':World} {row:Option Nat} (h:w.grownBy w' row) (hp:∀ k,row=some k->P k):qaa P w w':=
 ⟨h.os,h.tape,h.output,h.size,fun k hk hn=>h.block k hk fun e=>hn (hp k e.symm)⟩
theorem qaa.of_below {P:Nat->Prop} {w w':World} (h:Below w.heap.size w w'):qaa P w w':=
 ⟨h.os,h.tape,h.output,h.size,fun k hk _=>h.block k hk⟩
theorem qaa.of_set {P:Nat->Prop} (w:World) {a:Addr} (ha:P a.block) (u:Value):qaa P w (w.setCell a u):=
 ⟨rfl,rfl,rfl,by simp [World.setCell],fun k _ hn=>zO _ _ _ _ fun e=>hn (e ▸ ha)⟩
theorem qaa.below {P:Nat->Prop} {w w':World} {B:Nat} (h:qaa P w w') (hB:B<=w.heap.size) (hp:∀ k,P k->B<=k):Below B w w':=
 ⟨h.os,h.tape,h.output,h.size,fun k hk=>h.block k (by omega) fun e=>by have:=hp k e;omega⟩
theorem qaa.cell {P:Nat->Prop} {w w':World} (h:qaa P w w') {b:Nat} (hb:b<w.heap.size) (hp:¬ P b) (j:Nat):w'.cell? ⟨b,j,none⟩=w.cell? ⟨b,j,none⟩:=zH (h.block b hb hp)
theorem qaa.frozen {P:Nat->Prop} {w w':World} (h:qaa P w w') {b:Nat} (hb:b<w.heap.size) (hp:¬ P b) (j:Nat):w'.frozen? ⟨b,j,none⟩=w.frozen? ⟨b,j,none⟩:=zI (h.block b hb hp)
theorem qi0 {H:Type} {enc:TypeId × Value->H} {w:World} {spare:Nat->Bool} {held:Bool} {base:Nat} {a0:Option Addr} {len cap:Nat} {d:DataW H} {p:List MemPlace} {t el:TypeId} (hu:Tryz.prog.underlying t=some (.slice el)) (h1:Tryz.prog.cellsOf el=1)
  (h:DataW.Trod enc Tryz.prog w base spare held t (.slice a0 len cap) d p):
  len<=maxLen/\∃ f:Nat->Value,RowS w a0 len f/\∀ i,i<len->∃ m x,DataW.trod enc Tryz.prog w base spare held m el [f i]=some x:=by
 obtain ⟨fuel,hf⟩:=h
 rcases Go.Deep.open_slice hu hf with ⟨hcs,_⟩ | ⟨a,len',cap',m,n,D,Pl,hcs,_,hl,hm,hmm,_,hx⟩
 ·simp [Value.cells] at hcs
  obtain ⟨_,rfl,_⟩:=hcs
  exact ⟨Nat.zero_le _,fun _=>.int .i64 0,.inl rfl,fun i hi=>by omega⟩
 ·simp [Value.cells] at hcs
  obtain ⟨rfl,rfl,rfl⟩:=hcs
  refine ⟨zP hl hm,?_⟩
  have hle:len<=m:=by rw [hmm];split <;> omega
  rw [h1] at hx
  obtain ⟨b,off,spot⟩:=a
  have hcell:∀ i,i<len->∃ c:Value,w.cell? (Addr.add (Addr.add ⟨b,off,spot⟩ (i*1)) 0)=some c/\∃ m x,DataW.trod enc Tryz.prog w base spare held m el [c]=some x:=by
   intro i hi
   obtain ⟨cs',h1,h2⟩:=hx i (by omega)
   obtain ⟨_,hlen,hc⟩:=World.cells?_some h1
   match cs',hlen with
   | [c0],_=>exact ⟨c0,hc 0 (by omega),_,_,h2⟩
  have inh:Inhabited Value:=⟨.int .i64 0⟩
  obtain ⟨g,hg⟩:=Go.Deep.choose_lt (α:=Value) hcell
  refine ⟨g,?_,fun i hi=>(hg i hi).2⟩
  by_cases h0:len=0
  ·exact .inl h0
  have hspot:spot=none:=by
   have hx0:=(hg 0 (by omega)).1
   simpa [Addr.add] using World.cell?_spot hx0
  subst hspot
  have hI:∀ i,i<len->w.cell? ⟨b,off+i,none⟩=some (g i):=by
   intro i hi
   have q0:=(hg i hi).1
   rw [qb5,qb5,Nat.mul_one] at q0
   exact q0
  exact .inr ⟨b,off,rfl,qgq (hI 0 (by omega)),hI⟩
theorem qgk (a0:Option Addr) (len cap:Nat) (L:Int) (w:World) (h:(len:Int)<=L) (hL:L<=1048576):
  Calls Tryz.prog 84 #[.slice a0 len cap,.int .i64 L] w fun e w'=>e=.returned (.int .i64 (L - (len:Int)))/\w'=w:=by
 have h1:(len:Int)<=1048576:=by omega
 have h2:0<=L:=by omega
 have h3:¬ (L - (len:Int)<0):=by omega
 go_enter Tryz.func84,Tryz.ntmps84
 go_wp2
 go_ret
 exact ⟨rfl,rfl⟩
theorem ql2 (a0:Option Addr) (len cap:Nat) (L:Int) (w:World) (h:L<(len:Int)) (h0:0<=L) (hL:L<=1048576) (hm:len<=maxLen):
  Calls Tryz.prog 84 #[.slice a0 len cap,.int .i64 L] w fun e w'=>e=.returned (.int .i64 (-1))/\w'=w:=by
 unfold maxLen at hm
 have h2:(len:Int)<=9223372036854775807:=by omega
 have h3:L - (len:Int)<0:=by omega
 go_enter Tryz.func84,Tryz.ntmps84
 go_wp2
 go_ret
 exact ⟨rfl,rfl⟩
structure qbm (w:World) (D hi n:Nat) (ls:Nat->Nat) (bs:Nat->Nat) (h:Nat->Nat->I5):Prop where
 cel:∀ i,i<n->w.cell? ⟨D,i,none⟩=some (.slice (some ⟨bs i,0,none⟩) (ls i) (ls i))
 bd:∀ i,i<n->D<bs i/\bs i<hi
 row:∀ i,i<n->qaj w (bs i) 0 (ls i) (h i)
 fr:∀ i,i<n->∀ j,w.frozen? ⟨bs i,j,none⟩=false
 up:∀ i j,i<j->j<n->bs i<bs j
 le:hi<=w.heap.size
 lt:D<hi
theorem qbm.below {w w':World} {D hi n B:Nat} {ls:Nat->Nat} {bs:Nat->Nat} {h:Nat->Nat->I5} (o:qbm w D hi n ls bs h) (hb:Below B w w') (hB:hi<=B):qbm w' D hi n ls bs h:=
 ⟨fun i hi'=>(hb.cell (p:=⟨D,i,none⟩) (zL o.lt hB)).trans (o.cel i hi'),o.bd,fun i hi'=>(o.row i hi').below hb (zL (o.bd i hi').2 hB),fun i hi' j=>(hb.frozen (p:=⟨bs i,j,none⟩) (zL (o.bd i hi').2 hB)).trans (o.fr i hi' j),o.up,zP o.le hb.size,o.lt⟩
theorem qbm.keep {w w':World} {D hi n:Nat} {ls:Nat->Nat} {bs:Nat->Nat} {h:Nat->Nat->I5} (o:qbm w D hi n ls bs h) (hs:w.heap.size<=w'.heap.size) (hb:∀ k,D<=k->k<hi->w'.heap[k]? = w.heap[k]?):qbm w' D hi n ls bs h:=by
 refine ⟨fun i hi'=>(zH (hb D (Nat.le_refl _) o.lt)).trans (o.cel i hi'),o.bd,fun i hi'=>?_,fun i hi' j=>(zI (hb _ (Nat.le_of_lt (o.bd i hi').1) (o.bd i hi').2)).trans (o.fr i hi' j),o.up,zP o.le hs,o.lt⟩
 have hc:∀ j,w'.cell? ⟨bs i,j,none⟩=w.cell? ⟨bs i,j,none⟩:=fun j=>zH (hb _ (Nat.le_of_lt (o.bd i hi').1) (o.bd i hi').2)
 intro t ht
 have:=o.row i hi' t ht
 simp only [hc]
 exact this
theorem qc4 (a0:Option Addr) (n cap:Nat) (aa:Nat->Option Addr) (ls cs:Nat->Nat) (L:Int) (w:World) (hr:RowS w a0 n fun i=>.slice (aa i) (ls i) (cs i)) (h:(n:Int)+(sumL ls n:Nat)<=L) (hL:L<=1048576):
  Calls Tryz.prog 37 #[.slice a0 n cap,.int .i64 L] w fun e w'=>e=.returned (.int .i64 (L - n - (sumL ls n:Nat)))/\w'=w:=by
 have hn:(n:Int)<=1048576:=by omega
 have h0:0<=L:=by omega
 have hn0:¬ (L - (n:Int)<0):=by omega
 have HR:Hid (RowS w a0 n fun i=>.slice (aa i) (ls i) (cs i)):=hr
 have HS:Hid ((n:Int)+(sumL ls n:Nat)<=L):=h
 clear hr h
 go_enter Tryz.func37,Tryz.ntmps37
 go_wp2_with fail
 go_loopw [1,5] (fun q i wr=>∃ k:Nat,k<=n/\i=.int .i64 k/\q=.int .i64 (L - n - (sumL ls k:Nat))/\wr=w) (fun _ i _=>n - (intOf i).toNat)
 case atStart=>exact ⟨0,Nat.zero_le _,rfl,by simp [sumL],rfl⟩
 case round=>
  obtain ⟨k,hk,rfl,rfl,rfl⟩:=hrel
  by_cases hlt:k<n
  ·have hlt':(k:Int)<(n:Int):=by omega
   obtain ⟨b,off,rfl,ck⟩:=HR.out.at hlt
   have hsl:=qby ls hlt
   have hS:=HS.out
   have e1:(L - n - (sumL ls k:Nat)) - (ls k:Int)=L - n - (sumL ls (k+1):Nat):=by simp only [sumL];omega
   have HE:Hid ((L - n - (sumL ls k:Nat)) - (ls k:Int)=L - n - (sumL ls (k+1):Nat)):=e1
   have e2:(ls k:Int)<=L - n - (sumL ls k:Nat):=by omega
   have e3:¬ (L - n - (sumL ls (k+1):Nat)<0):=by omega
   have e4:L - n - (sumL ls k:Nat)<=1048576:=by omega
   clear e1 hS hsl
   generalize hy:L - n - (sumL ls (k+1):Nat)=Y at *
   go_wp2_with fail
   refine (qgk _ _ _ _ _ e2 e4).mono ?_
   rintro e w1 ⟨rfl,rfl⟩
   rw [HE.out]
   clear e2 e4
   go_wp2
   go_roundw
   case rel=>exact ⟨k+1,by omega,by go_num,by rw [<- hy],by trivial⟩
   case measure=>simp [intOf];omega
  ·have hkl:k=n:=by omega
   subst hkl
   go_wp2
   go_ret
   exact ⟨rfl,rfl⟩
theorem ql1 (a0:Option Addr) (n cap:Nat) (aa:Nat->Option Addr) (ls cs:Nat->Nat) (L:Int) (w:World) (hr:RowS w a0 n fun i=>.slice (aa i) (ls i) (cs i)) (h:L<(n:Int)+(sumL ls n:Nat)) (h0:0<=L) (hL:L<=1048576) (hm:n<=maxLen) (hl:∀ i,i<n->ls i<=maxLen):
  Calls Tryz.prog 37 #[.slice a0 n cap,.int .i64 L] w fun e w'=>e=.returned (.int .i64 (-1))/\w'=w:=by
 have hm':(n:Int)<=9223372036854775807:=by unfold maxLen at hm;omega
 by_cases hn0:L - (n:Int)<0
 ·go_enter Tryz.func37,Tryz.ntmps37
  go_wp2
  go_ret
  exact ⟨rfl,rfl⟩
 have hn:(n:Int)<=1048576:=by omega
 have HR:Hid (RowS w a0 n fun i=>.slice (aa i) (ls i) (cs i)):=hr
 have HS:Hid (L<(n:Int)+(sumL ls n:Nat)):=h
 have HL:Hid (∀ i,i<n->ls i<=maxLen):=hl
 clear hr h hl hm
 go_enter Tryz.func37,Tryz.ntmps37
 go_wp2_with fail
 go_loopw [1,5] (fun q i wr=>∃ k:Nat,k<=n/\i=.int .i64 k/\q=.int .i64 (L - n - (sumL ls k:Nat))/\0<=L - n - (sumL ls k:Nat)/\wr=w) (fun _ i _=>n - (intOf i).toNat)
 case atStart=>exact ⟨0,Nat.zero_le _,rfl,by simp [sumL],by simp only [sumL];omega,rfl⟩
 case round=>
  obtain ⟨k,hk,rfl,rfl,hp,rfl⟩:=hrel
  by_cases hlt:k<n
  ·have hlt':(k:Int)<(n:Int):=by omega
   obtain ⟨b,off,rfl,ck⟩:=HR.out.at hlt
   have hml:=HL.out k hlt
   have e1:(L - n - (sumL ls k:Nat)) - (ls k:Int)=L - n - (sumL ls (k+1):Nat):=by simp only [sumL];omega
   have HE:Hid ((L - n - (sumL ls k:Nat)) - (ls k:Int)=L - n - (sumL ls (k+1):Nat)):=e1
   have e4:L - n - (sumL ls k:Nat)<=1048576:=by omega
   clear e1
   by_cases hb:(ls k:Int)<=L - n - (sumL ls k:Nat)
   ·have e3:0<=L - n - (sumL ls (k+1):Nat):=by have:=HE.out;omega
    have e3':¬ (L - n - (sumL ls (k+1):Nat)<0):=by omega
    generalize hy:L - n - (sumL ls (k+1):Nat)=Y at *
    go_wp2_with fail
    refine (qgk _ _ _ _ _ hb e4).mono ?_
    rintro e w1 ⟨rfl,rfl⟩
    rw [HE.out]
    clear hb e4 hml hp
    go_wp2
    go_roundw
    case rel=>exact ⟨k+1,by omega,by go_num,by rw [<- hy],by omega,by trivial⟩
    case measure=>simp [intOf];omega
   ·have hb':L - n - (sumL ls k:Nat)<(ls k:Int):=by omega
    go_wp2_with fail
    refine (ql2 _ _ _ _ _ hb' hp e4 hml).mono ?_
    rintro e w1 ⟨rfl,rfl⟩
    clear hb hb' e4 hml hp HE
    go_wp2
    go_ret
    exact ⟨rfl,rfl⟩
  ·have hkl:k=n:=by omega
   subst hkl
   have:=HS.out
   omega
theorem qv2:(Tryz.prog.info? 113).map (fun i=>(i.zero,i.size,i.bytes))=some (some (.slice none 0 0),1,24):=by kernel_rfl
theorem qln (n:Nat) (hn:n<=1048576) (w:World):
  (Instr.makeSlice 31 (.int .i64 (n:Int)) (.int .i64 (n:Int))).run Tryz.prog w=.ok (.slice (some ⟨w.heap.size,0,none⟩) n n) (w.alloc (.cells (madeCells #[.slice none 0 0] n) 113)):=by
 have hinfo:=qv2
 cases hi:Tryz.prog.info? 113 with
 | none=>rw [hi] at hinfo;cases hinfo
 | some i=>
  rw [hi] at hinfo
  simp only [Option.map_some,Option.some.injEq,Prod.mk.injEq] at hinfo
  obtain ⟨hz,hs,hb⟩:=hinfo
  have h:=run_make (P:=Tryz.prog) w 31 113 i _ Tryz.underlying31 hi hz .i64 .i64 (n:Int) (n:Int) (by omega) (Int.le_refl _) (by rw [hb];omega) (by omega)
  rw [hs] at h
  simpa [Value.cells] using h
theorem qne (w:World) (n:Nat):(w.alloc (.cells (madeCells #[.slice none 0 0] n) 113)).rowIs w.heap.size 113 n (fun _=>.slice none 0 0):=by
 refine ⟨_,blk_alloc_new _ _,size_madeCells _ _,fun i hi=>?_⟩
 simp only [madeCells]
 rw [Array.getElem?_map,Array.getElem?_range,if_pos hi]
 have:i % 1=0:=Nat.mod_one i
 exact congrArg some (by simp [this])
structure qic (w:World) (D k:Nat) (f:Nat->Value) (ls:Nat->Nat) (bs:Nat->Nat) (h:Nat->Nat->I5):Prop where
 cel:∀ i,i<k->f i=.slice (some ⟨bs i,0,none⟩) (ls i) (ls i)
 bd:∀ i,i<k->D<bs i/\bs i<w.heap.size
 row:∀ i,i<k->qaj w (bs i) 0 (ls i) (h i)
 fr:∀ i,i<k->∀ j,w.frozen? ⟨bs i,j,none⟩=false
 up:∀ i j,i<j->j<k->bs i<bs j
theorem qic.step {w w1:World} {D k:Nat} {f:Nat->Value} {ls:Nat->Nat} {bs:Nat->Nat} {h:Nat->Nat->I5} (o:qic w D k f ls bs h) (hb:Below w.heap.size w w1) (hD:D<w.heap.size) (hz:w.heap.size<w1.heap.size) (hr:qaj w1 w.heap.size 0 (ls k) (h k)) (hf:∀ j,w1.frozen? ⟨w.heap.size,j,none⟩=false) (u:Value):
  qic (w1.setCell ⟨D,k,none⟩ u) D (k+1) (fun i=>if i=k then .slice (some ⟨w.heap.size,0,none⟩) (ls k) (ls k) else f i) ls (fun i=>if i=k then w.heap.size else bs i) h:=by
 have hs:∀ b,b≠D->(w1.setCell ⟨D,k,none⟩ u).heap[b]? = w1.heap[b]?:=fun b hne=>zO _ _ _ _ hne
 have hat:∀ b n g,b≠D->qaj w1 b 0 n g->qaj (w1.setCell ⟨D,k,none⟩ u) b 0 n g:=fun b n g hne hg=>fun i hi=>by
  have hc:∀ j,(w1.setCell ⟨D,k,none⟩ u).cell? ⟨b,j,none⟩=w1.cell? ⟨b,j,none⟩:=fun j=>zH (hs b hne)
  have:=hg i hi
  simp only [hc]
  exact this
 refine ⟨fun i hi=>?_,fun i hi=>?_,fun i hi=>?_,fun i hi j=>?_,fun i j hij hj=>?_⟩
 ·by_cases e:i=k
  ·subst e;simp
  ·simp only [if_neg e];exact o.cel i (by omega)
 ·by_cases e:i=k
  ·subst e;simp;omega
  ·simp only [if_neg e,World.size_setCell];have:=o.bd i (by omega);omega
 ·by_cases e:i=k
  ·subst e;simp only [if_true];exact hat _ _ _ (by omega) hr
  ·simp only [if_neg e];have hbd:=o.bd i (by omega);exact hat _ _ _ (by omega) ((o.row i (by omega)).below hb hbd.2)
 ·by_cases e:i=k
  ·subst e;simp only [if_true];rw [World.frozen?_setCell];exact hf j
  ·simp only [if_neg e];rw [World.frozen?_setCell];have hbd:=o.bd i (by omega);exact (hb.frozen (p:=⟨bs i,j,none⟩) hbd.2).trans (o.fr i (by omega) j)
 ·by_cases e:j=k
  ·have hi:i≠k:=by omega
   simp only [if_neg hi,if_pos e]
   exact (o.bd i (by omega)).2
  ·have hi:i≠k:=by omega
   simp only [if_neg hi,if_neg e]
   exact o.up i j hij (by omega)
structure qql (W:World) (a0:Option Addr) (n:Nat) (aa:Nat->Option Addr) (ls cs:Nat->Nat) (h:Nat->Nat->I5):Prop where
 row:RowS W a0 n fun i=>.slice (aa i) (ls i) (cs i)
 cop:∀ i,i<n->qkc W (aa i) (ls i) (cs i) (h i)
theorem qqg (a0:Option Addr) (n cap:Nat) (aa:Nat->Option Addr) (ls cs:Nat->Nat) (h:Nat->Nat->I5) (W w:World) (hn:n<=1048576) (hA:qql W a0 n aa ls cs h) (hW:Below W.heap.size W w):
  Calls Tryz.prog 44 #[.slice a0 n cap] w fun e w'=>e=.returned (.slice (some ⟨w.heap.size,0,none⟩) n n)/\(∃ bs,qbm w' w.heap.size w'.heap.size n ls bs h)/\Below w.heap.size w w':=by
 have hl':(n:Int)<=1048576:=by omega
 have hmk:=qln n hn
 have HA:Hid (qql W a0 n aa ls cs h):=hA
 have HW:Hid (Below W.heap.size W w):=hW
 clear hA hW
 go_enter Tryz.func44,Tryz.ntmps44
 go_wp2_with fail
 clear hmk
 go_loopw [4] (fun i wr=>∃ k:Nat,k<=n/\i=.int .i64 k/\(∃ f,wr.rowIs w.heap.size 113 n f/\Hid (∃ bs,qic wr w.heap.size k f ls bs h))/\Below w.heap.size w wr) (fun i _=>n - (intOf i).toNat)
 case atStart=>exact ⟨0,Nat.zero_le _,rfl,⟨_,qne w n,fun _=>0,fun i hi=>by omega,fun i hi=>by omega,fun i hi=>by omega,fun i hi=>by omega,fun i j hij hj=>by omega⟩,(Below.refl _ _).alloc (Nat.le_refl _) _⟩
 case round=>
  obtain ⟨k,hk,rfl,⟨f,hrow,HF⟩,hbw⟩:=hrel
  have hs:=hrow.lt
  by_cases hlt:k<n
  ·have hlt':(k:Int)<(n:Int):=by omega
   have HB:Hid (Below W.heap.size W wr):=HW.out.trans (hbw.mono HW.out.size)
   obtain ⟨b,off,rfl,ck⟩:=(HA.out.row.below HB.out).at hlt
   have HR:Hid (wr.rowIs w.heap.size 113 n f):=hrow
   clear hrow
   go_wp2_with fail
   refine (HA.out.cop k hlt wr HB.out).mono ?_
   rintro e w1 ⟨rfl,hi1,hz1,hb1,hf1⟩
   have hr1:w1.rowIs w.heap.size 113 n f:=HR.out.of_block (hb1.block _ hs)
   have f0:=hr1.frozen k
   have g0:=hr1.cell (i:=k) hlt
   have HR1:Hid (w1.rowIs w.heap.size 113 n f):=hr1
   have HF1:Hid (∃ bs,qic (w1.setCell ⟨w.heap.size,k,none⟩ (.slice (some ⟨wr.heap.size,0,none⟩) (ls k) (ls k))) w.heap.size (k+1) (fun i=>if i=k then .slice (some ⟨wr.heap.size,0,none⟩) (ls k) (ls k) else f i) ls bs h):=by
    obtain ⟨bs,o⟩:=HF.out
    exact ⟨_,o.step hb1 hs hz1 hi1 hf1 _⟩
   clear hr1 hi1 HF HR hf1
   go_wp2_with fail
   exact ⟨⟨k+1,by omega,by go_num,⟨_,HR1.out.set _ _,HF1.out⟩,(hbw.trans (hb1.mono (Nat.le_of_lt hs))).setCell (Nat.le_refl _) _⟩,by simp [intOf];omega⟩
  ·have hkl:k=n:=by omega
   have HO:Hid (∃ bs,qbm wr w.heap.size wr.heap.size n ls bs h):=by
    obtain ⟨bs,o⟩:=HF.out
    rw [hkl] at o
    exact ⟨bs,fun i hi=>by rw [hrow.cell hi,o.cel i hi],o.bd,o.row,o.fr,o.up,Nat.le_refl _,hs⟩
   clear hkl HF hrow
   go_wp2
   go_ret
   exact ⟨rfl,HO.out,hbw⟩
theorem qmz (D1 h1 D2 h2 n c1 c2:Nat) (ls b1 b2:Nat->Nat) (h:Nat->Nat->I5) (w:World) (hn:n<=1048576) (hl:∀ i,i<n->ls i<=1048576) (o1:qbm w D1 h1 n ls b1 h) (o2:qbm w D2 h2 n ls b2 h):
  Calls Tryz.prog 52 #[.slice (some ⟨D1,0,none⟩) n c1,.slice (some ⟨D2,0,none⟩) n c2] w fun e w'=>e=.returned (.bool true)/\Below w.heap.size w w':=by
 have hl':(n:Int)<=1048576:=by omega
 have O1:Hid (qbm w D1 h1 n ls b1 h):=o1
 have O2:Hid (qbm w D2 h2 n ls b2 h):=o2
 have HL:Hid (∀ i,i<n->ls i<=1048576):=hl
 clear o1 o2 hl
 go_enter Tryz.func52,Tryz.ntmps52
 go_wp2_with fail
 go_loopw [5] (fun i wr=>∃ k:Nat,k<=n/\i=.int .i64 k/\Below w.heap.size w wr) (fun i _=>n - (intOf i).toNat)
 case atStart=>exact ⟨0,Nat.zero_le _,rfl,Below.refl _ _⟩
 case round=>
  obtain ⟨k,hk,rfl,hbw⟩:=hrel
  have hs:=hbw.size
  by_cases hlt:k<n
  ·have P1:Hid (qbm wr D1 h1 n ls b1 h):=O1.out.below hbw O1.out.le
   have P2:Hid (qbm wr D2 h2 n ls b2 h):=O2.out.below hbw O2.out.le
   have ck:=P1.out.cel k hlt
   have dk:=P2.out.cel k hlt
   have hlt':(k:Int)<(n:Int):=by omega
   go_wp2_with fail
   first|(go_region_with (go_at_call 102;refine (qir (b1 k) (b2 k) (ls k) (ls k) (ls k) (h k) wr.drew (HL.out k hlt) (zL (P1.out.bd k hlt).2 P1.out.le) (zL (P2.out.bd k hlt).2 P2.out.le) (P1.out.row k hlt) (P2.out.row k hlt)).mono ?_;rintro e w1 ⟨rfl,hq1⟩)) | fail
   all_goals
    go_wp2
    go_roundw
    case rel=>exact ⟨k+1,by omega,by go_num,hbw.drew.trans (hq1.mono hs)⟩
    case measure=>simp [intOf];omega
  ·go_wp2
   go_ret
   exact ⟨rfl,hbw⟩
theorem qf6 (D hi n cap:Nat) (ls bs:Nat->Nat) (h:Nat->Nat->I5) (k:Int) (w:World) (hn:n<=1048576) (hl:sumL ls n<=1048576) (k0:0<=k) (k1:k<=50000000) (o:qbm w D hi n ls bs h):
  Calls Tryz.prog 57 #[.slice (some ⟨D,0,none⟩) n cap,.int .i64 k] w fun e w'=>e=.returned (.int .i64 (k+5*(sumL ls n:Nat)))/\qaa (fun b=>D<b/\b<hi) w w':=by
 have hl':(n:Int)<=1048576:=by omega
 have O:Hid (qbm w D hi n ls bs h):=o
 have HL:Hid (sumL ls n<=1048576):=hl
 clear o hl
 go_enter Tryz.func57,Tryz.ntmps57
 go_wp2_with fail
 go_loopw [1,5] (fun q i wr=>∃ j:Nat,j<=n/\i=.int .i64 j/\q=.int .i64 (k+5*(sumL ls j:Nat))/\Hid (qaa (fun b=>∃ t,t<j/\b=bs t) w wr)) (fun _ i _=>n - (intOf i).toNat)
 case atStart=>exact ⟨0,Nat.zero_le _,rfl,by simp [sumL],qaa.refl _ _⟩
 case round=>
  obtain ⟨j,hj,rfl,rfl,HT⟩:=hrel
  by_cases hlt:j<n
  ·have hlt':(j:Int)<(n:Int):=by omega
   have dD:¬ ∃ t,t<j/\D=bs t:=by
    rintro ⟨t,ht,e⟩
    have:=(O.out.bd t (by omega)).1
    omega
   have dJ:¬ ∃ t,t<j/\bs j=bs t:=by
    rintro ⟨t,ht,e⟩
    have:=O.out.up t j ht hlt
    omega
   have bJ:=O.out.bd j hlt
   have le:=O.out.le
   have ck:wr.cell? ⟨D,j,none⟩=some (.slice (some ⟨bs j,0,none⟩) (ls j) (ls j)):=(HT.out.cell (zL O.out.lt le) dD j).trans (O.out.cel j hlt)
   have RM:Hid (Room wr (bs j) (ls j)):=by
    have hb:wr.heap[bs j]? = w.heap[bs j]?:=HT.out.block (bs j) (by omega) dJ
    have hrm:Room w (bs j) (ls j):=Room.of_ins (O.out.row j hlt) (O.out.fr j hlt)
    exact ⟨fun i hi=>(hrm.1 i hi).elim fun u e=>⟨u,(zH hb).trans e⟩,fun i=>(zI hb).trans (hrm.2 i)⟩
   have hsl:=qby ls hlt
   have hS:=HL.out
   have e1:k+5*(sumL ls j:Nat)+5*(ls j:Int)=k+5*(sumL ls (j+1):Nat):=by simp only [sumL];omega
   have HE:Hid (k+5*(sumL ls j:Nat)+5*(ls j:Int)=k+5*(sumL ls (j+1):Nat)):=e1
   have e2:0<=k+5*(sumL ls j:Nat):=by omega
   have e3:k+5*(sumL ls j:Nat)<=100000000:=by omega
   have e4:ls j<=1048576:=by omega
   clear dD bJ le e1 hS hsl
   go_wp2_with fail
   refine (qng (bs j) (ls j) (ls j) _ wr e4 e2 e3 RM.out).mono ?_
   rintro e w1 ⟨rfl,g1⟩
   rw [HE.out]
   have HT1:Hid (qaa (fun b=>∃ t,t<j+1/\b=bs t) w w1):=(HT.out.mono fun b ⟨t,ht,e⟩=>⟨t,by omega,e⟩).trans (qaa.of_grown g1 fun b e=>⟨j,by omega,by simpa using e.symm⟩)
   clear HT dJ RM e2 e3 e4 g1
   go_wp2
   go_roundw
   case rel=>exact ⟨j+1,by omega,by go_num,rfl,HT1.out⟩
   case measure=>simp [intOf];omega
  ·have hkl:j=n:=by omega
   subst hkl
   have HT1:Hid (qaa (fun b=>D<b/\b<hi) w wr):=HT.out.mono fun b ⟨t,ht,e⟩=>by
    subst e
    exact O.out.bd t ht
   clear HT
   go_wp2
   go_ret
   exact ⟨rfl,HT1.out⟩
theorem qst {H:Type} {enc:TypeId × Value->H} {w:World} {spare:Nat->Bool} {held:Bool} {base:Nat} {a0:Option Addr} {len cap:Nat} {d:DataW H} {p:List MemPlace}
  (h:DataW.Trod enc Tryz.prog w base spare held 22 (.slice a0 len cap) d p):
  len<=maxLen/\∃ aa ls cs,RowS w a0 len (fun i=>.slice (aa i) (ls i) (cs i))/\(∀ i,i<len->ls i<=maxLen)/\((∀ i,i<len->ls i<=1048576)->∃ hh,qql w a0 len aa ls cs hh):=by
 obtain ⟨hm,f,hrow,hf⟩:=qi0 Tryz.underlying22 (el:=123) (by kernel_rfl) h
 refine ⟨hm,?_⟩
 have hpart:∀ i,i<len->∃ x:Option Addr × Nat × Nat,f i=.slice x.1 x.2.1 x.2.2/\x.2.1<=maxLen/\(x.2.1<=1048576->∃ g,qkc w x.1 x.2.1 x.2.2 g):=by
  intro i hi
  obtain ⟨m,x,hx⟩:=hf i hi
  have hsl:∃ a l c,f i=.slice a l c:=by
   rcases Go.Deep.open_slice Tryz.underlying123 hx with ⟨hcs,_⟩ | ⟨a,len',cap',m,n,D,Pl,hcs,_⟩
   ·simp at hcs
    exact ⟨_,_,_,hcs⟩
   ·simp at hcs
    exact ⟨_,_,_,hcs⟩
  obtain ⟨a,l,c,e⟩:=hsl
  rw [e] at hx
  obtain ⟨h1,h2⟩:=qps (d:=x.1) (p:=x.2) (a0:=a) (len:=l) (cap:=c) ⟨m,by simpa [Value.cells] using hx⟩
  exact ⟨(a,l,c),e,h1,fun hs=>qr2 hs h2⟩
 obtain ⟨g,hg⟩:=Go.Deep.choose_lt (α:=Option Addr × Nat × Nat) hpart
 refine ⟨fun i=>(g i).1,fun i=>(g i).2.1,fun i=>(g i).2.2,?_,fun i hi=>(hg i hi).2.1,fun hs=>?_⟩
 ·rcases hrow with h0 | ⟨b,off,e,hlt,hc⟩
  ·exact .inl h0
  ·exact .inr ⟨b,off,e,hlt,fun i hi=>(hc i hi).trans (by rw [(hg i hi).1])⟩
 ·have hq:∀ i,i<len->∃ q:Nat->I5,qkc w (g i).1 (g i).2.1 (g i).2.2 q:=fun i hi=>(hg i hi).2.2 (hs i hi)
  have inh:Inhabited (Nat->I5):=⟨fun _=>⟨0,0,0,0,0⟩⟩
  obtain ⟨hh,hhh⟩:=Go.Deep.choose_lt (α:=Nat->I5) hq
  refine ⟨hh,?_,hhh⟩
  rcases hrow with h0 | ⟨b,off,e,hlt,hc⟩
  ·exact .inl h0
  ·exact .inr ⟨b,off,e,hlt,fun i hi=>(hc i hi).trans (by rw [(hg i hi).1])⟩
structure St8 where
 p:Int
 ra:Option Addr
 rc:Nat
 rs:List Int
 oa:Option Addr
 oc:Nat
 os:List Int
 c:Int
def St8.s (x:St8):S4:=⟨x.p,x.rs,x.os,x.c⟩
def lenS (S:Nat->S4) (i:Nat):Nat:=(S i).rs.length+(S i).os.length
structure qbk (W:World) (a0:Option Addr) (n:Nat) (q:Nat->St8):Prop where
 row:n=0\/∃ b off,a0=some ⟨b,off,none⟩/\b<W.heap.size/\∀ i,i<n->W.cell? ⟨b,off+i*4,none⟩=some (.int .i64 (q i).p)/\W.cell? ⟨b,off+i*4+1,none⟩=some (.slice (q i).ra (q i).rs.length (q i).rc)/\W.cell? ⟨b,off+i*4+2,none⟩=some (.slice (q i).oa (q i).os.length (q i).oc)/\W.cell? ⟨b,off+i*4+3,none⟩=some (.int .i64 (q i).c)
 lst:∀ i,i<n->Sl W (q i).ra (q i).rs/\Sl W (q i).oa (q i).os
theorem qbk.below {w w':World} {a0:Option Addr} {n:Nat} {q:Nat->St8} (h:qbk w a0 n q) (hb:Below w.heap.size w w'):qbk w' a0 n q:=by
 refine ⟨?_,fun i hi=>⟨(h.lst i hi).1.below hb,(h.lst i hi).2.below hb⟩⟩
 rcases h.row with h | ⟨b,off,e,hlt,hc⟩
 ·exact .inl h
 ·exact .inr ⟨b, off, e, Nat.lt_of_lt_of_le hlt hb.size, fun i hi => by
   obtain ⟨h0,h1,h2,h3⟩:=hc i hi
   exact ⟨(hb.cell hlt).trans h0,(hb.cell hlt).trans h1,(hb.cell hlt).trans h2,(hb.cell hlt).trans h3⟩⟩
theorem qbk.at {w:World} {a0:Option Addr} {n:Nat} {q:Nat->St8} (h:qbk w a0 n q) {k:Nat} (hk:k<n):∃ b off,a0=some ⟨b,off,none⟩/\w.cell? ⟨b,off+k*4,none⟩=some (.int .i64 (q k).p)/\w.cell? ⟨b,off+k*4+1,none⟩=some (.slice (q k).ra (q k).rs.length (q k).rc)/\w.cell? ⟨b,off+k*4+2,none⟩=some (.slice (q k).oa (q k).os.length (q k).oc)/\w.cell? ⟨b,off+k*4+3,none⟩=some (.int .i64 (q k).c):=by
 rcases h.row with rfl | ⟨b,off,e,-,hc⟩
 ·omega
 ·exact ⟨b,off,e,hc k hk⟩
theorem qdk (a0:Option Addr) (n cap:Nat) (q:Nat->St8) (L:Int) (w:World) (hr:qbk w a0 n q) (h:(n:Int)+(sumL (lenS fun i=>(q i).s) n:Nat)<=L) (hL:L<=1048576):
  Calls Tryz.prog 38 #[.slice a0 n cap,.int .i64 L] w fun e w'=>e=.returned (.int .i64 (L - n - (sumL (lenS fun i=>(q i).s) n:Nat)))/\Below w.heap.size w w':=by
 have hn:(n:Int)<=1048576:=by omega
 have h0:0<=L:=by omega
 have hn0:¬ (L - (n:Int)<0):=by omega
 have HR:Hid (qbk w a0 n q):=hr
 have HS:Hid ((n:Int)+(sumL (lenS fun i=>(q i).s) n:Nat)<=L):=h
 clear hr h
 generalize hls:(lenS fun i=>(q i).s)=ls at *
 have HLS:Hid ((lenS fun i=>(q i).s)=ls):=hls
 clear hls
 go_enter Tryz.func38,Tryz.ntmps38
 go_wp2_with fail
 go_loopw [1,5] (fun x i wr=>∃ k:Nat,k<=n/\i=.int .i64 k/\x=.int .i64 (L - n - (sumL ls k:Nat))/\Below w.heap.size w wr) (fun _ i _=>n - (intOf i).toNat)
 case atStart=>exact ⟨0,Nat.zero_le _,rfl,by simp [sumL],Below.refl _ _⟩
 case round=>
  obtain ⟨k,hk,rfl,rfl,hbw⟩:=hrel
  by_cases hlt:k<n
  ·have hlt':(k:Int)<(n:Int):=by omega
   obtain ⟨b,off,rfl,c0,c1,c2,c3⟩:=(HR.out.below hbw).at hlt
   have hsl:=qby ls hlt
   have hlk:ls k=(q k).rs.length+(q k).os.length:=by rw [<- HLS.out];rfl
   have hS:=HS.out
   have e1:(L - n - (sumL ls k:Nat)) - ((q k).rs.length:Int) - ((q k).os.length:Int)=L - n - (sumL ls (k+1):Nat):=by simp only [sumL];omega
   have HE:Hid ((L - n - (sumL ls k:Nat)) - ((q k).rs.length:Int) - ((q k).os.length:Int)=L - n - (sumL ls (k+1):Nat)):=e1
   have e2:((q k).rs.length:Int)+((q k).os.length:Int)<=L - n - (sumL ls k:Nat):=by omega
   have e3:¬ (L - n - (sumL ls (k+1):Nat)<0):=by omega
   have e4:L - n - (sumL ls k:Nat)<=1048576:=by omega
   clear e1 hS hsl hlk
   generalize hy:L - n - (sumL ls (k+1):Nat)=Y at *
   go_wp2_with fail
   refine (qgm _ _ _ _ _ _ _ _ _ _ e2 e4).mono ?_
   rintro e w1 ⟨rfl,b1⟩
   rw [HE.out]
   clear e2 e4 c0 c1 c2 c3
   go_wp2
   go_roundw
   case rel=>exact ⟨k+1,by omega,by go_num,by rw [<- hy],hbw.trans (b1.mono hbw.size)⟩
   case measure=>simp [intOf];omega
  ·have hkl:k=n:=by omega
   subst hkl
   go_wp2
   go_ret
   exact ⟨rfl,hbw⟩
theorem qj3 (a0:Option Addr) (n cap:Nat) (q:Nat->St8) (L:Int) (w:World) (hr:qbk w a0 n q) (h:L<(n:Int)+(sumL (lenS fun i=>(q i).s) n:Nat)) (h0:0<=L) (hL:L<=1048576) (hm:n<=maxLen) (hl:∀ i,i<n->(q i).rs.length<=maxLen/\(q i).os.length<=maxLen):
  Calls Tryz.prog 38 #[.slice a0 n cap,.int .i64 L] w fun e w'=>e=.returned (.int .i64 (-1))/\Below w.heap.size w w':=by
 have hm':(n:Int)<=9223372036854775807:=by unfold maxLen at hm;omega
 by_cases hn0:L - (n:Int)<0
 ·go_enter Tryz.func38,Tryz.ntmps38
  go_wp2
  go_ret
  exact ⟨rfl,Below.refl _ _⟩
 have hn:(n:Int)<=1048576:=by omega
 have HR:Hid (qbk w a0 n q):=hr
 have HS:Hid (L<(n:Int)+(sumL (lenS fun i=>(q i).s) n:Nat)):=h
 have HL:Hid (∀ i,i<n->(q i).rs.length<=maxLen/\(q i).os.length<=maxLen):=hl
 clear hr h hl hm
 generalize hls:(lenS fun i=>(q i).s)=ls at *
 have HLS:Hid ((lenS fun i=>(q i).s)=ls):=hls
 clear hls
 go_enter Tryz.func38,Tryz.ntmps38
 go_wp2_with fail
 go_loopw [1,5] (fun x i wr=>∃ k:Nat,k<=n/\i=.int .i64 k/\x=.int .i64 (L - n - (sumL ls k:Nat))/\0<=L - n - (sumL ls k:Nat)/\Below w.heap.size w wr) (fun _ i _=>n - (intOf i).toNat)
 case atStart=>exact ⟨0,Nat.zero_le _,rfl,by simp [sumL],by simp only [sumL];omega,Below.refl _ _⟩
 case round=>
  obtain ⟨k,hk,rfl,rfl,hp,hbw⟩:=hrel
  by_cases hlt:k<n
  ·have hlt':(k:Int)<(n:Int):=by omega
   obtain ⟨b,off,rfl,c0,c1,c2,c3⟩:=(HR.out.below hbw).at hlt
   obtain ⟨ml1,ml2⟩:=HL.out k hlt
   have hlk:ls k=(q k).rs.length+(q k).os.length:=by rw [<- HLS.out];rfl
   have e1:(L - n - (sumL ls k:Nat)) - ((q k).rs.length:Int) - ((q k).os.length:Int)=L - n - (sumL ls (k+1):Nat):=by simp only [sumL];omega
   have HE:Hid ((L - n - (sumL ls k:Nat)) - ((q k).rs.length:Int) - ((q k).os.length:Int)=L - n - (sumL ls (k+1):Nat)):=e1
   have e4:L - n - (sumL ls k:Nat)<=1048576:=by omega
   clear e1 hlk
   by_cases hb:((q k).rs.length:Int)+((q k).os.length:Int)<=L - n - (sumL ls k:Nat)
   ·have e3:0<=L - n - (sumL ls (k+1):Nat):=by have:=HE.out;omega
    have e3':¬ (L - n - (sumL ls (k+1):Nat)<0):=by omega
    generalize hy:L - n - (sumL ls (k+1):Nat)=Y at *
    go_wp2_with fail
    refine (qgm _ _ _ _ _ _ _ _ _ _ hb e4).mono ?_
    rintro e w1 ⟨rfl,b1⟩
    rw [HE.out]
    clear hb e4 hp c0 c1 c2 c3 ml1 ml2
    go_wp2
    go_roundw
    case rel=>exact ⟨k+1,by omega,by go_num,by rw [<- hy],by omega,hbw.trans (b1.mono hbw.size)⟩
    case measure=>simp [intOf];omega
   ·have hb':L - n - (sumL ls k:Nat)<((q k).rs.length:Int)+((q k).os.length:Int):=by omega
    go_wp2_with fail
    refine (ql4 _ _ _ _ _ _ _ _ _ _ hb' e4 hp ml1 ml2).mono ?_
    rintro e w1 ⟨rfl,b1⟩
    clear hb hb' e4 hp HE c0 c1 c2 c3 ml1 ml2
    go_wp2
    go_ret
    exact ⟨rfl,hbw.trans (b1.mono hbw.size)⟩
  ·have hkl:k=n:=by omega
   subst hkl
   have:=HS.out
   omega
theorem qpt {w w':World} {B size n:Nat} {e:TypeId} {v:Value} {xs:List Value} (h:w.ownsRow B e size v n xs) (hb:∀ k,v.ownBlock=some k->w'.heap[k]? = w.heap[k]?):w'.ownsRow B e size v n xs:=by
 obtain ⟨h0,h⟩:=h
 refine ⟨h0,?_⟩
 rcases h with h | ⟨g,cap,cur,rfl,h1,h2,h3⟩
 ·exact .inl h
 ·exact .inr ⟨g,cap,cur,rfl,h1,(hb g rfl).trans h2,h3⟩
theorem OwnI.blk {w w':World} {B:Nat} {v:Value} {xs:List Int} (h:OwnI w B v xs) (hb:∀ k,v.ownBlock=some k->w'.heap[k]? = w.heap[k]?):OwnI w' B v xs:=qpt h hb
theorem qaf.blk {w w':World} {B:Nat} {v:Value} {p code:Int} {rs os:List Int} (h:qaf w B v p rs os code) (hb:∀ k,qae v k->w'.heap[k]? = w.heap[k]?):qaf w' B v p rs os code:=by
 obtain ⟨vr,vo,rfl,h1,h2,h3⟩:=h
 exact ⟨vr,vo,rfl,h1.blk fun k hk=>hb k ((qak _ _ _ _ _).2 (.inl hk)),h2.blk fun k hk=>hb k ((qak _ _ _ _ _).2 (.inr hk)),h3⟩
def Cel4 (w:World) (D j:Nat) (S:S4) (v:Value):Prop:=∃ ra rc oa oc,v=stV S.p ra S.rs.length rc oa S.os.length oc S.c/\w.cell? ⟨D,j,none⟩=some (.int .i64 S.p)/\w.cell? ⟨D,j+1,none⟩=some (.slice ra S.rs.length rc)/\w.cell? ⟨D,j+2,none⟩=some (.slice oa S.os.length oc)/\w.cell? ⟨D,j+3,none⟩=some (.int .i64 S.c)
structure qaw (w:World) (D hi n:Nat) (S:Nat->S4) (vs:Nat->Value):Prop where
 cel:∀ i,i<n->Cel4 w D (i*4) (S i) (vs i)
 own:∀ i,i<n->qaf w (D+1) (vs i) (S i).p (S i).rs (S i).os (S i).c
 bd:∀ i,i<n->∀ k,qae (vs i) k->k<hi
 apart:∀ i j,i<j->j<n->∀ k,qae (vs i) k->¬ qae (vs j) k
 fr:∀ j,w.frozen? ⟨D,j,none⟩=false
 le:hi<=w.heap.size
 lt:D<hi
theorem Cel4.blk {w w':World} {D j:Nat} {S:S4} {v:Value} (h:Cel4 w D j S v) (hb:w'.heap[D]? = w.heap[D]?):Cel4 w' D j S v:=by
 obtain ⟨ra,rc,oa,oc,e,h0,h1,h2,h3⟩:=h
 exact ⟨ra,rc,oa,oc,e,(zH hb).trans h0,(zH hb).trans h1,(zH hb).trans h2,(zH hb).trans h3⟩
theorem qaw.below {w w':World} {D hi n B:Nat} {S:Nat->S4} {vs:Nat->Value} (o:qaw w D hi n S vs) (hb:Below B w w') (hB:hi<=B):qaw w' D hi n S vs:=
 have hD:w'.heap[D]? = w.heap[D]?:=hb.block D (zL o.lt hB)
 ⟨fun i hi'=>(o.cel i hi').blk hD,fun i hi'=>(o.own i hi').blk fun k hk=>hb.block k (zL (o.bd i hi' k hk) hB),o.bd,o.apart,fun j=>(zI hD).trans (o.fr j),zP o.le hb.size,o.lt⟩
theorem qaw.keep {w w':World} {D hi n:Nat} {S:Nat->S4} {vs:Nat->Value} (o:qaw w D hi n S vs) (hs:w.heap.size<=w'.heap.size) (hb:∀ k,D<=k->k<hi->w'.heap[k]? = w.heap[k]?):qaw w' D hi n S vs:=
 have hD:w'.heap[D]? = w.heap[D]?:=hb D (Nat.le_refl _) o.lt
 ⟨fun i hi'=>(o.cel i hi').blk hD,fun i hi'=>(o.own i hi').blk fun k hk=>hb k (by have:=((o.own i hi').lt hk).1;omega) (o.bd i hi' k hk),o.bd,o.apart,fun j=>(zI hD).trans (o.fr j),zP o.le hs,o.lt⟩
theorem qt0:(Tryz.prog.info? 133).map (fun i=>(i.zero,i.size,i.bytes))=some (some (stV 0 none 0 0 none 0 0 0),4,64):=by kernel_rfl
theorem qnv (n:Nat) (hn:n<=1048576) (w:World):
  (Instr.makeSlice 32 (.int .i64 (n:Int)) (.int .i64 (n:Int))).run Tryz.prog w=.ok (.slice (some ⟨w.heap.size,0,none⟩) n n) (w.alloc (.cells (madeCells (stV 0 none 0 0 none 0 0 0).cells (n*4)) 133)):=by
 have hinfo:=qt0
 cases hi:Tryz.prog.info? 133 with
 | none=>rw [hi] at hinfo;cases hinfo
 | some i=>
  rw [hi] at hinfo
  simp only [Option.map_some,Option.some.injEq,Prod.mk.injEq] at hinfo
  obtain ⟨hz,hs,hb⟩:=hinfo
  have h:=run_make (P:=Tryz.prog) w 32 133 i _ Tryz.underlying32 hi hz .i64 .i64 (n:Int) (n:Int) (by omega) (Int.le_refl _) (by rw [hb];omega) (by omega)
  rw [hs] at h
  simpa using h
theorem qpp (w:World) (n:Nat):∃ f,(w.alloc (.cells (madeCells (stV 0 none 0 0 none 0 0 0).cells (n*4)) 133)).rowIs w.heap.size 133 (n*4) f:=by
 refine ⟨fun i=>(stV 0 none 0 0 none 0 0 0).cells[i % 4]!,_,blk_alloc_new _ _,size_madeCells _ _,fun i hi=>?_⟩
 simp only [madeCells]
 rw [Array.getElem?_map,Array.getElem?_range,if_pos hi]
 rfl
structure qtg (w:World) (D k:Nat) (f:Nat->Value) (S:Nat->S4) (vs:Nat->Value):Prop where
 cel:∀ i,i<k->∃ ra rc oa oc,vs i=stV (S i).p ra (S i).rs.length rc oa (S i).os.length oc (S i).c/\f (i*4)=.int .i64 (S i).p/\f (i*4+1)=.slice ra (S i).rs.length rc/\f (i*4+2)=.slice oa (S i).os.length oc/\f (i*4+3)=.int .i64 (S i).c
 own:∀ i,i<k->qaf w (D+1) (vs i) (S i).p (S i).rs (S i).os (S i).c
 apart:∀ i j,i<j->j<k->∀ b,qae (vs i) b->¬ qae (vs j) b
theorem qtg.step {w w1:World} {D k:Nat} {f:Nat->Value} {S:Nat->S4} {vs:Nat->Value} (o:qtg w D k f S vs) (hb:Below w.heap.size w w1) (hD:D<w.heap.size) {ra oa:Option Addr} {rc oc:Nat} (hv:qaf w1 w.heap.size (stV (S k).p ra (S k).rs.length rc oa (S k).os.length oc (S k).c) (S k).p (S k).rs (S k).os (S k).c) (a b c d:Value):
  qtg ((((w1.setCell ⟨D,k*4,none⟩ a).setCell ⟨D,k*4+1,none⟩ b).setCell ⟨D,k*4+2,none⟩ c).setCell ⟨D,k*4+3,none⟩ d) D (k+1)
   (fun i=>if i=k*4+3 then .int .i64 (S k).c else if i=k*4+2 then .slice oa (S k).os.length oc else if i=k*4+1 then .slice ra (S k).rs.length rc else if i=k*4 then .int .i64 (S k).p else f i) S
   (fun i=>if i=k then stV (S k).p ra (S k).rs.length rc oa (S k).os.length oc (S k).c else vs i):=by
 have hs:∀ g,g≠D->((((w1.setCell ⟨D,k*4,none⟩ a).setCell ⟨D,k*4+1,none⟩ b).setCell ⟨D,k*4+2,none⟩ c).setCell ⟨D,k*4+3,none⟩ d).heap[g]? = w1.heap[g]?:=fun g hne=>(zO _ _ _ _ hne).trans ((zO _ _ _ _ hne).trans ((zO _ _ _ _ hne).trans (zO _ _ _ _ hne)))
 refine ⟨fun i hi=>?_,fun i hi=>?_,fun i j hij hj g h1=>?_⟩
 ·by_cases e:i=k
  ·subst e
   exact ⟨ra,rc,oa,oc,by simp,by simp,by simp,by simp,by simp⟩
  ·obtain ⟨ra',rc',oa',oc',e0,e1,e2,e3,e4⟩:=o.cel i (by omega)
   refine ⟨ra',rc',oa',oc',by simp only [if_neg e];exact e0,?_,?_,?_,?_⟩
   ·rw [if_neg (by omega),if_neg (by omega),if_neg (by omega),if_neg (by omega)];exact e1
   ·rw [if_neg (by omega),if_neg (by omega),if_neg (by omega),if_neg (by omega)];exact e2
   ·rw [if_neg (by omega),if_neg (by omega),if_neg (by omega),if_neg (by omega)];exact e3
   ·rw [if_neg (by omega),if_neg (by omega),if_neg (by omega),if_neg (by omega)];exact e4
 ·by_cases e:i=k
  ·subst e
   simp only [if_true]
   refine qaf.blk (hv.mono (by omega)) fun g hg=>hs g ?_
   have:=(hv.lt hg).1
   omega
  ·simp only [if_neg e]
   have ho:=o.own i (by omega)
   refine (ho.below hb).blk fun g hg=>hs g ?_
   have:=(ho.lt hg).1
   omega
 ·by_cases e:j=k
  ·have hi:i≠k:=by omega
   simp only [if_neg hi] at h1
   simp only [if_pos e]
   intro h2
   have a1:=((o.own i (by omega)).lt h1).2
   have a2:=(hv.lt h2).1
   omega
  ·have hi:i≠k:=by omega
   simp only [if_neg hi] at h1
   simp only [if_neg e]
   exact o.apart i j hij (by omega) g h1
theorem qob (a0:Option Addr) (n cap:Nat) (q:Nat->St8) (W w:World) (hn:n<=1048576) (hl:∀ i,i<n->(q i).rs.length<=1048576/\(q i).os.length<=1048576) (hA:qbk W a0 n q) (hW:Below W.heap.size W w):
  Calls Tryz.prog 45 #[.slice a0 n cap] w fun e w'=>e=.returned (.slice (some ⟨w.heap.size,0,none⟩) n n)/\(∃ vs,qaw w' w.heap.size w'.heap.size n (fun i=>(q i).s) vs)/\Below w.heap.size w w':=by
 have hl':(n:Int)<=1048576:=by omega
 have hmk:=qnv n hn
 have HA:Hid (qbk W a0 n q):=hA
 have HW:Hid (Below W.heap.size W w):=hW
 have HL:Hid (∀ i,i<n->(q i).rs.length<=1048576/\(q i).os.length<=1048576):=hl
 clear hA hW hl
 go_enter Tryz.func45,Tryz.ntmps45
 go_wp2_with fail
 clear hmk
 go_loopw [4] (fun i wr=>∃ k:Nat,k<=n/\i=.int .i64 k/\(∃ f,wr.rowIs w.heap.size 133 (n*4) f/\Hid (∃ vs,qtg wr w.heap.size k f (fun i=>(q i).s) vs))/\Below w.heap.size w wr) (fun i _=>n - (intOf i).toNat)
 case atStart=>
  obtain ⟨f,hf⟩:=qpp w n
  exact ⟨0,Nat.zero_le _,rfl,⟨f,hf,fun _=>.int .i64 0,fun i hi=>by omega,fun i hi=>by omega,fun i j hij hj=>by omega⟩,(Below.refl _ _).alloc (Nat.le_refl _) _⟩
 case round=>
  obtain ⟨k,hk,rfl,⟨f,hrow,HF⟩,hbw⟩:=hrel
  have hs:=hrow.lt
  by_cases hlt:k<n
  ·have hlt':(k:Int)<(n:Int):=by omega
   have HB:Hid (qbk wr a0 n q):=HA.out.below (HW.out.trans (hbw.mono HW.out.size))
   obtain ⟨b,off,rfl,c0,c1,c2,c3⟩:=HB.out.at hlt
   have HR:Hid (wr.rowIs w.heap.size 133 (n*4) f):=hrow
   clear hrow
   go_wp2_with fail
   refine (qqi _ _ _ _ _ _ (q k).rs (q k).os _ (HL.out k hlt).1 (HL.out k hlt).2 (HB.out.lst k hlt).1 (HB.out.lst k hlt).2).mono ?_
   rintro e w1 ⟨v1,rfl,o1,hb1⟩
   obtain ⟨ra1,rc1,oa1,oc1,rfl,-,-⟩:=o1.read
   have hr1:w1.rowIs w.heap.size 133 (n*4) f:=HR.out.of_block (hb1.block _ hs)
   have f0:=hr1.frozen
   have g0:=hr1.cell (i:=k*4) (by omega)
   have g1:=hr1.cell (i:=k*4+1) (by omega)
   have g2:=hr1.cell (i:=k*4+2) (by omega)
   have g3:=hr1.cell (i:=k*4+3) (by omega)
   have HR1:Hid (w1.rowIs w.heap.size 133 (n*4) f):=hr1
   have HF1:Hid (∀ a b c d:Value,∃ vs,qtg ((((w1.setCell ⟨w.heap.size,k*4,none⟩ a).setCell ⟨w.heap.size,k*4+1,none⟩ b).setCell ⟨w.heap.size,k*4+2,none⟩ c).setCell ⟨w.heap.size,k*4+3,none⟩ d) w.heap.size (k+1) (fun i=>if i=k*4+3 then .int .i64 (q k).c else if i=k*4+2 then .slice oa1 (q k).os.length oc1 else if i=k*4+1 then .slice ra1 (q k).rs.length rc1 else if i=k*4 then .int .i64 (q k).p else f i) (fun i=>(q i).s) vs):=by
    intro a b c d
    obtain ⟨vs,o⟩:=HF.out
    exact ⟨_,o.step hb1 hs (S:=fun i=>(q i).s) (k:=k) o1 a b c d⟩
   clear hr1 o1 HF HR HB c0 c1 c2 c3
   go_wp2_with fail
   exact ⟨⟨k+1,by omega,by go_num,⟨_,(((HR1.out.set _ _).set _ _).set _ _).set _ _,HF1.out _ _ _ _⟩,((((hbw.trans (hb1.mono (Nat.le_of_lt hs))).setCell (Nat.le_refl _) _).setCell (Nat.le_refl _) _).setCell (Nat.le_refl _) _).setCell (Nat.le_refl _) _⟩,by simp [intOf];omega⟩
  ·have hkl:k=n:=by omega
   have HO:Hid (∃ vs,qaw wr w.heap.size wr.heap.size n (fun i=>(q i).s) vs):=by
    obtain ⟨vs,o⟩:=HF.out
    rw [hkl] at o
    refine ⟨vs,fun i hi=>?_,o.own,fun i hi b hb=>((o.own i hi).lt hb).2,o.apart,fun j=>hrow.frozen j,Nat.le_refl _,hs⟩
    obtain ⟨ra,rc,oa,oc,e0,e1,e2,e3,e4⟩:=o.cel i hi
    exact ⟨ra,rc,oa,oc,e0,by rw [hrow.cell (by omega),e1],by rw [hrow.cell (by omega),e2],by rw [hrow.cell (by omega),e3],by rw [hrow.cell (by omega),e4]⟩
   clear hkl HF hrow
   go_wp2
   go_ret
   exact ⟨rfl,HO.out,hbw⟩
def hitB (eh:Nat->E3) (kd pr:Int) (i:Nat):Bool:=((eh i).k == kd) && ((eh i).q == pr)
def plN (eh:Nat->E3) (kd pr:Int):Nat->List Nat
 | 0=>[]
 | n+1=>if hitB eh kd pr n=true then plN eh kd pr n ++ [n] else plN eh kd pr n
def valL (eh:Nat->E3) (kd pr:Int) (n:Nat):List Int:=(plN eh kd pr n).map fun i=>(eh i).v
def plI (eh:Nat->E3) (kd pr:Int) (n:Nat):List Int:=(plN eh kd pr n).map fun i:Nat=>(i:Int)
theorem qhm (eh:Nat->E3) (kd pr:Int):∀ n,(plN eh kd pr n).length<=n
 | 0=>Nat.le_refl _
 | n+1=>by
  unfold plN
  have:=qhm eh kd pr n
  split
  ·simp;omega
  ·omega
theorem qg5 (eh:Nat->E3) (kd pr:Int) (n:Nat):(valL eh kd pr n).length<=n:=by
 unfold valL
 rw [List.length_map]
 exact qhm eh kd pr n
theorem qq7 (eh:Nat->E3) (kd pr:Int) (n:Nat):(plI eh kd pr n).length<=n:=by
 unfold plI
 rw [List.length_map]
 exact qhm eh kd pr n
theorem qrj {eh:Nat->E3} {kd pr:Int} {n:Nat} (hh:hitB eh kd pr n=true):valL eh kd pr (n+1)=valL eh kd pr n ++ [(eh n).v]:=by
 unfold valL
 rw [plN,if_pos hh,List.map_append]
 rfl
theorem ql7 {eh:Nat->E3} {kd pr:Int} {n:Nat} (hh:hitB eh kd pr n=false):valL eh kd pr (n+1)=valL eh kd pr n:=by
 unfold valL
 rw [plN,if_neg (by rw [hh];decide)]
theorem qli {eh:Nat->E3} {kd pr:Int} {n:Nat} (hh:hitB eh kd pr n=true):plI eh kd pr (n+1)=plI eh kd pr n ++ [(n:Int)]:=by
 unfold plI
 rw [plN,if_pos hh,List.map_append]
 rfl
theorem qi2 {eh:Nat->E3} {kd pr:Int} {n:Nat} (hh:hitB eh kd pr n=false):plI eh kd pr (n+1)=plI eh kd pr n:=by
 unfold plI
 rw [plN,if_neg (by rw [hh];decide)]
def EvL (w:World) (a:Option Addr) (len:Nat) (h:Nat->E3):Prop:=len=0\/∃ b off,a=some ⟨b,off,none⟩/\b<w.heap.size/\EvAt w b off len h
theorem EvL.below {w w':World} {a:Option Addr} {len:Nat} {h:Nat->E3} (hh:EvL w a len h) (hb:Below w.heap.size w w'):EvL w' a len h:=by
 rcases hh with e | ⟨b,off,e,hlt,hc⟩
 ·exact .inl e
 ·exact .inr ⟨b,off,e,zL hlt hb.size,hc.below hb hlt⟩
theorem EvL.at {w:World} {a:Option Addr} {len:Nat} {h:Nat->E3} (hh:EvL w a len h) {k:Nat} (hk:k<len):∃ b off,a=some ⟨b,off,none⟩/\b<w.heap.size/\w.cell? ⟨b,off+k*3,none⟩=some (.int .i64 (h k).k)/\w.cell? ⟨b,off+k*3+1,none⟩=some (.int .i64 (h k).q)/\w.cell? ⟨b,off+k*3+2,none⟩=some (.int .i64 (h k).v):=by
 rcases hh with rfl | ⟨b,off,e,hlt,hc⟩
 ·omega
 ·exact ⟨b,off,e,hlt,hc k hk⟩
theorem EvL.take {w:World} {a:Option Addr} {len:Nat} {h:Nat->E3} (hh:EvL w a len h) {k:Nat} (hk:k<=len):EvL w a k h:=by
 rcases hh with rfl | ⟨b,off,e,hlt,hc⟩
 ·exact .inl (by omega)
 ·exact .inr ⟨b,off,e,hlt,fun i hi=>hc i (by omega)⟩
theorem EvL.one {w:World} {b off len:Nat} {h:Nat->E3} (hh:EvL w (some ⟨b,off,none⟩) len h) {k:Nat} (hk:k<len):EvAt w b off len h/\b<w.heap.size:=by
 rcases hh with rfl | ⟨b',off',e,hlt,hc⟩
 ·omega
 ·simp only [Option.some.injEq,Addr.mk.injEq] at e
  obtain ⟨rfl,rfl,-⟩:=e
  exact ⟨hc,hlt⟩
def numL (h:Nat->I2):Nat->List Int
 | 0=>[]
 | n+1=>if (h n).m=true then numL h n else numL h n ++ [(h n).v]
theorem qg0 (h:Nat->I2):∀ n,(numL h n).length<=n
 | 0=>Nat.le_refl _
 | n+1=>by
  unfold numL
  have:=qg0 h n
  split
  ·omega
  ·simp;omega
theorem qh9 {h:Nat->I2} {n:Nat} (hh:(h n).m=false):numL h (n+1)=numL h n ++ [(h n).v]:=by
 rw [numL,if_neg (by rw [hh];decide)]
theorem qq6 {h:Nat->I2} {n:Nat} (hh:(h n).m=true):numL h (n+1)=numL h n:=by
 rw [numL,if_pos hh]
