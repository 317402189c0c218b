import Derived.Test.YtcplnkhdclcgfaaGreatDoorUf0
import Derived.Test.YtcplnkhdclcgfaaGreatDoorUf7
import Derived.Deep.OwnRows
import Derived.Deep.RegionWith
import Derived.Test.YtcplnkhdclcgfaaGreatDoorUf6
import Derived.ProofKit
import Derived.OpenShut
import Derived.ShutString
import Derived.ChangeOld
import Derived.Below
import Derived.Deep.Slices
namespace Go.Proofs.YtcplnkhdclcgfaaGreatDoor
set_option maxRecDepth 100000
set_option maxHeartbeats 1000000
open Go.RowKit Go.Deep
theorem infoIns:(Tryz.prog.info? 99).map (fun i=>(i.zero,i.size,i.bytes))=some (some (insV 0 0 0 0 0),5,40):=by kernel_rfl
theorem run_make_ins (n:Nat) (hn:n<=1048576) (w:World):
  (Instr.makeSlice 102 (.int .i64 (n:Int)) (.int .i64 (n:Int))).run Tryz.prog w=.ok (.slice (some ⟨w.heap.size,0,none⟩) n n) (w.alloc (.cells (madeCells (insV 0 0 0 0 0).cells (n*5)) 99)):=by
 have hinfo:=infoIns
 cases hi:Tryz.prog.info? 99 with
 | none=>rw [hi] at hinfo;cases hinfo
 | some i=>
  rw [hi] at hinfo
  simp only [Option.map_some,Option.some.injEq,Prod.mk.injEq] at hinfo
  obtain ⟨hz,hs,hb⟩:=hinfo
  have h:=run_make (P:=Tryz.prog) w 102 99 i _ Tryz.underlying102 hi hz .i64 .i64 (n:Int) (n:Int) (by omega) (Int.le_refl _) (by rw [hb];omega) (by omega)
  rw [hs] at h
  simpa using h
theorem madeIns_row (w:World) (n:Nat):(w.alloc (.cells (madeCells (insV 0 0 0 0 0).cells (n*5)) 99)).rowIs w.heap.size 99 (n*5) (fun _=>.int .i64 0):=by
 refine ⟨_,blk_alloc_new _ _,size_madeCells _ _,fun i hi=>?_⟩
 have h5:i % 5<5:=Nat.mod_lt _ (by omega)
 have:∀ j,j<5->(#[Value.int .i64 0,.int .i64 0,.int .i64 0,.int .i64 0,.int .i64 0]:Array Value)[j]! = .int .i64 0:=by
  intro j hj
  match j,hj with
  | 0,_=>rfl
  | 1,_=>rfl
  | 2,_=>rfl
  | 3,_=>rfl
  | 4,_=>rfl
 simp only [madeCells,Value.cells]
 rw [Array.getElem?_map,Array.getElem?_range,if_pos hi]
 exact congrArg some (this (i % 5) h5)
def Filled (f:Nat->Value) (g:Nat->I5) (k:Nat):Prop:=∀ i,i<k->
 f (i*5)=.int .i64 (g i).o/\f (i*5+1)=.int .i64 (g i).r/\f (i*5+2)=.int .i64 (g i).a/\f (i*5+3)=.int .i64 (g i).b/\f (i*5+4)=.int .i64 (g i).n
theorem Filled.at {w:World} {b:Nat} {t:TypeId} {len k:Nat} {f:Nat->Value} {g:Nat->I5} (h:Filled f g k) (hr:w.rowIs b t (len*5) f) (hk:k<=len):InsAt w b 0 k g:=by
 intro i hi
 obtain ⟨h0,h1,h2,h3,h4⟩:=h i hi
 refine ⟨?_,?_,?_,?_,?_⟩
 ·rw [hr.cell (by omega),Nat.zero_add,h0]
 ·rw [hr.cell (by omega),Nat.zero_add,h1]
 ·rw [hr.cell (by omega),Nat.zero_add,h2]
 ·rw [hr.cell (by omega),Nat.zero_add,h3]
 ·rw [hr.cell (by omega),Nat.zero_add,h4]
theorem Filled.step {w:World} {b:Nat} {t:TypeId} {len k:Nat} {f:Nat->Value} {g:Nat->I5} (hr:w.rowIs b t (len*5) f) (h:Filled f g k):
  ∃ f',(((((w.setCell ⟨b,k*5,none⟩ (.int .i64 (g k).o)).setCell ⟨b,k*5+1,none⟩ (.int .i64 (g k).r)).setCell ⟨b,k*5+2,none⟩ (.int .i64 (g k).a)).setCell ⟨b,k*5+3,none⟩ (.int .i64 (g k).b)).setCell ⟨b,k*5+4,none⟩ (.int .i64 (g k).n)).rowIs b t (len*5) f'/\Filled f' g (k+1):=by
 refine ⟨_,((((hr.set _ _).set _ _).set _ _).set _ _).set _ _,fun i hi=>?_⟩
 by_cases hik:i=k
 ·subst hik
  simp
 ·have hlt:i<k:=by omega
  obtain ⟨h0,h1,h2,h3,h4⟩:=h i hlt
  refine ⟨?_,?_,?_,?_,?_⟩
  ·rw [if_neg (by omega),if_neg (by omega),if_neg (by omega),if_neg (by omega),if_neg (by omega)];exact h0
  ·rw [if_neg (by omega),if_neg (by omega),if_neg (by omega),if_neg (by omega),if_neg (by omega)];exact h1
  ·rw [if_neg (by omega),if_neg (by omega),if_neg (by omega),if_neg (by omega),if_neg (by omega)];exact h2
  ·rw [if_neg (by omega),if_neg (by omega),if_neg (by omega),if_neg (by omega),if_neg (by omega)];exact h3
  ·rw [if_neg (by omega),if_neg (by omega),if_neg (by omega),if_neg (by omega),if_neg (by omega)];exact h4
theorem eqIns_same (op r a b n:Int) (w:World):
  Calls Tryz.prog 213 #[insV op r a b n,insV op r a b n] w fun e w'=>e=.returned (.bool true)/\Below w.heap.size w w':=by
 go_enter Tryz.func213,Tryz.ntmps213
 go_wp2
 go_ret
 exact ⟨rfl,by go_grown⟩
theorem eqInsS_same (b1 b2 len c1 c2:Nat) (g:Nat->I5) (w:World) (hlen:len<=1048576) (hb1:b1<w.heap.size) (hb2:b2<w.heap.size) (hc1:InsAt w b1 0 len g) (hc2:InsAt w b2 0 len g):
  Calls Tryz.prog 151 #[.slice (some ⟨b1,0,none⟩) len c1,.slice (some ⟨b2,0,none⟩) len c2] w fun e w'=>e=.returned (.bool true)/\Below w.heap.size w w':=by
 have hl':(len:Int)<=1048576:=by omega
 have HC1:Hid (InsAt w b1 0 len g):=hc1
 have HC2:Hid (InsAt w b2 0 len g):=hc2
 clear hc1 hc2
 go_enter Tryz.func151,Tryz.ntmps151
 go_wp2_with fail
 go_loopw [5] (fun i wr=>∃ k:Nat,k<=len/\i=.int .i64 k/\Below w.heap.size w wr) (fun i _=>len - (intOf i).toNat)
 case atStart=>exact ⟨0,Nat.zero_le _,rfl,Below.refl _ _⟩
 case round=>
  obtain ⟨k,hk,rfl,hbw⟩:=hrel
  have hs:=hbw.size
  by_cases hlt:k<len
  ·obtain ⟨c0,c1,c2,c3,c4⟩:=HC1.out.below hbw hb1 k hlt
   obtain ⟨d0,d1,d2,d3,d4⟩:=HC2.out.below hbw hb2 k hlt
   have hlt':(k:Int)<(len:Int):=by omega
   rw [Nat.zero_add] at c0 c1 c2 c3 c4 d0 d1 d2 d3 d4
   go_wp2_with fail
   first|(go_region_with (go_at_call 213;refine (eqIns_same _ _ _ _ _ _).mono ?_;rintro e w1 ⟨rfl,hq1⟩)) | fail
   all_goals
    go_wp2
    go_roundw
    case rel=>exact ⟨k+1,by omega,by go_num,hbw.drew.trans (hq1.mono hs)⟩
    case measure=>simp [intOf];omega
  ·go_wp2
   go_ret
   exact ⟨rfl,hbw⟩
open Go.ChangeShapes Go.WideShapes Go.ChangeAt
theorem Tryz.own:ownKnob Tryz.prog.godebug=none:=by kernel_rfl
theorem Tryz.laidOut:laidOutB Tryz.prog=true:=by kernel_rfl
theorem cellsLawIns:Tryz.prog.cellsOf 220=5:=by kernel_rfl
theorem cellsLawState:Tryz.prog.cellsOf 159=4:=by kernel_rfl
theorem cellsInt:Tryz.prog.cellsOf 3=1:=by kernel_rfl
theorem cellsInts:Tryz.prog.cellsOf 37=1:=by kernel_rfl
theorem array4 {cs:Array Value} (h:cs.size=4):∃ c0 c1 c2 c3,cs=#[c0,c1,c2,c3]:=by
 obtain ⟨l⟩:=cs
 match l,h with
 | [c0,c1,c2,c3],_=>exact ⟨c0,c1,c2,c3,rfl⟩
theorem open_insCells {H:Type} {enc:TypeId × Value->H} {w:World} {base fuel:Nat} {spare:Nat->Bool} {held:Bool} {c0 c1 c2 c3 c4:Value} {x:DataW H × List MemPlace}
  (hf:DataW.trod enc Tryz.prog w base spare held fuel 220 [c0,c1,c2,c3,c4]=some x):
  ∃ op r a b n:Int,c0=.int .i64 op/\c1=.int .i64 r/\c2=.int .i64 a/\c3=.int .i64 b/\c4=.int .i64 n:=by
 obtain ⟨xs,m,-,-,-,hl,hx⟩:=DataW.trod_struct Tryz.underlying220 hf
 have hl:xs.length=5:=hl
 have q0:DataW.trod enc Tryz.prog w base spare held m 3 [c0]=xs[0]?:=by simpa [cellsInt] using hx 0 _ rfl
 have q1:DataW.trod enc Tryz.prog w base spare held m 3 [c1]=xs[1]?:=by simpa [cellsInt] using hx 1 _ rfl
 have q2:DataW.trod enc Tryz.prog w base spare held m 3 [c2]=xs[2]?:=by simpa [cellsInt] using hx 2 _ rfl
 have q3:DataW.trod enc Tryz.prog w base spare held m 3 [c3]=xs[3]?:=by simpa [cellsInt] using hx 3 _ rfl
 have q4:DataW.trod enc Tryz.prog w base spare held m 3 [c4]=xs[4]?:=by simpa [cellsInt] using hx 4 _ rfl
 rw [List.getElem?_eq_getElem (by omega)] at q0 q1 q2 q3 q4
 obtain ⟨z0,e0,-,-⟩:=DataW.trod_int Tryz.underlying3 q0
 obtain ⟨z1,e1,-,-⟩:=DataW.trod_int Tryz.underlying3 q1
 obtain ⟨z2,e2,-,-⟩:=DataW.trod_int Tryz.underlying3 q2
 obtain ⟨z3,e3,-,-⟩:=DataW.trod_int Tryz.underlying3 q3
 obtain ⟨z4,e4,-,-⟩:=DataW.trod_int Tryz.underlying3 q4
 simp only [List.cons.injEq,and_true] at e0 e1 e2 e3 e4
 exact ⟨z0,z1,z2,z3,z4,e0,e1,e2,e3,e4⟩
theorem addr_addO (b off j:Nat):Addr.add ⟨b,off,none⟩ j=⟨b,off+j,none⟩:=by
 unfold Addr.add
 by_cases h:j=0
 ·rw [if_pos h,h,Nat.add_zero]
 ·rw [if_neg h]
theorem cell_lt {w:World} {p:Addr} {v:Value} (h:w.cell? p=some v):p.block<w.heap.size:=zJ w p h
theorem open_insRow {H:Type} {enc:TypeId × Value->H} {w:World} {spare:Nat->Bool} {held:Bool} {base:Nat} {a0:Option Addr} {len cap:Nat} {d:DataW H} {p:List MemPlace}
  (h:DataW.Trod enc Tryz.prog w base spare held 157 (.slice a0 len cap) d p):
  len<=maxLen/\(len=0\/∃ b off g,a0=some ⟨b,off,none⟩/\b<w.heap.size/\InsAt w b off len g):=by
 obtain ⟨fuel,hf⟩:=h
 rcases Go.Deep.open_slice Tryz.underlying157 hf with ⟨hcs,_⟩ | ⟨a,len',cap',m,n,D,Pl,hcs,_,hl,hm,hmm,_,hx⟩
 ·simp [Value.cells] at hcs
  obtain ⟨_,rfl,_⟩:=hcs
  exact ⟨Nat.zero_le _,.inl rfl⟩
 ·simp [Value.cells] at hcs
  obtain ⟨rfl,rfl,rfl⟩:=hcs
  refine ⟨zP hl hm,?_⟩
  by_cases h0:len=0
  ·exact .inl h0
  right
  have hle:len<=m:=by rw [hmm];split <;> omega
  rw [cellsLawIns] at hx
  obtain ⟨b,off,spot⟩:=a
  have hcell:∀ i,i<len->∃ x:I5,w.cell? (Addr.add (Addr.add ⟨b,off,spot⟩ (i*5)) 0)=some (.int .i64 x.o)/\w.cell? (Addr.add (Addr.add ⟨b,off,spot⟩ (i*5)) 1)=some (.int .i64 x.r)/\w.cell? (Addr.add (Addr.add ⟨b,off,spot⟩ (i*5)) 2)=some (.int .i64 x.a)/\w.cell? (Addr.add (Addr.add ⟨b,off,spot⟩ (i*5)) 3)=some (.int .i64 x.b)/\w.cell? (Addr.add (Addr.add ⟨b,off,spot⟩ (i*5)) 4)=some (.int .i64 x.n):=by
   intro i hi
   obtain ⟨cs',h1,h2⟩:=hx i (by omega)
   obtain ⟨_,hlen,hc⟩:=World.cells?_some h1
   match cs',hlen with
   | [c0,c1,c2,c3,c4],_=>
    obtain ⟨o,r,a,b,n,rfl,rfl,rfl,rfl,rfl⟩:=open_insCells h2
    exact ⟨⟨o,r,a,b,n⟩,hc 0 (by omega),hc 1 (by omega),hc 2 (by omega),hc 3 (by omega),hc 4 (by omega)⟩
  have hspot:spot=none:=by
   obtain ⟨x,hx0,_⟩:=hcell 0 (by omega)
   simpa [Addr.add] using World.cell?_spot hx0
  subst hspot
  have inh:Inhabited I5:=⟨⟨0,0,0,0,0⟩⟩
  obtain ⟨g,hg⟩:=Go.Deep.choose_lt (α:=I5) hcell
  have hI:InsAt w b off len g:=by
   intro i hi
   obtain ⟨q0,q1,q2,q3,q4⟩:=hg i hi
   rw [addr_addO,addr_addO] at q0 q1 q2 q3 q4
   exact ⟨q0,q1,q2,q3,q4⟩
  exact ⟨b,off,g,rfl,cell_lt (hI 0 (by omega)).1,hI⟩
theorem open_intRow {H:Type} {enc:TypeId × Value->H} {w:World} {held:Bool} {base fuel:Nat} {v:Value} {x:DataW H × List MemPlace}
  (hf:DataW.trod enc Tryz.prog w base (fun _=>true) held fuel 37 [v]=some x):
  ∃ a0 cap xs,v=.slice a0 xs.length cap/\xs.length<=maxLen/\Sl w a0 xs:=by
 rcases open_ints Tryz.underlying37 Tryz.underlying3 cellsInt hf with ⟨hcs,_⟩ | ⟨a,l,c,zs,hcs,_,hl,hm,hz,_,hcell,_⟩
 ·simp at hcs
  exact ⟨none,0,[],hcs,Nat.zero_le _,.inl rfl⟩
 ·simp at hcs
  have hz':zs.length=c:=by simpa using hz
  have hlen:(zs.take l).length=l:=by simp;omega
  refine ⟨some a,c,zs.take l,by rw [hlen];exact hcs,by rw [hlen];exact zP hl hm,?_⟩
  by_cases h0:l=0
  ·exact .inl (by simp [h0])
  obtain ⟨b,off,rfl,hc⟩:=ints_at hcell (by omega)
  refine .inr ⟨b,off,rfl,cell_lt (hc 0 (by omega)),fun i hi=>?_⟩
  rw [hlen] at hi
  rw [hc i (by omega)]
  unfold zi
  rw [List.getD_eq_getElem?_getD,List.getD_eq_getElem?_getD,List.getElem?_take,if_pos hi]
def Copies (w:World) (a0:Option Addr) (len cap:Nat) (g:Nat->I5):Prop:=∀ wx,Below w.heap.size w wx->
 Calls Tryz.prog 141 #[.slice a0 len cap] wx fun e w'=>e=.returned (.slice (some ⟨wx.heap.size,0,none⟩) len len)/\InsAt w' wx.heap.size 0 len g/\wx.heap.size<w'.heap.size/\Below wx.heap.size wx w'
