import Derived.Test.YtlhikgdcgpgolaaGreatDoorBh0
import Derived.Test.YtlhikgdcgpgolaaGreatDoorBh17
import Derived.Test.YtlhikgdcgpgolaaGreatDoorBh13
import Derived.Test.YtlhikgdcgpgolaaGreatDoorBh11
import Derived.Test.YtlhikgdcgpgolaaGreatDoorBh7
import Derived.Defers
import Derived.Deep.LoopGhost
import Derived.Deep.Cut
import Derived.Deep.MidRow
import Derived.Laws.EntriesVeiled
import Derived.Test.YtlhikgdcgpgolaaGreatDoorBh19
namespace Go.Proofs.YtlhikgdcgpgolaaGreatDoor
set_option maxRecDepth 100000
set_option maxHeartbeats 4000000
open Go.RowKit Go.Deep
theorem specValues_l (ea:Option Addr) (len cap:Nat) (eh:Nat->E3) (kd pr:Int) (w:World) (hlen:len<=1048576) (hc:EvL w ea len eh):
  Calls Tryz.prog 81 #[.slice ea len cap,.int .i64 kd,.int .i64 pr] w fun e w'=>∃ v,e=.returned v/\OwnI w' w.heap.size v (valL eh kd pr len)/\Below w.heap.size w w':=by
 have hl':(len:Int)<=1048576:=by omega
 have HC:Hid (EvL w ea len eh):=hc
 clear hc
 go_enter Tryz.func81,Tryz.ntmps81
 go_wp2_with fail
 go_loopw [7,8] (fun o i wr=>∃ k:Nat,k<=len/\i=.int .i64 k/\Hid (OwnI wr w.heap.size o (valL eh kd pr k))/\Below w.heap.size w wr) (fun _ i _=>len - (intOf i).toNat)
 case atStart=>exact ⟨0,Nat.zero_le _,rfl,own_empty w,(Below.refl _ _).alloc (Nat.le_refl _) _⟩
 case round=>
  obtain ⟨k,hk,rfl,HO,hbw⟩:=hrel
  have hs:=hbw.size
  by_cases hlt:k<len
  ·have hlt':(k:Int)<(len:Int):=by omega
   have hvl:=valL_le eh kd pr k
   obtain ⟨b,off,rfl,-,c0,c1,c2⟩:=(HC.out.below hbw).at hlt
   rcases zK ((eh k).k == kd) with t1 | t1
   ·rcases zK ((eh k).q == pr) with t2 | t2
    ·have HH : Hid (valL eh kd pr (k + 1) = valL eh kd pr k ++ [(eh k).v]) := valL_hit (by
      unfold hitB
      rw [t1,t2]
      rfl)
     go_wp2_with (at_builtin;refine append_one wr rfl _ _ rfl w.heap.size u7 (valL eh kd pr k) rfl HO.out (eh k).v rfl (by omega) hs ?_;intro v' w4 o4 b4;have H4:Hid (OwnI w4 w.heap.size v' (valL eh kd pr (k+1))):=o4.to HH.out;clear o4)
     go_roundw
     case rel=>exact ⟨k+1,by omega,by go_num,H4.out,hbw.trans b4⟩
     case measure=>simp [intOf];omega
    ·have HH : Hid (valL eh kd pr (k + 1) = valL eh kd pr k) := valL_not (by
      unfold hitB
      rw [t1,t2]
      rfl)
     go_wp2
     go_roundw
     case rel=>exact ⟨k+1,by omega,by go_num,HO.out.to HH.out,hbw⟩
     case measure=>simp [intOf];omega
   ·have HH : Hid (valL eh kd pr (k + 1) = valL eh kd pr k) := valL_not (by
     unfold hitB
     rw [t1]
     rfl)
    go_wp2
    go_roundw
    case rel=>exact ⟨k+1,by omega,by go_num,HO.out.to HH.out,hbw⟩
    case measure=>simp [intOf];omega
  ·have hkl:k=len:=by omega
   have H4:Hid (OwnI wr w.heap.size u7 (valL eh kd pr len)):=by
    have:=HO.out
    rw [hkl] at this
    exact this
   clear HO hkl
   go_wp2
   go_ret
   exact ⟨_,rfl,H4.out,hbw⟩
theorem placesOf_l (ea:Option Addr) (len cap:Nat) (eh:Nat->E3) (kd pr:Int) (w:World) (hlen:len<=1048576) (hc:EvL w ea len eh):
  Calls Tryz.prog 155 #[.slice ea len cap,.int .i64 kd,.int .i64 pr] w fun e w'=>∃ v,e=.returned v/\OwnI w' w.heap.size v (plI eh kd pr len)/\Below w.heap.size w w':=by
 have hl':(len:Int)<=1048576:=by omega
 have HC:Hid (EvL w ea len eh):=hc
 clear hc
 go_enter Tryz.func155,Tryz.ntmps155
 go_wp2_with fail
 go_loopw [7,13] (fun o i wr=>∃ k:Nat,k<=len/\i=.int .i64 k/\Hid (OwnI wr w.heap.size o (plI eh kd pr k))/\Below w.heap.size w wr) (fun _ i _=>len - (intOf i).toNat)
 case atStart=>exact ⟨0,Nat.zero_le _,rfl,own_empty w,(Below.refl _ _).alloc (Nat.le_refl _) _⟩
 case round=>
  obtain ⟨k,hk,rfl,HO,hbw⟩:=hrel
  have hs:=hbw.size
  by_cases hlt:k<len
  ·have hlt':(k:Int)<(len:Int):=by omega
   have hvl:=plI_le eh kd pr k
   obtain ⟨b,off,rfl,-,c0,c1,c2⟩:=(HC.out.below hbw).at hlt
   rcases zK ((eh k).k == kd) with t1 | t1
   ·rcases zK ((eh k).q == pr) with t2 | t2
    ·have HH : Hid (plI eh kd pr (k + 1) = plI eh kd pr k ++ [(k : Int)]) := plI_hit (by
      unfold hitB
      rw [t1,t2]
      rfl)
     go_wp2_with (at_builtin;refine append_oneN _ (N:=wr.heap.size+1) (by simp) rfl _ _ rfl w.heap.size u7 (plI eh kd pr k) rfl (HO.out.below (by go_grown)) k rfl (by omega) (by simp;omega) ?_;intro v' w4 o4 b4;have H4:Hid (OwnI w4 w.heap.size v' (plI eh kd pr (k+1))):=o4.to HH.out;clear o4)
     go_roundw
     case rel=>exact ⟨k+1,by omega,by go_num,H4.out,Below.trans (by go_grown) b4⟩
     case measure=>simp [intOf];omega
    ·have HH : Hid (plI eh kd pr (k + 1) = plI eh kd pr k) := plI_not (by
      unfold hitB
      rw [t1,t2]
      rfl)
     go_wp2
     go_roundw
     case rel=>exact ⟨k+1,by omega,by go_num,(HO.out.below (by go_grown)).to HH.out,by go_grown⟩
     case measure=>simp [intOf];omega
   ·have HH : Hid (plI eh kd pr (k + 1) = plI eh kd pr k) := plI_not (by
     unfold hitB
     rw [t1]
     rfl)
    go_wp2
    go_roundw
    case rel=>exact ⟨k+1,by omega,by go_num,(HO.out.below (by go_grown)).to HH.out,by go_grown⟩
    case measure=>simp [intOf];omega
  ·have hkl:k=len:=by omega
   have H4:Hid (OwnI wr w.heap.size u7 (plI eh kd pr len)):=by
    have:=HO.out
    rw [hkl] at this
    exact this
   clear HO hkl
   go_wp2
   go_ret
   exact ⟨_,rfl,H4.out,hbw⟩
theorem specCount_l (ea:Option Addr) (len cap:Nat) (eh:Nat->E3) (kd pr:Int) (w:World) (hlen:len<=1048576) (hc:EvL w ea len eh):
  Calls Tryz.prog 121 #[.slice ea len cap,.int .i64 kd,.int .i64 pr] w fun e w'=>e=.returned (.int .i64 ((plN eh kd pr len).length:Nat))/\Below w.heap.size w w':=by
 have HC:Hid (EvL w ea len eh):=hc
 clear hc
 go_enter Tryz.func121,Tryz.ntmps121
 go_wp2_with fail
 refine (specValues_l ea len cap eh kd pr w hlen HC.out).mono ?_
 rintro e w1 ⟨v,rfl,o1,b1⟩
 obtain ⟨a0,cp,rfl,-⟩:=o1.form
 rw [valL_length]
 go_wp2
 go_ret
 exact ⟨rfl,b1⟩
theorem implValues_l (ea:Option Addr) (len cap:Nat) (eh:Nat->E3) (kd pr:Int) (w:World) (hlen:len<=1048576) (hc:EvL w ea len eh):
  Calls Tryz.prog 129 #[.slice ea len cap,.int .i64 kd,.int .i64 pr] w fun e w'=>∃ v,e=.returned v/\OwnI w' w.heap.size v (valL eh kd pr len)/\Below w.heap.size w w':=by
 have hl':(len:Int)<=1048576:=by omega
 have HC:Hid (EvL w ea len eh):=hc
 clear hc
 have hpl:=plI_le eh kd pr len
 go_enter Tryz.func129,Tryz.ntmps129
 go_wp2_with fail
 refine (placesOf_l ea len cap eh kd pr _ hlen (HC.out.below (by go_grown))).mono ?_
 rintro e w1 ⟨v,rfl,o1,b1⟩
 have B1:Hid (Below w.heap.size w w1):=below_up (by go_grown) b1 (by simp)
 obtain ⟨a0,cp,rfl,-⟩:=o1.form
 have HS:Hid (OwnI w1 (w.heap.size+1) (.slice a0 (plI eh kd pr len).length cp) (plI eh kd pr len)):=by
  rw [World.size_alloc] at o1
  exact o1
 clear o1
 go_wp2_with fail
 have HO:Hid (OwnI w1 w.heap.size (.slice (some ⟨w.heap.size,0,none⟩) 0 0) []):=(own_empty w).below b1
 clear b1
 go_loopw [7,16] (fun o i wr=>∃ k:Nat,k<=(plI eh kd pr len).length/\i=.int .i64 k/\Hid (OwnI wr w.heap.size o (valT eh kd pr len k))/\Below w.heap.size w wr/\Hid (Away w w1 wr o)) (fun _ i _=>(plI eh kd pr len).length - (intOf i).toNat)
 case atStart=>exact ⟨0,Nat.zero_le _,rfl,HO.out,B1.out,⟨fun j hj=>by simp [Value.ownBlock] at hj;exact .inl hj.symm,fun _ _ _=>rfl,Nat.le_refl _⟩⟩
 case round=>
  clear HO B1
  obtain ⟨k,hk,rfl,HO,hbw,HA⟩:=hrel
  have hs:=hbw.size
  by_cases hlt:k<(plI eh kd pr len).length
  ·have hlt':(k:Int)<((plI eh kd pr len).length:Int):=by omega
   obtain ⟨b0,o0,e0,hb0,hcell⟩:=(HA.out.sl (Nat.lt_succ_self _) HS.out).at hlt
   obtain ⟨q,hq,hql,hqe⟩:=plI_place eh kd pr len k hlt
   have hql':(q:Int)<(len:Int):=by omega
   rw [hq] at hcell
   subst e0
   have hvl:=valT_le eh kd pr len k
   have HH:Hid (valT eh kd pr len (k+1)=valT eh kd pr len k ++ [(eh q).v]):=valT_next hqe
   obtain ⟨b,off,rfl,-,c0,c1,c2⟩:=(HC.out.below hbw).at hql
   clear hq hqe
   go_wp2_with (at_builtin;refine append_far wr rfl _ _ rfl w.heap.size u7 (valT eh kd pr len k) rfl HO.out (eh q).v rfl (by omega) hs ?_;intro v' w4 o4 g4 a4;have A4:Hid (Away w w1 w4 v'):=HA.out.step g4 a4;have b4:Below w.heap.size wr w4:=⟨g4.os,g4.tape,g4.output,g4.size,fun j hj=>g4.block j (zL hj hs) (fun e=>Nat.not_le_of_lt hj (HO.out.lt j e.symm).1)⟩;have H4:Hid (OwnI w4 w.heap.size v' (valT eh kd pr len (k+1))):=o4.to HH.out;clear o4 g4 a4)
   go_roundw
   case rel=>exact ⟨k+1,by omega,by go_num,H4.out,hbw.trans b4,A4.out⟩
   case measure=>simp [intOf];omega
  ·have hkl:k=(plI eh kd pr len).length:=by omega
   have H4:Hid (OwnI wr w.heap.size u7 (valL eh kd pr len)):=by
    have:=HO.out
    rw [hkl,valT_all] at this
    exact this
   clear HO hkl
   go_wp2
   go_ret
   exact ⟨_,rfl,H4.out,hbw⟩
theorem specNumbers_l (ea:Option Addr) (len cap:Nat) (h:Nat->I2) (w:World) (hlen:len<=1048576) (hc:ItL w ea len h):
  Calls Tryz.prog 120 #[.slice ea len cap] w fun e w'=>∃ v,e=.returned v/\OwnI w' w.heap.size v (numL h len)/\Below w.heap.size w w':=by
 have hl':(len:Int)<=1048576:=by omega
 have HC:Hid (ItL w ea len h):=hc
 clear hc
 go_enter Tryz.func120,Tryz.ntmps120
 go_wp2_with fail
 go_loopw [3,4] (fun o i wr=>∃ k:Nat,k<=len/\i=.int .i64 k/\Hid (OwnI wr w.heap.size o (numL h k))/\Below w.heap.size w wr) (fun _ i _=>len - (intOf i).toNat)
 case atStart=>exact ⟨0,Nat.zero_le _,rfl,own_empty w,(Below.refl _ _).alloc (Nat.le_refl _) _⟩
 case round=>
  obtain ⟨k,hk,rfl,HO,hbw⟩:=hrel
  have hs:=hbw.size
  by_cases hlt:k<len
  ·have hlt':(k:Int)<(len:Int):=by omega
   have hvl:=numL_le h k
   obtain ⟨b,off,rfl,-,c0,c1⟩:=(HC.out.below hbw).at hlt
   rcases zK (h k).m with t1 | t1
   ·have HH:Hid (numL h (k+1)=numL h k):=numL_not t1
    rw [t1] at c0
    go_wp2
    go_roundw
    case rel=>exact ⟨k+1,by omega,by go_num,HO.out.to HH.out,hbw⟩
    case measure=>simp [intOf];omega
   ·have HH:Hid (numL h (k+1)=numL h k ++ [(h k).v]):=numL_hit t1
    rw [t1] at c0
    go_wp2_with (at_builtin;refine append_one wr rfl _ _ rfl w.heap.size u3 (numL h k) rfl HO.out (h k).v rfl (by omega) hs ?_;intro v' w4 o4 b4;have H4:Hid (OwnI w4 w.heap.size v' (numL h (k+1))):=o4.to HH.out;clear o4)
    go_roundw
    case rel=>exact ⟨k+1,by omega,by go_num,H4.out,hbw.trans b4⟩
    case measure=>simp [intOf];omega
  ·have hkl:k=len:=by omega
   have H4:Hid (OwnI wr w.heap.size u3 (numL h len)):=by
    have:=HO.out
    rw [hkl] at this
    exact this
   clear HO hkl
   go_wp2
   go_ret
   exact ⟨_,rfl,H4.out,hbw⟩
theorem implNumbers_l (ea:Option Addr) (len cap:Nat) (h:Nat->I2) (w:World) (hlen:len<=1048576) (hc:ItL w ea len h):
  Calls Tryz.prog 92 #[.slice ea len cap] w fun e w'=>∃ v,e=.returned v/\OwnI w' w.heap.size v (numL h len)/\Below w.heap.size w w':=by
 have hl':(len:Int)<=1048576:=by omega
 have HC:Hid (ItL w ea len h):=hc
 clear hc
 go_enter Tryz.func92,Tryz.ntmps92
 go_wp2_with fail
 go_loopw [3,9] (fun o i wr=>∃ k:Nat,k<=len/\i=.int .i64 k/\Hid (OwnI wr w.heap.size o (numL h k))/\Below w.heap.size w wr) (fun _ i _=>len - (intOf i).toNat)
 case atStart=>exact ⟨0,Nat.zero_le _,rfl,own_empty w,(Below.refl _ _).alloc (Nat.le_refl _) _⟩
 case round=>
  obtain ⟨k,hk,rfl,HO,hbw⟩:=hrel
  have hs:=hbw.size
  by_cases hlt:k<len
  ·have hlt':(k:Int)<(len:Int):=by omega
   have hvl:=numL_le h k
   obtain ⟨b,off,rfl,-,c0,c1⟩:=(HC.out.below hbw).at hlt
   rcases zK (h k).m with t1 | t1
   ·have HH:Hid (numL h (k+1)=numL h k):=numL_not t1
    rw [t1] at c0
    go_wp2
    go_roundw
    case rel=>exact ⟨k+1,by omega,by go_num,(HO.out.below (by go_grown)).to HH.out,by go_grown⟩
    case measure=>simp [intOf];omega
   ·have HH:Hid (numL h (k+1)=numL h k ++ [(h k).v]):=numL_hit t1
    rw [t1] at c0
    go_wp2_with (at_builtin;refine append_oneN _ (N:=wr.heap.size+1) (by simp) rfl _ _ rfl w.heap.size u3 (numL h k) rfl (HO.out.below (by go_grown)) (h k).v rfl (by omega) (by simp;omega) ?_;intro v' w4 o4 b4;have H4:Hid (OwnI w4 w.heap.size v' (numL h (k+1))):=o4.to HH.out;clear o4)
    go_roundw
    case rel=>exact ⟨k+1,by omega,by go_num,H4.out,Below.trans (by go_grown) b4⟩
    case measure=>simp [intOf];omega
  ·have hkl:k=len:=by omega
   have H4:Hid (OwnI wr w.heap.size u3 (numL h len)):=by
    have:=HO.out
    rw [hkl] at this
    exact this
   clear HO hkl
   go_wp2
   go_ret
   exact ⟨_,rfl,H4.out,hbw⟩
open Go.ChangeShapes Go.WideShapes Go.ChangeAt Go.Sort
theorem Touch.set {P:Nat->Prop} {w w':World} (h:Touch P w w') {a:Addr} (ha:P a.block) (u:Value):Touch P w (w'.setCell a u):=h.trans (Touch.of_set w' ha u)
theorem Touch.sets {P:Nat->Prop} {b:Nat} (hb:P b):∀ (vs:List Value) (o:Nat) {w w':World},Touch P w w'->Touch P w (w'.setCells b o vs)
 | [],_,_,_,h=>h
 | v :: r,o,_,_,h=>Touch.sets hb r (o+1) (h.set (a:=⟨b,o,none⟩) hb v)
theorem infoHis:(Tryz.prog.info? 94).map (·.size)=some 21:=by kernel_rfl
theorem rowBack (X Bf Hb:Nat) (w:World) (cs:List Value) (hl:cs.length=21) (h1:∀ v ∈ cs,v.oneCell'=true) (hB:w.rangeAt Bf 0 cs) (hT:w.there X 4 21) (hH:w.cell? ⟨Hb,0,none⟩=some (.pointer (some ⟨X,4,none⟩))) (u:FrameMode):
  CallsD Tryz.prog 94 #[.pointer (some ⟨Bf,0,none⟩),.pointer (some ⟨Hb,0,none⟩)] u w fun e u' w'=>u'=u/\(e=.returned (.tuple #[])/\Touch (fun b=>b=X) w w'):=by
 have HB:Hid (w.rangeAt Bf 0 cs):=hB
 have HT:Hid (w.there X 4 cs.toArray.size):=by rw [show cs.toArray.size=21 by simp [hl]];exact hT
 have HI:Hid ((Tryz.prog.info? 94).map (·.size)=some cs.length):=by rw [hl];exact infoHis
 have HO:Hid (cs.toArray.all (·.oneCell')=true):=all_oneCell_toArray h1
 clear hB hT h1 hl
 go_enter_d Tryz.func94,Tryz.ntmps94
 go_wp2_with (first|(refine wpList_load_mid rfl 94 (.tmp 0) rfl Bf 0 rfl cs _ HB.out Tryz.underlying94 rfl HI.out ?_)|(refine wpList_store_mid rfl 94 (.tmp 4) (.tmp 3) rfl X 4 cs.toArray rfl rfl HT.out (by simpa using HI.out) HO.out ?_))
 go_end0
 exact ⟨rfl,Touch.sets (P:=fun b=>b=X) rfl _ _ (Touch.refl _ _)⟩
def hisL (ha:Option Addr) (hc:Nat) (y:Hs) (d:Nat->Nat):List Value:=
 [.slice ha y.n hc, .int .i64 (d 0), .int .i64 (d 1), .int .i64 (d 2), .int .i64 (d 3),
  .int .i64 (y.opn d 0 0),.int .i64 (y.opn d 0 1),.int .i64 (y.opn d 0 2),.int .i64 (y.opn d 0 3),.int .i64 (y.opn d 1 0),.int .i64 (y.opn d 1 1),.int .i64 (y.opn d 1 2),.int .i64 (y.opn d 1 3),
  .int .i64 (y.opn d 2 0),.int .i64 (y.opn d 2 1),.int .i64 (y.opn d 2 2),.int .i64 (y.opn d 2 3),.int .i64 (y.opn d 3 0),.int .i64 (y.opn d 3 1),.int .i64 (y.opn d 3 2),.int .i64 (y.opn d 3 3)]
theorem HisP.range {w:World} {X:Nat} {ha:Option Addr} {hc:Nat} {y:Hs} {d:Nat->Nat} (h:HisP w X ha hc y d):w.rangeAt X 4 (hisL ha hc y d):=by
 intro j v hj
 have hl:j<21:=by
  have:=(List.getElem?_eq_some_iff.1 hj).1
  simpa [hisL] using this
 match j,hl,hj with
 | 0,_,hj=>rw [<- hj];exact h.c4
 | 1,_,hj=>rw [<- hj];exact h.pt 0 (by omega)
 | 2,_,hj=>rw [<- hj];exact h.pt 1 (by omega)
 | 3,_,hj=>rw [<- hj];exact h.pt 2 (by omega)
 | 4,_,hj=>rw [<- hj];exact h.pt 3 (by omega)
 | 5,_,hj=>rw [<- hj];exact h.op 0 0 (by omega) (by omega)
 | 6,_,hj=>rw [<- hj];exact h.op 0 1 (by omega) (by omega)
 | 7,_,hj=>rw [<- hj];exact h.op 0 2 (by omega) (by omega)
 | 8,_,hj=>rw [<- hj];exact h.op 0 3 (by omega) (by omega)
 | 9,_,hj=>rw [<- hj];exact h.op 1 0 (by omega) (by omega)
 | 10,_,hj=>rw [<- hj];exact h.op 1 1 (by omega) (by omega)
 | 11,_,hj=>rw [<- hj];exact h.op 1 2 (by omega) (by omega)
 | 12,_,hj=>rw [<- hj];exact h.op 1 3 (by omega) (by omega)
 | 13,_,hj=>rw [<- hj];exact h.op 2 0 (by omega) (by omega)
 | 14,_,hj=>rw [<- hj];exact h.op 2 1 (by omega) (by omega)
 | 15,_,hj=>rw [<- hj];exact h.op 2 2 (by omega) (by omega)
 | 16,_,hj=>rw [<- hj];exact h.op 2 3 (by omega) (by omega)
 | 17,_,hj=>rw [<- hj];exact h.op 3 0 (by omega) (by omega)
 | 18,_,hj=>rw [<- hj];exact h.op 3 1 (by omega) (by omega)
 | 19,_,hj=>rw [<- hj];exact h.op 3 2 (by omega) (by omega)
 | 20,_,hj=>rw [<- hj];exact h.op 3 3 (by omega) (by omega)
theorem hisL_one {ha:Option Addr} {hc:Nat} {y:Hs} {d:Nat->Nat}:∀ v ∈ hisL ha hc y d,v.oneCell'=true:=by
 intro v hv
 simp only [hisL,List.mem_cons,List.not_mem_nil,or_false] at hv
 rcases hv with rfl | rfl | rfl | rfl | rfl | rfl | rfl | rfl | rfl | rfl | rfl | rfl | rfl | rfl | rfl | rfl | rfl | rfl | rfl | rfl | rfl <;> rfl
theorem HisP.thereX {w:World} {X:Nat} {ha:Option Addr} {hc:Nat} {y:Hs} {d:Nat->Nat} (h:HisP w X ha hc y d):w.there X 4 21:=fun j hj=>⟨h.range.isSome j (by simpa [hisL] using hj),h.fr _⟩
theorem sumL_same {d e:Nat->Nat}:∀ {n:Nat},(∀ i,i<n->d i=e i)->sumL d n=sumL e n
 | 0,_=>rfl
 | n+1,h=>by
  show sumL d n+d n=sumL e n+e n
  rw [sumL_same fun i hi=>h i (by omega),h n (by omega)]
theorem sumL_zero:∀ n,sumL (fun _=>0) n=0
 | 0=>rfl
 | n+1=>sumL_zero n
theorem sumL_up {d:Nat->Nat} {k:Nat}:∀ {n:Nat},k<n->sumL (up d k) n=sumL d n+1
 | 0,h=>by omega
 | n+1,h=>by
  show sumL (up d k) n+up d k n=sumL d n+d n+1
  by_cases e:k=n
  ·subst e
   rw [up_same]
   have:sumL (up d k) k=sumL d k:=sumL_same fun i hi=>up_other (by omega)
   omega
  ·rw [sumL_up (by omega),up_other (by omega)]
   omega
theorem sumL_le {d l:Nat->Nat} (h:∀ i,d i<=l i):∀ n,sumL d n<=sumL l n
 | 0=>Nat.le_refl _
 | n+1=>by
  have:=sumL_le h n
  have:=h n
  show sumL d n+d n<=sumL l n+l n
  omega
structure Rw (w0 W wr:World) (X Bf Hb:Nat) (ha:Option Addr) (hc:Nat) (y:Hs) (cs:List Value) (d:Nat->Nat):Prop where
 pu:y.Put d
 hp:HisP wr X ha hc y d
 be:Below w0.heap.size w0 wr
 hb:wr.cell? ⟨Hb,0,none⟩=some (.pointer (some ⟨X,4,none⟩))
 bf:wr.rangeAt Bf 0 cs
theorem rangeAt_touch {P:Nat->Prop} {w w':World} {b o:Nat} {cs:List Value} (h:w.rangeAt b o cs) (t:Touch P w w') (hb:¬ P b):w'.rangeAt b o cs:=fun j v hv=>by
 have:=h j v hv
 rw [t.cell (zJ w _ this) hb]
 exact this
theorem Rw.touch {w0 W wr w':World} {X Bf Hb:Nat} {ha:Option Addr} {hc:Nat} {y:Hs} {cs:List Value} {d d':Nat->Nat} (h:Rw w0 W wr X Bf Hb ha hc y cs d) (t:Touch (fun b=>b=X) wr w') (hX:w0.heap.size<=X) (hB:Bf≠X) (hH:Hb≠X) (pu:y.Put d') (hp:HisP w' X ha hc y d'):Rw w0 W w' X Bf Hb ha hc y cs d':=
 ⟨pu,hp,h.be.trans (t.below h.be.size fun b e=>by omega),(t.cell (zJ wr _ h.hb) hH 0).trans h.hb,rangeAt_touch h.bf t hB⟩
theorem canRow_any (X:Nat) (ha:Option Addr) (hc:Nat) (hA:Nat->Option Addr) (hC:Nat->Nat) (y:Hs) (w0 w:World) (hE:HisE w0 ha hA hC y) (hb:Below w0.heap.size w0 w) (hX:w0.heap.size<=X) (hP:HisP w X ha hc y (fun _=>0)) (h4:y.n<=4) (hp:y.Peers) (hl:∀ i,i<y.n->y.l i<=200):
  Calls Tryz.prog 53 #[.pointer (some ⟨X,4,none⟩)] w fun e w'=>e=.returned (.bool (qB y.Row))/\Below w0.heap.size w0 w':=by
 have HE:Hid (HisE w0 ha hA hC y):=hE
 have HH:Hid (y.Peers/\(∀ i,i<y.n->y.l i<=200)/\w0.heap.size<=X):=⟨hp,hl,hX⟩
 have zX:=hP.lt
 obtain ⟨cs,hcs,hlen,hone⟩:∃ cs,w.rangeAt X 4 cs/\cs.length=21/\∀ v ∈ cs,v.oneCell'=true:=⟨_,hP.range,rfl,hisL_one⟩
 have hsz:cs.toArray.size=21:=by simpa using hlen
 have HL21:Hid (cs.length=21/\∀ v ∈ cs,v.oneCell'=true):=⟨hlen,hone⟩
 have HI:Hid ((Tryz.prog.info? 94).map (·.size)=some cs.length):=by rw [hlen];exact infoHis
 have HR:Hid ((w.alloc (.cells #[.pointer (some ⟨X,4,none⟩)] 132)).rangeAt X 4 cs):=World.rangeAt_alloc hcs _
 have HO:Hid (cs.toArray.all (·.oneCell')=true):=all_oneCell_toArray hone
 have hmf:∀ (fn:Fn) (first cap:Array Value) (w:World),(Instr.makeFunc fn first cap).run Tryz.prog w=.ok (.func fn first cap) w:=fun _ _ _ _=>rfl
 have HT:Hid (((w.alloc (.cells #[.pointer (some ⟨X,4,none⟩)] 132)).alloc (zQ4)).there (w.heap.size+1) 0 cs.toArray.size):=fun j hj=>by
  have hj':j<21:=by rw [<- hsz];exact hj
  refine ⟨?_,yB _ _ _ _ (by simp)⟩
  rw [Nat.zero_add,zW _ _ _ j (by simp),Array.getElem?_eq_getElem (by simpa using hj')]
  rfl
 have tw:Touch (fun b=>b=w.heap.size+1) w (((w.alloc (.cells #[.pointer (some ⟨X,4,none⟩)] 132)).alloc (zQ4)).setCells (w.heap.size+1) 0 cs):=Touch.sets (P:=fun b=>b=w.heap.size+1) rfl _ _ (Touch.of_below ((zT _ _).trans ((zT _ _).mono (by simp))))
 have HRw:Hid (Rw w0 w (((w.alloc (.cells #[.pointer (some ⟨X,4,none⟩)] 132)).alloc (zQ4)).setCells (w.heap.size+1) 0 cs) X (w.heap.size+1) w.heap.size ha hc y cs (fun _=>0)):=by
  refine ⟨.start,hP.blk (tw.block X zX (by omega)),hb.trans (tw.below hb.size fun b e=>by have:=hb.size;omega),?_,World.rangeAt_setCells_same _ _ _ _ (by simpa using HT.out)⟩
  rw [World.cell?_setCells_out _ _ _ _ _ (fun e=>absurd e (by simp)),World.cell?_alloc_lt _ _ _ (by simp)]
  exact zW _ _ _ 0 rfl
 have HX:Hid (X<w.heap.size):=zX
 clear hE hp hl hX tw hb hP zX hlen hsz hcs hone
 go_enter_defers Tryz.func53,Tryz.ntmps53
 have h0:=HRw.out.hb
 go_wp2_with (first|(refine wpList_load_mid rfl 94 (.tmp 6) rfl X 4 rfl cs _ HR.out Tryz.underlying94 rfl HI.out ?_)|(refine wpList_store_mid rfl 94 (.tmp 3) (.tmp 7) rfl (w.heap.size+1) 0 cs.toArray rfl rfl HT.out (by simpa using HI.out) HO.out ?_))
 clear HR HT HI HO
 generalize ((w.alloc (.cells #[.pointer (some ⟨X,4,none⟩)] 132)).alloc (zQ4)).setCells (w.heap.size+1) 0 cs=W1 at *
 have nX:Hid (w.heap.size+1≠X/\w.heap.size≠X):=by
  have:=HX.out
  exact ⟨by omega,by omega⟩
 refine (next_any X ha hc hA hC y (fun _=>0) W1 (HE.out.below HRw.out.be) HRw.out.hp h4 HH.out.1 HH.out.2.1 HRw.out.pu.le).mono ?_
 rintro e w1 ⟨q1,hor⟩
 have HNx:Hid (Rw w0 w w1 X (w.heap.size+1) w.heap.size ha hc y cs (fun _=>0)):=HRw.out.touch (Touch.of_below q1) HH.out.2.2 nX.out.1 nX.out.2 HRw.out.pu (HRw.out.hp.below q1)
 obtain ⟨z,rfl,HOr⟩:∃ z:Int,e=.returned (.int .i64 z)/\Hid ((∃ k,k<y.n/\y.Can (fun _=>0) k/\z=(k:Nat))\/(z = -1/\∀ p,p<y.n->¬ y.Can (fun _=>0) p)):=by
  rcases hor with ⟨k,hk,hcan,rfl⟩ | ⟨rfl,hn⟩
  ·exact ⟨_,rfl,.inl ⟨k,hk,hcan,rfl⟩⟩
  ·exact ⟨_,rfl,.inr ⟨rfl,hn⟩⟩
 clear hor q1 h0 HRw
 go_wp2_with fail
 go_loopg [4] (sumL y.l y.n) (fun k p wr=>∃ d z,k=sumL y.l y.n - sumL d y.n/\p=.int .i64 z/\Rw w0 w wr X (w.heap.size+1) w.heap.size ha hc y cs d/\Hid ((∃ k,k<y.n/\y.Can d k/\z=(k:Nat))\/(z = -1/\∀ p,p<y.n->¬ y.Can d p)))
 case atStart=>exact ⟨_,z,by simp [sumL_zero],rfl,HNx.out,HOr.out⟩
 case round=>
  clear HNx HOr
  obtain ⟨d,zz,hgk,rfl,rw0,HOr⟩:=hrel
  have HRr:Hid (Rw w0 w wr X (w.heap.size+1) w.heap.size ha hc y cs d):=rw0
  have h1:=rw0.hb
  have HG:Hid (gk=sumL y.l y.n - sumL d y.n):=hgk
  clear rw0 hgk
  rcases HOr.out with ⟨k,hk,hcan,rfl⟩ | ⟨rfl,hst⟩
  ·have HCn:Hid (y.Can d k):=hcan
   have hz:¬ (k:Int) = -1:=by omega
   have hz':((k:Int) == -1)=false:=by simp
   clear HOr hcan
   go_wp2_with fail
   refine (putOne_any X ha hc hA hC y d k wr (HE.out.below HRr.out.be) HRr.out.hp h4 hk HH.out.1 HH.out.2.1 HRr.out.pu.le HCn.out.1).mono ?_
   rintro e w1 ⟨rfl,hp1,t1⟩
   have hpu:y.Put (up d k):=.next HRr.out.pu hk HCn.out
   have HN:Hid (Rw w0 w w1 X (w.heap.size+1) w.heap.size ha hc y cs (up d k)):=HRr.out.touch t1 HH.out.2.2 nX.out.1 nX.out.2 hpu hp1
   have HM:Hid (sumL y.l y.n - sumL (up d k) y.n<gk):=by
    have h2:=sumL_up (d:=d) hk
    have h3:=sumL_le hpu.le y.n
    have h4:=HG.out
    show sumL y.l y.n - sumL (up d k) y.n<gk
    omega
   clear hp1 t1 hpu h1 HRr HG hz hz'
   generalize up d k=d2 at *
   have h1:=HN.out.hb
   go_wp2_with fail
   refine (next_any X ha hc hA hC y d2 w1 (HE.out.below HN.out.be) HN.out.hp h4 HH.out.1 HH.out.2.1 HN.out.pu.le).mono ?_
   rintro e w2 ⟨q2,hor⟩
   have HN2:Hid (Rw w0 w w2 X (w.heap.size+1) w.heap.size ha hc y cs d2):=HN.out.touch (Touch.of_below q2) HH.out.2.2 nX.out.1 nX.out.2 HN.out.pu (HN.out.hp.below q2)
   obtain ⟨z,rfl,HOr⟩:∃ z:Int,e=.returned (.int .i64 z)/\Hid ((∃ k,k<y.n/\y.Can d2 k/\z=(k:Nat))\/(z = -1/\∀ p,p<y.n->¬ y.Can d2 p)):=by
    rcases hor with ⟨k,hk,hcan,rfl⟩ | ⟨rfl,hn⟩
    ·exact ⟨_,rfl,.inl ⟨k,hk,hcan,rfl⟩⟩
    ·exact ⟨_,rfl,.inr ⟨rfl,hn⟩⟩
   clear hor q2 h1 HN
   go_wp2
   go_roundg (sumL y.l y.n - sumL d2 y.n)
   case measure=>exact HM.out
   case rel=>exact ⟨d2,z,rfl,rfl,HN2.out,HOr.out⟩
  ·have HRow:Hid (qB (y.All d)=qB y.Row):=by
    show qB (y.All d)=qB y.Row
    have hi:=Hs.row_iff HRr.out.pu HH.out.1 hst
    by_cases hr:y.Row
    ·rw [qB_true hr,qB_true (hi.1 hr)]
    ·rw [qB_false hr,qB_false (fun h=>hr (hi.2 h))]
   have HN:Hid (Rw w0 w wr X (w.heap.size+1) w.heap.size ha hc y cs d):=HRr.out
   clear hst HG HOr HRr
   go_wp2_with fail
   refine (allPut_any X ha hc hA hC y d wr (HE.out.below HN.out.be) HN.out.hp h4 HH.out.2.1 HN.out.pu.le).mono ?_
   rintro e w2 ⟨rfl,b2⟩
   rw [HRow.out]
   have B2:Hid (Below wr.heap.size wr w2):=b2
   clear b2 h1
   have HB2:Hid (Below w0.heap.size w0 w2/\w2.rangeAt (w.heap.size+1) 0 cs/\w2.there X 4 21/\w2.cell? ⟨w.heap.size,0,none⟩=some (.pointer (some ⟨X,4,none⟩))):=
    ⟨HN.out.be.trans (B2.out.mono HN.out.be.size),rangeAt_touch (P:=fun _=>False) HN.out.bf (Touch.of_below B2.out) (fun h=>h),(HN.out.hp.below B2.out).thereX,(B2.out.cell (p:=⟨w.heap.size,0,none⟩) (zJ wr _ HN.out.hb)).trans HN.out.hb⟩
   go_wp2
   refine leaves_cons (f:=94) (args:=#[.pointer (some ⟨w.heap.size+1,0,none⟩),.pointer (some ⟨w.heap.size,0,none⟩)]) (by simp) (by simp [go_sem]) ?_
   refine (rowBack X (w.heap.size+1) w.heap.size w2 cs HL21.out.1 HL21.out.2 HB2.out.2.1 HB2.out.2.2.1 HB2.out.2.2.2 .returning).mono ?_
   rintro e u' w3 ⟨rfl,rfl,t3⟩
   exact ⟨_,results_tmp rfl _ _ _,rfl,HB2.out.1.trans (t3.below HB2.out.1.size fun b e=>by have:=HH.out.2.2;omega)⟩
theorem sumL_all {d l:Nat->Nat} (h:∀ i,d i<=l i) (n:Nat) (e:sumL d n=sumL l n) (p:Nat) (hp:p<n):d p=l p:=by
 induction n with
 | zero=>omega
 | succ n ih=>
  have h1:=sumL_le h n
  have h2:=h n
  have e':sumL d n+d n=sumL l n+l n:=e
  by_cases hpn:p=n
  ·subst hpn
   omega
  ·exact ih (by omega) (by omega)
structure OrdB (w:World) (D n:Nat) (d:Nat->Nat):Prop where
 c:∀ i,i<n->w.cell? ⟨D,i,none⟩=some (.int .i64 (d i))
 fr:∀ j,w.frozen? ⟨D,j,none⟩=false
theorem OrdB.blk {w w':World} {D n:Nat} {d:Nat->Nat} (h:OrdB w D n d) (hb:w'.heap[D]? = w.heap[D]?):OrdB w' D n d:=⟨fun i hi=>(zH hb).trans (h.c i hi),fun j=>(zI hb).trans (h.fr j)⟩
theorem OrdB.put {w:World} {D n k:Nat} {d:Nat->Nat} (h:OrdB w D n d) (hk:k<n):OrdB (w.setCell ⟨D,k,none⟩ (.int .i64 ((d k:Int)+1))) D n (up d k):=by
 refine ⟨fun i hi=>?_,fun j=>by rw [World.frozen?_setCell];exact h.fr j⟩
 by_cases e:i=k
 ·subst e
  rw [World.cell?_setCell_same' _ _ _ (by rw [h.c i hi];rfl),up_same]
  rfl
 ·rw [World.cell?_setCell_other _ _ _ _ (by intro e';injection e' with _ e';exact e e'.symm),up_other e]
  exact h.c i hi
structure Od (w wr:World) (B D:Nat) (ha:Option Addr) (hc:Nat) (y:Hs) (d:Nat->Nat):Prop where
 pu:y.Put d
 od:OrdB wr D y.n d
 bx:wr.cell? ⟨B,3,none⟩=some (.slice ha y.n hc)
 be:Below w.heap.size w wr
theorem Od.below {w wr w':World} {B D:Nat} {ha:Option Addr} {hc:Nat} {y:Hs} {d:Nat->Nat} (h:Od w wr B D ha hc y d) (hb:Below wr.heap.size wr w') (hD:D<wr.heap.size):Od w w' B D ha hc y d:=
 ⟨h.pu,h.od.blk (hb.block D hD),(hb.cell (p:=⟨B,3,none⟩) (zJ wr _ h.bx)).trans h.bx,h.be.trans (hb.mono h.be.size)⟩
theorem Od.set {w wr:World} {B D k:Nat} {ha:Option Addr} {hc:Nat} {y:Hs} {d:Nat->Nat} (h:Od w wr B D ha hc y d) (hk:k<y.n) (hcan:y.Can d k) (hBD:B≠D) (hw:w.heap.size<=D):Od w (wr.setCell ⟨D,k,none⟩ (.int .i64 ((d k:Int)+1))) B D ha hc y (up d k):=
 ⟨.next h.pu hk hcan,h.od.put hk,(World.cell?_setCell_other _ _ _ _ (by intro e;injection e with e;exact hBD e.symm)).trans h.bx,h.be.setCell hw _⟩
theorem madeInt_cell (w:World) (n i:Nat) (hi:i<n):(w.alloc (.cells (madeCells #[.int .i64 0] n) 3)).cell? ⟨w.heap.size,i,none⟩=some (.int .i64 0):=by
 rw [zW _ _ _ i rfl]
 simp [madeCells,hi,Nat.mod_one]
theorem slice_to (a:Option Addr) (len cap h:Nat) (hh:h<=cap) (w:World):(Instr.slice 63 (.slice a len cap) none (some (.int .i64 (h:Int))) none).run Tryz.prog w=.ok (.slice a h cap) w:=by
 have hh':(h:Int)<=(cap:Int):=by omega
 cases a with
 | none=>simp [go_sem,sliced,hh']
 | some a=>simp [go_sem,sliced,hh']
theorem l4Order_any (pa:Option Addr) (pn pc:Nat) (sa:Option Addr) (sn sc:Nat) (wa:Option Addr) (wn wc:Nat) (ha:Option Addr) (hc:Nat) (hA:Nat->Option Addr) (hC:Nat->Nat) (y:Hs) (w:World) (hE:HisE w ha hA hC y) (hcap:∀ i,i<y.n->y.l i<=hC i) (h1:1<=y.n) (h4:y.n<=4) (hp:y.Peers) (hl:∀ i,i<y.n->y.l i<=200):
  Calls Tryz.prog 83 #[sysV pa pn pc sa sn sc wa wn wc ha y.n hc] w fun e w'=>e=.returned (.bool (qB y.Row))/\Below w.heap.size w w':=by
 have HE:Hid (HisE w ha hA hC y):=hE
 have HH:Hid (y.Peers/\(∀ i,i<y.n->y.l i<=200)/\(∀ i,i<y.n->y.l i<=hC i)):=⟨hp,hl,hcap⟩
 have hn4:(y.n:Int)<=4:=by omega
 have hmk:∀ wx:World,(Instr.makeSlice 70 (.int .i64 (y.n:Int)) (.int .i64 (y.n:Int))).run Tryz.prog wx=.ok (.slice (some ⟨wx.heap.size,0,none⟩) y.n y.n) (wx.alloc (.cells (madeCells #[.int .i64 0] y.n) 3)):=fun wx=>run_make_int y.n (by omega) wx
 have HOd:Hid (Od w ((w.alloc (oQ4 pa pn pc sa sn sc wa wn wc ha y.n hc)).alloc (.cells (madeCells #[.int .i64 0] y.n) 3)) w.heap.size (w.heap.size+1) ha hc y (fun _=>0)):=by
  refine ⟨.start,⟨fun i hi=>?_,fun j=>yB _ _ _ _ (by simp)⟩,?_,(zT _ _).trans ((zT _ _).mono (by simp))⟩
  ·have:=madeInt_cell (w.alloc (oQ4 pa pn pc sa sn sc wa wn wc ha y.n hc)) y.n i hi
   rw [World.size_alloc] at this
   exact this
  ·exact ((BoxC.new w _ _ _ _ _).below (zT _ _)).2.2.2
 have HD:Hid (w.heap.size+1<((w.alloc (oQ4 pa pn pc sa sn sc wa wn wc ha y.n hc)).alloc (.cells (madeCells #[.int .i64 0] y.n) 3)).heap.size):=by
  show w.heap.size+1<_
  simp
 clear hE hp hl hcap
 go_enter Tryz.func83,Tryz.ntmps83
 go_wp2_with fail
 generalize (w.alloc (oQ4 pa pn pc sa sn sc wa wn wc ha y.n hc)).alloc (.cells (madeCells #[.int .i64 0] y.n) 3)=W1 at *
 generalize hD:w.heap.size+1=D at *
 have HDW:Hid (w.heap.size+1=D):=hD
 clear hmk hD
 go_loopw [6,7] (fun s i wr=>∃ k:Nat,k<=y.n/\i=.int .i64 k/\s=.int .i64 (sumL y.l k:Nat)/\wr=W1) (fun _ i _=>y.n - (intOf i).toNat)
 case atStart=>exact ⟨0,Nat.zero_le _,rfl,rfl,rfl⟩
 case round=>
  obtain ⟨k,hk,rfl,rfl,rfl⟩:=hrel
  have hsum:sumL y.l k<=200*k:=by
   have:∀ j,j<=y.n->sumL y.l j<=200*j:=by
    intro j
    induction j with
    | zero=>exact fun _=>Nat.le_refl _
    | succ j ih=>
     intro hj
     have h5:=ih (by omega)
     have h6:=HH.out.2.1 j (by omega)
     show sumL y.l j+y.l j<=200*(j+1)
     omega
   exact this k hk
  have hsum':((sumL y.l k:Nat):Int)<=1000:=by omega
  have b3:=HOd.out.bx
  by_cases hlt:k<y.n
  ·have hlt':(k:Int)<(y.n:Int):=by omega
   obtain ⟨bh,oh,eh,ch⟩:=(HE.out.below HOd.out.be).row.at hlt
   rw [eh] at b3
   have hl2:(y.l k:Int)<=200:=by have:=HH.out.2.1 k hlt;omega
   clear hsum
   go_wp2
   go_roundw
   case rel=>exact ⟨k+1,by omega,by go_num,by simp only [sumL];congr 1,by first | rfl | trivial⟩
   case measure=>simp [intOf];omega
  ·have hkn:k=y.n:=by omega
   subst hkn
   clear hlt hk hsum b3
   have hlt':¬ ((y.n:Int)<(y.n:Int)):=by omega
   have hsumI:∀ d:Nat->Nat,y.Put d->((sumL y.l y.n:Nat):Int) - ((sumL d y.n:Nat):Int)=((sumL y.l y.n - sumL d y.n:Nat):Int):=fun d hd=>by
    have:=sumL_le hd.le y.n
    omega
   have HSI:Hid (∀ d:Nat->Nat,y.Put d->((sumL y.l y.n:Nat):Int) - ((sumL d y.n:Nat):Int)=((sumL y.l y.n - sumL d y.n:Nat):Int)):=hsumI
   have HSM:Hid (((sumL y.l y.n:Nat):Int)<=1000):=hsum'
   clear hsumI hsum'
   go_wp2_with fail
   go_loopg [5,6] (2*(sumL y.l y.n)+1) (fun gn m s wr=>∃ (t:Bool) (d:Nat->Nat),m=.bool t/\s=.int .i64 ((sumL y.l y.n - sumL d y.n:Nat):Int)/\gn=2*(sumL y.l y.n - sumL d y.n)+(if t=true then 1 else 0)/\Hid (Od w wr w.heap.size D ha hc y d/\D<wr.heap.size/\(t=false->∀ p,p<y.n->¬ y.Can d p)))
   case atStart=>exact ⟨true,fun _=>0,rfl,by rw [sumL_zero];rfl,by rw [sumL_zero];rfl,HOd.out,HD.out,fun h=>by cases h⟩
   case round=>
    clear HOd HD
    obtain ⟨t,d,rfl,rfl,hgn,HI⟩:=hrel
    rcases zK t with rfl | rfl
    ·have HGN:Hid (gk=2*(sumL y.l y.n - sumL d y.n)+1):=hgn
     clear hgn
     go_wp2_with fail
     go_loopw [5,6,8] (fun m s i wr=>∃ (k:Nat) (t':Bool) (d':Nat->Nat),k<=y.n/\i=.int .i64 k/\m=.bool t'/\s=.int .i64 ((sumL y.l y.n - sumL d' y.n:Nat):Int)/\Hid (Od w wr w.heap.size D ha hc y d'/\D<wr.heap.size/\(t'=true->sumL d y.n<sumL d' y.n)/\(t'=false->d'=d/\∀ p,p<k->¬ y.Can d p))) (fun _ _ i _=>y.n - (intOf i).toNat)
     case atStart=>exact ⟨0,false,d,Nat.zero_le _,rfl,rfl,rfl,HI.out.1,HI.out.2.1,(fun h=>by cases h),fun _=>⟨rfl,fun p hp=>by omega⟩⟩
     case round=>
      clear HI
      obtain ⟨k,t',d',hk,rfl,rfl,rfl,HJ⟩:=hrel
      by_cases hlt:k<y.n
      ·have hlt':(k:Int)<(y.n:Int):=by omega
       have hdk:d' k<=y.l k:=HJ.out.1.pu.le k
       have hl2:(y.l k:Int)<=200:=by have:=HH.out.2.1 k hlt;omega
       have dk:=HJ.out.1.od.c k hlt
       have b3:=HJ.out.1.bx
       obtain ⟨bh,oh,eh,ch⟩:=(HE.out.below HJ.out.1.be).row.at hlt
       rw [eh] at b3
       by_cases he:d' k=y.l k
       ·have HNo:Hid (¬ y.Can d' k):=fun h=>by have:=h.1;omega
        have HJ' : ∀ nq, Hid (Od w (wr.drewN nq) w.heap.size D ha hc y d' ∧ D < (wr.drewN nq).heap.size ∧ (t' = true → sumL d y.n < sumL d' y.n) ∧ (t' = false → d' = d ∧ ∀ p, p < k + 1 → ¬ y.Can d p)) := fun nq => ⟨HJ.out.1.below (yC (Below.refl _ _) _) HJ.out.2.1, HJ.out.2.1, HJ.out.2.2.1, fun h => ⟨(HJ.out.2.2.2 h).1, fun p hp => by
         have h5:=HJ.out.2.2.2 h
         by_cases e:p=k
         ·subst e
          rw [<- h5.1]
          exact HNo.out
         ·exact h5.2 p (by omega)⟩⟩
        rw [he] at dk
        have HJQ:Hid (∀ nq,Hid (Od w (wr.drewN nq) w.heap.size D ha hc y d'/\D<(wr.drewN nq).heap.size/\(t'=true->sumL d y.n<sumL d' y.n)/\(t'=false->d'=d/\∀ p,p<k+1->¬ y.Can d p))):=HJ'
        clear HJ HJ' he hdk
        go_wp2_with fail
        go_quiet (fail)
        go_wp2
        go_roundw
        case rel=>exact ⟨k+1,t',d',by omega,by go_num,rfl,rfl,HJQ.out _⟩
        case measure=>simp [intOf];omega
       ·have hkl:d' k<y.l k:=by omega
        have hkl':(d' k:Int)<(y.l k:Int):=by omega
        have hne:((d' k:Int) == (y.l k:Int))=false:=by
         have:¬ (d' k:Int)=(y.l k:Int):=by omega
         simpa using this
        clear he hdk
        go_wp2_with fail
        go_quiet (fail)
        go_wp2_with fail
        have OD:Hid (Od w (wr.drewN nq) w.heap.size D ha hc y d'/\D<(wr.drewN nq).heap.size/\(t'=true->sumL d y.n<sumL d' y.n)/\(t'=false->d'=d/\∀ p,p<k->¬ y.Can d p)):=⟨HJ.out.1.below (yC (Below.refl _ _) _) HJ.out.2.1,HJ.out.2.1,HJ.out.2.2⟩
        clear HJ dk b3 ch
        generalize wr.drewN nq=wd at *
        have dk:=OD.out.1.od.c k hlt
        have b3:=OD.out.1.bx
        obtain ⟨bh',oh',eh',ch⟩:=(HE.out.below OD.out.1.be).row.at hlt
        rw [eh'] at b3
        obtain ⟨b,off,ea,zb,e0,e1,e2⟩:=((HE.out.below OD.out.1.be).ev k hlt).at hkl
        rw [ea] at ch
        have n1:wd.heap.size≠D:=by have:=OD.out.2.1;omega
        have n2:wd.heap.size≠b:=by omega
        have n3:wd.heap.size≠bh':=by have:=zJ wd _ ch;simp at this;omega
        have dk':=cell_allocs dk
        have b3':=cell_allocs b3
        have ch':=cell_allocs ch
        have e0':=cell_allocs e0
        have e1':=cell_allocs e1
        have e2':=cell_allocs e2
        clear zb
        go_region
        all_goals
         have OZ:Hid (Od w (wd.alloc (oQ0 (y.e k (d' k)).k (y.e k (d' k)).q (y.e k (d' k)).v)).drew w.heap.size D ha hc y d'/\D<(wd.alloc (oQ0 (y.e k (d' k)).k (y.e k (d' k)).q (y.e k (d' k)).v)).drew.heap.size/\(t'=true->sumL d y.n<sumL d' y.n)/\(t'=false->d'=d/\∀ p,p<k->¬ y.Can d p)):=⟨OD.out.1.below (zT _ _).drew OD.out.2.1,zL OD.out.2.1 (zT _ _).drew.size,OD.out.2.2⟩
         have z0:(wd.alloc (oQ0 (y.e k (d' k)).k (y.e k (d' k)).q (y.e k (d' k)).v)).drew.cell? ⟨wd.heap.size,0,none⟩=some (.int .i64 (y.e k (d' k)).k):=zW wd _ _ 0 rfl
         have z1:(wd.alloc (oQ0 (y.e k (d' k)).k (y.e k (d' k)).q (y.e k (d' k)).v)).drew.cell? ⟨wd.heap.size,1,none⟩=some (.int .i64 (y.e k (d' k)).q):=zW wd _ _ 1 rfl
         go_wp2_with fail
         clear dk b3 ch e0 e1 e2 dk' b3' ch' e0' e1' e2' n1 n2 n3 OD eh eh' ea
         generalize (wd.alloc (oQ0 (y.e k (d' k)).k (y.e k (d' k)).q (y.e k (d' k)).v)).drew=wz at *
         generalize wd.heap.size=M at *
         rcases zK ((y.e k (d' k)).k == 3) with t3 | t3
         case inr=>
          have HK3:Hid (¬ (y.e k (d' k)).k=3):=by
           show ¬ (y.e k (d' k)).k=3
           simpa using t3
          go_quiet (fail)
          have OQ:Hid (Od w (wz.drewN nq) w.heap.size D ha hc y d'/\D<(wz.drewN nq).heap.size/\(t'=true->sumL d y.n<sumL d' y.n)/\(t'=false->d'=d/\∀ p,p<k->¬ y.Can d p)):=⟨OZ.out.1.below (yC (Below.refl _ _) _) OZ.out.2.1,OZ.out.2.1,OZ.out.2.2⟩
          clear z0 z1 OZ
          generalize wz.drewN nq=wq at *
          have HCn:Hid (y.Can d' k):=⟨hkl,fun h=>absurd h HK3.out⟩
          have HPu:Hid (y.Put (up d' k)):=.next OQ.out.1.pu hlt HCn.out
          have hsu:=sumL_up (d:=d') hlt
          have hsl:=sumL_le HPu.out.le y.n
          have HLE:Hid (((sumL y.l y.n - sumL d' y.n:Nat):Int) - 1=((sumL y.l y.n - sumL (up d' k) y.n:Nat):Int)):=by
           show ((sumL y.l y.n - sumL d' y.n:Nat):Int) - 1=((sumL y.l y.n - sumL (up d' k) y.n:Nat):Int)
           omega
          have hA1:((sumL y.l y.n - sumL d' y.n:Nat):Int)<=1000:=by have:=HSM.out;omega
          have hA0:(1:Int)<=((sumL y.l y.n - sumL d' y.n:Nat):Int):=by omega
          have HNx : Hid (Od w (wq.setCell ⟨D, k, none⟩ (.int .i64 ((d' k : Int) + 1))) w.heap.size D ha hc y (up d' k) ∧ D < (wq.setCell ⟨D, k, none⟩ (.int .i64 ((d' k : Int) + 1))).heap.size ∧ (true = true → sumL d y.n < sumL (up d' k) y.n) ∧ (true = false → up d' k = d ∧ ∀ p, p < k + 1 → ¬ y.Can d p)) := ⟨OQ.out.1.set hlt HCn.out (by have := HDW.out; omega) (by have := HDW.out; omega), by simpa [World.setCell] using OQ.out.2.1, (fun _ => by
           rcases zK t' with h5 | h5
           ·have:=OQ.out.2.2.1 h5
            omega
           ·have:=(OQ.out.2.2.2 h5).1
            rw [this] at hsu ⊢
            omega),(fun h=>by cases h)⟩
          have dkq:=OQ.out.1.od.c k hlt
          have frq:=OQ.out.1.od.fr
          clear hsu hsl OQ
          generalize hAA:((sumL y.l y.n - sumL d' y.n:Nat):Int)=AA at *
          clear hAA
          go_wp2
          go_roundw
          case rel=>exact ⟨k+1,true,up d' k,by omega,by go_num,rfl,by rw [HLE.out],HNx.out⟩
          case measure=>simp [intOf];omega
         case inl=>
          have hk3:(y.e k (d' k)).k=3:=by simpa using t3
          have HK3:Hid ((y.e k (d' k)).k=3):=hk3
          have hq:=HH.out.1 k hlt (d' k) hkl
          obtain ⟨q,hqe⟩:∃ q:Nat,(y.e k (d' k)).q=(q:Int):=⟨(y.e k (d' k)).q.toNat,by omega⟩
          have HQE:Hid ((y.e k (d' k)).q=(q:Int)):=hqe
          have hqn:q<y.n:=by omega
          have hqn':(q:Int)<(y.n:Int):=by omega
          rw [hk3] at z0
          rw [hqe] at z1
          have dk:=OZ.out.1.od.c k hlt
          have dq:=OZ.out.1.od.c q hqn
          have b3:=OZ.out.1.bx
          obtain ⟨bz,oz,ez,ch⟩:=(HE.out.below OZ.out.1.be).row.at hlt
          obtain ⟨bz',oz',ez',cq⟩:=(HE.out.below OZ.out.1.be).row.at hqn
          rw [ez] at b3 ez'
          simp only [Option.some.injEq,Addr.mk.injEq] at ez'
          obtain ⟨rfl,rfl,-⟩:=ez'
          have ks:=slice_to (hA k) (y.l k) (hC k) (d' k) (by have:=HH.out.2.2 k hlt;omega)
          have qs:=slice_to (hA q) (y.l q) (hC q) (d' q) (by have:=HH.out.2.2 q hqn;have:=OZ.out.1.pu.le q;omega)
          have HCk:Hid (∀ dd os,Calls Tryz.prog 121 #[.slice (hA k) (d' k) (hC k),.int .i64 3,.int .i64 q] (grow (redrawn wz dd) os) fun e w'=>e=.returned (.int .i64 (cnt (y.e k) 3 q (d' k):Nat))/\Below (grow (redrawn wz dd) os).heap.size (grow (redrawn wz dd) os) w'):=fun dd os=>specCount_l (hA k) (d' k) (hC k) (y.e k) 3 q _ (by have:=HH.out.2.1 k hlt;omega) (((HE.out.below OZ.out.1.be).below (below_regrown wz dd os)).ev k hlt |>.take (by omega))
          have HCq:Hid (∀ dd os,Calls Tryz.prog 121 #[.slice (hA q) (d' q) (hC q),.int .i64 2,.int .i64 k] (grow (redrawn wz dd) os) fun e w'=>e=.returned (.int .i64 (cnt (y.e q) 2 k (d' q):Nat))/\Below (grow (redrawn wz dd) os).heap.size (grow (redrawn wz dd) os) w'):=fun dd os=>specCount_l (hA q) (d' q) (hC q) (y.e q) 2 k _ (by have:=HH.out.2.1 q hqn;have:=OZ.out.1.pu.le q;omega) (((HE.out.below OZ.out.1.be).below (below_regrown wz dd os)).ev q hqn |>.take (OZ.out.1.pu.le q))
          have z0':=cell_regrown z0
          have z1':=cell_regrown z1
          have dk':=cell_regrown dk
          have dq':=cell_regrown dq
          have b3':=cell_regrown b3
          have ch':=cell_regrown ch
          have cq':=cell_regrown cq
          clear ez hq hqe hk3 t3
          refine wp_region_quiet_below (by kernel_rfl) (by kernel_rfl) ?_
          repeat (quiet_step (first|(go_at_call_of 121 (hA k);exact Calls.regrown_of (HCk.out _ _))|(go_at_call_of 121 (hA q);exact Calls.regrown_of (HCq.out _ _))))
          refine wpQuiet_nil ?_
          intro _ hw'
          obtain ⟨⟨dd,os⟩,hw''⟩:=hw'
          subst hw''
          have OQ:Hid (Od w (grow (redrawn wz dd) os) w.heap.size D ha hc y d'/\D<(grow (redrawn wz dd) os).heap.size/\(t'=true->sumL d y.n<sumL d' y.n)/\(t'=false->d'=d/\∀ p,p<k->¬ y.Can d p)):=⟨OZ.out.1.below (below_regrown wz dd os) OZ.out.2.1,zL OZ.out.2.1 (below_regrown wz dd os).size,OZ.out.2.2⟩
          clear z0' z1' dk' dq' b3' ch' cq' z0 z1 dk dq b3 ch cq ks qs HCk HCq OZ
          generalize grow (redrawn wz dd) os=wq at *
          have HCan:Hid (y.Can d' k ↔ cnt (y.e k) 3 q (d' k)<cnt (y.e q) 2 k (d' q)):=by
           show y.Can d' k ↔ _
           unfold Hs.Can
           rw [HQE.out]
           rw [show ((q:Int)).toNat=q by omega]
           exact ⟨fun h=>h.2 HK3.out,fun h=>⟨hkl,fun _=>h⟩⟩
          generalize cnt (y.e k) 3 q (d' k)=c1 at *
          generalize cnt (y.e q) 2 k (d' q)=c2 at *
          by_cases hcc:(c2:Int)<=(c1:Int)
          ·have HNo:Hid (¬ y.Can d' k):=fun h=>by have:=HCan.out.1 h;omega
           have HJ2 : Hid (Od w wq w.heap.size D ha hc y d' ∧ D < wq.heap.size ∧ (t' = true → sumL d y.n < sumL d' y.n) ∧ (t' = false → d' = d ∧ ∀ p, p < k + 1 → ¬ y.Can d p)) := ⟨OQ.out.1, OQ.out.2.1, OQ.out.2.2.1, fun h => ⟨(OQ.out.2.2.2 h).1, fun p hp => by
            have h5:=OQ.out.2.2.2 h
            by_cases e:p=k
            ·subst e
             rw [<- h5.1]
             exact HNo.out
            ·exact h5.2 p (by omega)⟩⟩
           clear OQ HCan
           go_wp2
           go_roundw
           case rel=>exact ⟨k+1,t',d',by omega,by go_num,rfl,rfl,HJ2.out⟩
           case measure=>simp [intOf];omega
          ·have HCx:Hid (y.Can d' k):=HCan.out.2 (by omega)
           clear HCan
           have HCn:Hid (y.Can d' k):=HCx.out
           have HPu:Hid (y.Put (up d' k)):=.next OQ.out.1.pu hlt HCn.out
           have hsu:=sumL_up (d:=d') hlt
           have hsl:=sumL_le HPu.out.le y.n
           have HLE:Hid (((sumL y.l y.n - sumL d' y.n:Nat):Int) - 1=((sumL y.l y.n - sumL (up d' k) y.n:Nat):Int)):=by
            show ((sumL y.l y.n - sumL d' y.n:Nat):Int) - 1=((sumL y.l y.n - sumL (up d' k) y.n:Nat):Int)
            omega
           have hA1:((sumL y.l y.n - sumL d' y.n:Nat):Int)<=1000:=by have:=HSM.out;omega
           have hA0:(1:Int)<=((sumL y.l y.n - sumL d' y.n:Nat):Int):=by omega
           have HNx : Hid (Od w (wq.setCell ⟨D, k, none⟩ (.int .i64 ((d' k : Int) + 1))) w.heap.size D ha hc y (up d' k) ∧ D < (wq.setCell ⟨D, k, none⟩ (.int .i64 ((d' k : Int) + 1))).heap.size ∧ (true = true → sumL d y.n < sumL (up d' k) y.n) ∧ (true = false → up d' k = d ∧ ∀ p, p < k + 1 → ¬ y.Can d p)) := ⟨OQ.out.1.set hlt HCn.out (by have := HDW.out; omega) (by have := HDW.out; omega), by simpa [World.setCell] using OQ.out.2.1, (fun _ => by
            rcases zK t' with h5 | h5
            ·have:=OQ.out.2.2.1 h5
             omega
            ·have:=(OQ.out.2.2.2 h5).1
             rw [this] at hsu ⊢
             omega),(fun h=>by cases h)⟩
           have dkq:=OQ.out.1.od.c k hlt
           have frq:=OQ.out.1.od.fr
           clear hsu hsl OQ
           generalize hAA:((sumL y.l y.n - sumL d' y.n:Nat):Int)=AA at *
           clear hAA
           go_wp2
           go_roundw
           case rel=>exact ⟨k+1,true,up d' k,by omega,by go_num,rfl,by rw [HLE.out],HNx.out⟩
           case measure=>simp [intOf];omega
      ·have hkn:k=y.n:=by omega
       subst hkn
       have HF:Hid (2*(sumL y.l y.n - sumL d' y.n)+(if t'=true then 1 else 0)<gk):=by
        have h2:=HGN.out
        have h3:=sumL_le HJ.out.1.pu.le y.n
        show _<gk
        cases t' with
        | true=>
         have h4:=HJ.out.2.2.1 rfl
         simp only [if_true]
         omega
        | false=>
         have h4:=(HJ.out.2.2.2 rfl).1
         rw [h4]
         simp only [Bool.false_eq_true,if_false]
         omega
       have HG2 : Hid (Od w wr w.heap.size D ha hc y d' ∧ D < wr.heap.size ∧ (t' = false → ∀ p, p < y.n → ¬ y.Can d' p)) := ⟨HJ.out.1, HJ.out.2.1, fun h p hp => by
        have:=HJ.out.2.2.2 h
        rw [this.1]
        exact this.2 p hp⟩
       clear HJ
       go_wp2
       go_roundg (2*(sumL y.l y.n - sumL d' y.n)+(if t'=true then 1 else 0))
       case measure=>exact HF.out
       case rel=>exact ⟨t',d',rfl,rfl,rfl,HG2.out⟩
    ·have HR:Hid ((((sumL y.l y.n - sumL d y.n:Nat):Int) == 0)=qB y.Row):=by
      show (((sumL y.l y.n - sumL d y.n:Nat):Int) == 0)=qB y.Row
      have hi:=Hs.row_iff HI.out.1.pu HH.out.1 (HI.out.2.2 rfl)
      have hle:=HI.out.1.pu.le
      by_cases hr:y.Row
      ·have:sumL d y.n=sumL y.l y.n:=sumL_same fun i hi'=>hi.1 hr i hi'
       rw [qB_true hr,this]
       simp
      ·rw [qB_false hr]
       have:sumL y.l y.n - sumL d y.n≠0:=fun e=>hr (hi.2 (sumL_all hle _ (by have:=sumL_le hle y.n;omega)))
       have h2:((sumL y.l y.n - sumL d y.n:Nat):Int)≠0:=by omega
       simpa using h2
     have HB:Hid (Below w.heap.size w wr):=HI.out.1.be
     clear HI hgn
     go_wp2
     go_ret
     rw [HR.out]
     exact ⟨rfl,HB.out⟩
structure Sy.Sm (y:Sy):Prop where
 n:y.pn<=16/\y.sn<=16/\y.wn<=16/\y.hn<=16
 p:∀ i,i<y.pn->y.pL i<=1000
 s:∀ i,i<y.sn->(y.sS i).rs.length<=1000/\(y.sS i).os.length<=1000
 w:∀ i,i<y.wn->y.wL i<=1000
 h:∀ i,i<y.hn->y.hL i<=1000
theorem okS_len {n:Nat} {S:S4} (h:OkS n S):S.rs.length<=60/\S.os.length<=60:=by
 obtain ⟨⟨r0,r1,r2,r3,e,-⟩,-,h60,-⟩:=st_parts h
 exact ⟨by rw [e];simp,h60⟩
theorem Sy.Ok.bds {y:Sy} (h:y.Ok):(∀ i,i<y.pn->y.pL i<=30)/\(∀ i,i<y.sn->OkS (y.pL i) (y.sS i))/\(∀ i,i<y.wn->y.wL i<=12)/\(∀ i,i<y.hn->y.hL i<=200):=by
 obtain ⟨⟨h1,h4⟩,hs,hh,hw⟩:=h.cn
 refine ⟨fun i hi=>?_,fun i hi=>h.st (by omega),fun i hi=>?_,fun i hi=>h.le200 (by omega)⟩
 ·have h1:=h.four hi
  simp only [progOkB,Bool.and_eq_true,inB,decide_eq_true_eq] at h1
  have:=h1.2.1
  omega
 ·rw [hw] at hi
  have ha:i / y.pn<y.pn:=Nat.div_lt_of_lt_mul hi
  have hb:i % y.pn<y.pn:=Nat.mod_lt _ (by omega)
  have e:i / y.pn*y.pn+i % y.pn=i:=by rw [Nat.mul_comm];exact Nat.div_add_mod i y.pn
  have:=h.way ha hb
  rw [e] at this
  exact this
theorem Sy.Ok.sm {y:Sy} (h:y.Ok):y.Sm:=by
 obtain ⟨⟨h1,h4⟩,hs,hh,hw⟩:=h.cn
 obtain ⟨b1,b2,b3,b4⟩:=h.bds
 have h16:y.pn*y.pn<=16:=zP (Nat.mul_le_mul h4 h4) (by omega)
 exact ⟨⟨by omega,by omega,by omega,by omega⟩,fun i hi=>by have:=b1 i hi;omega,fun i hi=>by have:=okS_len (b2 i hi);omega,fun i hi=>by have:=b3 i hi;omega,fun i hi=>by have:=b4 i hi;omega⟩
theorem rp_congr {g:Nat->I5} {len:Nat} {eh eh':Nat->E3}:∀ {k:Nat},(∀ i,i<k->eh' i=eh i)->rp g len eh' k=rp g len eh k
 | 0,_=>rfl
 | k+1,h=>by
  show (rp g len eh' k).bind (rpStep g len (eh' k))=(rp g len eh k).bind (rpStep g len (eh k))
  rw [rp_congr fun i hi=>h i (by omega),h k (by omega)]
theorem plN_congr {eh eh':Nat->E3} {kd pr:Int}:∀ {k:Nat},(∀ i,i<k->eh' i=eh i)->plN eh' kd pr k=plN eh kd pr k
 | 0,_=>rfl
 | k+1,h=>by
  have e:=plN_congr (kd:=kd) (pr:=pr) (k:=k) fun i hi=>h i (by omega)
  have hh:hitB eh' kd pr k=hitB eh kd pr k:=by
   unfold hitB
   rw [h k (by omega)]
  unfold plN
  rw [e,hh]
theorem plN_lt {eh:Nat->E3} {kd pr:Int}:∀ {k i:Nat},i ∈ plN eh kd pr k->i<k
 | 0,i,h=>by simp [plN] at h
 | k+1,i,h=>by
  unfold plN at h
  split at h
  ·simp only [List.mem_append,List.mem_singleton] at h
   rcases h with h | h
   ·have:=plN_lt h
    omega
   ·omega
  ·have:=plN_lt h
   omega
theorem valL_congr {eh eh':Nat->E3} {kd pr:Int} {k:Nat} (h:∀ i,i<k->eh' i=eh i):valL eh' kd pr k=valL eh kd pr k:=by
 unfold valL
 rw [plN_congr h]
 exact List.map_congr_left fun i hi=>by rw [h i (plN_lt hi)]
theorem cnt_congr {eh eh':Nat->E3} {kd pr:Int} {k:Nat} (h:∀ i,i<k->eh' i=eh i):cnt eh' kd pr k=cnt eh kd pr k:=by
 unfold cnt
 rw [plN_congr h]
theorem cnt_val (eh:Nat->E3) (kd pr:Int) (k:Nat):cnt eh kd pr k=(valL eh kd pr k).length:=by simp [cnt,valL]
theorem valL_push {eh:Nat->E3} {kd pr:Int} {n:Nat} {x:E3}:valL (fun i=>if i=n then x else eh i) kd pr (n+1)=valL eh kd pr n ++ (if x.k=kd/\x.q=pr then [x.v] else []):=by
 have e:valL (fun i=>if i=n then x else eh i) kd pr n=valL eh kd pr n:=valL_congr fun i hi=>by rw [if_neg (by omega)]
 by_cases h:x.k=kd/\x.q=pr
 ·have hh:hitB (fun i=>if i=n then x else eh i) kd pr n=true:=by
   rw [hitB_iff]
   simp only [if_true]
   exact h
  rw [valL_hit hh,e,if_pos h]
  simp
 ·have hh:hitB (fun i=>if i=n then x else eh i) kd pr n=false:=by
   rcases zK (hitB (fun i=>if i=n then x else eh i) kd pr n) with t | t
   ·rw [hitB_iff] at t
    simp only [if_true] at t
    exact absurd t h
   ·exact t
  rw [valL_not hh,e,if_neg h,List.append_nil]
theorem numL_congr {H H':Nat->I2}:∀ {n:Nat},(∀ i,i<n->H' i=H i)->numL H' n=numL H n
 | 0,_=>rfl
 | n+1,h=>by
  unfold numL
  rw [numL_congr fun i hi=>h i (by omega),h n (by omega)]
theorem numL_push (H:Nat->I2) (n:Nat) (v:Int):numL (fun i=>if i=n then ⟨false,v⟩ else H i) (n+1)=numL H n ++ [v]:=by
 rw [numL_hit (by simp)]
 rw [numL_congr (H:=H) fun i hi=>by rw [if_neg (by omega)]]
 simp
theorem numL_first {H:Nat->I2} (h0:(H 0).m=false):∀ n,numL H (n+1)=(H 0).v :: numL (fun i=>H (i+1)) n
 | 0=>by rw [numL_hit h0];rfl
 | n+1=>by
  rw [numL]
  rw [numL_first h0 n]
  conv=>rhs;rw [numL]
  split <;> simp
theorem Hs.Put.more {x x':Hs} (hn:x'.n=x.n) (hl:∀ j,x.l j<=x'.l j) (he:∀ j i,i<x.l j->x'.e j i=x.e j i) {d:Nat->Nat} (h:x.Put d):x'.Put d:=by
 induction h with
 | start=>exact .start
 | next hd hp hc ih=>
  rename_i d p
  refine .next ih (by omega) ⟨zL hc.1 (hl p),fun hk=>?_⟩
  have e:=he p (d p) hc.1
  rw [e] at hk ⊢
  have hle:=hd.le
  rw [cnt_congr (fun i hi=>he p i (Nat.lt_trans hi hc.1)),cnt_congr (fun i hi=>he _ i (zL hi (hle _)))]
  exact hc.2 hk
theorem way_inj {a b p q n:Nat} (hb:b<n) (hq:q<n) (h:a*n+b=p*n+q):a=p/\b=q:=by
 have h1:(a*n+b) / n=a:=by rw [Nat.mul_comm,Nat.mul_add_div (by omega),Nat.div_eq_of_lt hb,Nat.add_zero]
 have h2:(p*n+q) / n=p:=by rw [Nat.mul_comm,Nat.mul_add_div (by omega),Nat.div_eq_of_lt hq,Nat.add_zero]
 have h3:a=p:=by rw [<- h1,<- h2,h]
 subst h3
 exact ⟨rfl,by omega⟩
theorem same_way {a b p q n:Nat} (h1:a=p) (h2:q=b):a*n+b=p*n+q:=by rw [h1,h2]
theorem Sy.Ok.next {y:Sy} (h:y.Ok) {p:Nat} (hp:p<y.pn) (hc:(y.sS p).c=0):(y.nk p=1\/y.nk p=2\/y.nk p=3\/y.nk p=4)/\(y.nk p≠2->y.nk p≠3->y.nq p=0)/\(y.nk p=2->numB (y.nv p)=true):=by
 have hr:=h.right hp hc
 rw [<- hc] at hr
 have e1:y.nk p=evK (y.pH p (y.sS p).p.toNat).o:=if_pos hr
 have e2:y.nq p=evP (y.pH p (y.sS p).p.toNat).o (y.pH p (y.sS p).p.toNat).n:=if_pos hr
 have e3:y.nv p=evW (y.pH p (y.sS p).p.toNat).o (y.pH p (y.sS p).p.toNat).a (y.sS p).rs:=if_pos hr
 obtain ⟨hpr,hs,-⟩:=right_parts hr
 obtain ⟨⟨a1,a2,a3,a4,ers,n1,n2,n3,n4⟩,⟨k,ek,hk⟩,-,-⟩:=st_parts hs
 have ek':(y.sS p).p.toNat=k:=by omega
 obtain ⟨-,-,⟨m0,m3⟩,-⟩:=ins_range (right_ins hpr hk)
 rw [ek'] at e1 e2 e3
 refine ⟨?_,?_,?_⟩
 ·rw [e1]
  unfold evK
  split
  ·exact .inr (.inl rfl)
  ·split
   ·exact .inr (.inr (.inl rfl))
   ·split
    ·exact .inr (.inr (.inr rfl))
    ·exact .inl rfl
 ·intro h2 h3
  rw [e1] at h2 h3
  rw [e2]
  unfold evK at h2 h3
  unfold evP
  by_cases e6:(y.pH p k).o=6
  ·rw [if_pos e6] at h2
   exact absurd rfl h2
  ·rw [if_neg e6] at h3 ⊢
   by_cases e7:(y.pH p k).o=7
   ·rw [if_pos e7] at h3
    exact absurd rfl h3
   ·rw [if_neg e7]
 ·intro h2
  rw [e1] at h2
  rw [e3,ers]
  have e6:(y.pH p k).o=6:=by
   unfold evK at h2
   by_cases e6:(y.pH p k).o=6
   ·exact e6
   ·rw [if_neg e6] at h2
    split at h2
    ·cases h2
    ·split at h2 <;> cases h2
  unfold evW
  rw [if_pos e6]
  obtain ⟨j,ej⟩:∃ j:Nat,(y.pH p k).a=j:=⟨(y.pH p k).a.toNat,by omega⟩
  have hj:(y.pH p k).a.toNat<4:=by omega
  match (y.pH p k).a.toNat,hj with
  | 0,_=>exact n1
  | 1,_=>exact n2
  | 2,_=>exact n3
  | 3,_=>exact n4
structure Sy.Done (y:Sy) (p:Nat) (f:Int):Prop where
 run:(y.sS p).c=0
 room:y.hL p<200
 peer:0<=y.eq p f/\y.eq p f<(y.pn:Int)
 send:y.nk p=2->y.wL (p*y.pn+(y.eq p f).toNat)<12/\numB (y.ev p f)=true
 take:y.nk p=3->0<y.wL ((y.eq p f).toNat*y.pn+p)/\(y.wH ((y.eq p f).toNat*y.pn+p) 0).m=false/\(y.wH ((y.eq p f).toNat*y.pn+p) 0).v=y.ev p f/\numB (y.ev p f)=true
 can:doB (y.pH p) (y.pL p) (y.sS p).p (y.sS p).rs (y.sS p).os (y.sS p).c (y.nk p) (y.eq p f) (y.ev p f)=true
theorem Sy.Ok.done {y:Sy} (h:y.Ok) {p:Nat} (hp:p<y.pn) {f:Int} (hc:cmS y p f=0):y.Done p f:=by
 unfold cmS at hc
 have h4:y.pn<=4:=h.cn.1.2
 have h1:1<=y.pn:=h.cn.1.1
 by_cases c0:(y.sS p).c=0
 case neg=>
  rw [if_pos c0] at hc
  cases hc
 rw [if_neg (by simpa using c0)] at hc
 by_cases c1:fuS y p (y.nk p) (y.nq p)=true
 ·rw [if_pos c1] at hc
  cases hc
 rw [if_neg c1] at hc
 have hfu:y.hL p<200/\(y.nk p=2->y.wL (p*y.pn+(y.nq p).toNat)<12):=by
  simp only [fuS,Bool.or_eq_true,decide_eq_true_eq,Bool.and_eq_true,beq_iff_eq,not_or,not_and] at c1
  exact ⟨by omega,fun h2=>by have:=c1.2 h2;omega⟩
 obtain ⟨hk,hq0,hnv⟩:=h.next hp c0
 by_cases k3:y.nk p=3
 ·rw [if_pos k3] at hc
  have eQ:y.eq p f=if y.nq p=9 then f else y.nq p:=if_pos k3
  rw [<- eQ] at hc
  have eV:y.ev p f=(y.wH ((y.eq p f).toNat*y.pn+p) 0).v:=if_pos k3
  unfold tkS at hc
  by_cases b:belB (y.eq p f) y.pn=true
  case neg=>
   rw [if_neg b] at hc
   cases hc
  rw [if_pos b] at hc
  have hb:0<=y.eq p f/\y.eq p f<(y.pn:Int):=by simpa [belB] using b
  by_cases w0:y.wL ((y.eq p f).toNat*y.pn+p)=0
  ·rw [if_pos w0] at hc
   cases hc
  rw [if_neg w0] at hc
  by_cases m0:(y.wH ((y.eq p f).toNat*y.pn+p) 0).m=true
  ·rw [if_pos m0] at hc
   cases hc
  have hv:numB (y.ev p f)=true:=by
   have:=(h.wa (y.eq p f).toNat (by omega) p hp).it 0 (by omega)
   simp only [itemB,Bool.and_eq_true] at this
   rw [eV]
   exact this.1
  refine ⟨c0,hfu.1,hb,(fun h2=>by rw [k3] at h2;cases h2),fun _=>⟨by omega,by simpa using m0,eV.symm,hv⟩,?_⟩
  have e3:nxK (y.pH p) (y.pL p) (y.sS p).p (y.sS p).rs (y.sS p).os (y.sS p).c=3:=k3
  unfold doB canB
  rw [if_pos e3,k3,hv]
  simp only [beq_self_eq_true,Bool.true_and]
  by_cases e9:y.nq p=9
  ·have e9':nxP (y.pH p) (y.pL p) (y.sS p).p (y.sS p).rs (y.sS p).os (y.sS p).c=9:=e9
   rw [if_pos e9']
   simp only [belB,decide_eq_true_eq]
   omega
  ·have e9':¬ nxP (y.pH p) (y.pL p) (y.sS p).p (y.sS p).rs (y.sS p).os (y.sS p).c=9:=e9
   rw [if_neg e9',eQ,if_neg e9]
   simp [Sy.nq]
 ·have eQ:y.eq p f=y.nq p:=if_neg k3
  have eV:y.ev p f=y.nv p:=if_neg k3
  have hpe:0<=y.nq p/\y.nq p<(y.pn:Int):=by
   by_cases k2:y.nk p=2
   ·exact h.peer hp k2
   ·rw [hq0 k2 k3]
    omega
  refine ⟨c0,hfu.1,by rw [eQ];exact hpe,fun h2=>⟨by rw [eQ];exact hfu.2 h2,by rw [eV];exact hnv h2⟩,fun h3=>absurd h3 k3,?_⟩
  have e3:¬ nxK (y.pH p) (y.pL p) (y.sS p).p (y.sS p).rs (y.sS p).os (y.sS p).c=3:=k3
  have e0:y.nk p≠0:=by omega
  unfold doB canB
  rw [if_neg e3,eQ,eV]
  simp only [Bool.and_eq_true,bne_iff_ne,beq_iff_eq]
  exact ⟨e0,rfl,rfl,rfl⟩
theorem Sy.Ok.step {y:Sy} (h:y.Ok) {p:Nat} (hp:p<y.pn) {f:Int} (hc:cmS y p f=0):(y.step p f).Ok:=by
 have D:=h.done hp hc
 have e:y.step p f=(y.way p (y.nk p) (y.eq p f) (y.ev p f)).evt p (y.nk p) (y.eq p f) (y.ev p f):=if_pos hc
 rw [e]
 obtain ⟨q,hq⟩:∃ q:Nat,y.eq p f=q:=⟨(y.eq p f).toNat,by have:=D.peer;omega⟩
 have hqn:q<y.pn:=by have:=D.peer;omega
 have D':=D
 obtain ⟨run,room,peer,send,take,can⟩:=D
 rw [hq,Int.toNat_natCast] at send take
 rw [hq] at can ⊢
 generalize hV:y.ev p f=V at *
 obtain ⟨kk,-,-⟩:=h.next hp run
 generalize hK:y.nk p=K at *
 clear hV hK e hc hq peer D'
 -- what happened to each,now
 have hH:∀ a kd pr,valL (((y.way p K q V).evt p K q V).hH a) kd pr (((y.way p K q V).evt p K q V).hL a)=valL (y.hH a) kd pr (y.hL a) ++ (if a=p/\K=kd/\(q:Int)=pr then [V] else []):=by
  intro a kd pr
  show valL (if a=p then (fun i=>if i=y.hL p then (⟨K,q,V⟩:E3) else y.hH p i) else y.hH a) kd pr (if a=p then y.hL p+1 else y.hL a)=_
  by_cases ea:a=p
  ·subst ea
   simp only [if_true,true_and]
   exact valL_push
  ·rw [if_neg ea,if_neg ea,if_neg (fun h=>ea h.1),List.append_nil]
 refine ⟨h.cn,h.pr,fun a ha=>?_,fun a ha i hi=>?_,fun a ha b hb=>?_,?_⟩
 ·show repO (y.pH a) (y.pL a) (if a=p then (fun i=>if i=y.hL p then (⟨K,q,V⟩:E3) else y.hH p i) else y.hH a) (if a=p then y.hL p+1 else y.hL a)=some (if a=p then doS (y.pH p) (y.pL p) (y.sS p).p (y.sS p).rs (y.sS p).os (y.sS p).c K q V else y.sS a)
  by_cases ea:a=p
  ·subst ea
   simp only [if_true]
   have h0:=repO_some (h.rp a hp)
   unfold repO
   rw [if_pos ⟨h0.1,by omega⟩]
   have hr:Go.Proofs.YtlhikgdcgpgolaaGreatDoor.rp (y.pH a) (y.pL a) (fun i=>if i=y.hL a then (⟨K,q,V⟩:E3) else y.hH a i) (y.hL a)=some (y.sS a):=(rp_congr fun i hi=>by rw [if_neg (by omega)]).trans h0.2.2
   have:=rp_yes hr (by simpa using can)
   simpa using this
  ·rw [if_neg ea,if_neg ea,if_neg ea]
   exact h.rp a ha
 ·have hi':i<(if a=p then y.hL p+1 else y.hL a):=hi
  show ((if a=p then (fun i=>if i=y.hL p then (⟨K,q,V⟩:E3) else y.hH p i) else y.hH a) i).q<(y.pn:Int)
  by_cases ea:a=p
  ·subst ea
   simp only [if_true] at hi' ⊢
   by_cases ei:i=y.hL a
   ·rw [if_pos ei]
    show (q:Int)<_
    omega
   ·rw [if_neg ei]
    exact h.pe a hp i (by omega)
  ·rw [if_neg ea] at hi' ⊢
   exact h.pe a ha i hi'
 ·have wab:=h.wa a ha b hb
  rw [hH b 3 a,hH a 2 b]
  show WayP (((y.way p K q V)).wH (a*y.pn+b)) ((y.way p K q V).wL (a*y.pn+b)) _ _
  by_cases k2:K=2
  ·subst k2
   rw [Sy.way_send,if_neg (fun h=>by have:=h.2.1;omega),List.append_nil]
   show WayP (if a*y.pn+b=p*y.pn+q then (fun i=>if i=y.wL (p*y.pn+q) then ⟨false,V⟩ else y.wH (p*y.pn+q) i) else y.wH (a*y.pn+b)) (if a*y.pn+b=p*y.pn+q then y.wL (p*y.pn+q)+1 else y.wL (a*y.pn+b)) _ _
   by_cases ew:a*y.pn+b=p*y.pn+q
   ·obtain ⟨rfl,rfl⟩:=way_inj hb hqn ew
    simp only [if_true]
    rw [if_pos ⟨trivial,trivial,trivial⟩]
    obtain ⟨s1,s2⟩:=send rfl
    refine ⟨fun i hi=>?_,by omega,?_⟩
    ·by_cases ei:i=y.wL (a*y.pn+b)
     ·rw [if_pos ei]
      simp [itemB,s2]
     ·rw [if_neg ei]
      exact wab.it i (by omega)
    ·rw [numL_push,<- List.append_assoc,wab.eq]
   ·rw [if_neg ew,if_neg ew,if_neg (fun h=>ew (same_way h.1 (Int.ofNat_inj.1 h.2.2))),List.append_nil]
    exact wab
  ·by_cases k3:K=3
   ·subst k3
    rw [Sy.way_take,if_neg (c:=a=p/\(3:Int)=2/\_) (fun h=>by have:=h.2.1;omega),List.append_nil]
    show WayP (if a*y.pn+b=q*y.pn+p then (fun i=>y.wH (q*y.pn+p) (i+1)) else y.wH (a*y.pn+b)) (if a*y.pn+b=q*y.pn+p then y.wL (q*y.pn+p) - 1 else y.wL (a*y.pn+b)) _ _
    by_cases ew:a*y.pn+b=q*y.pn+p
    ·obtain ⟨rfl,rfl⟩:=way_inj hb hp ew
     simp only [if_true]
     rw [if_pos ⟨trivial,trivial,trivial⟩]
     obtain ⟨t1,t2,t3,-⟩:=take rfl
     obtain ⟨m,em⟩:∃ m,y.wL (a*y.pn+b)=m+1:=⟨y.wL (a*y.pn+b) - 1,by omega⟩
     have weq:=wab.eq
     have wle:=wab.le
     have wit:=wab.it
     rw [em] at weq wle wit ⊢
     rw [Nat.add_sub_cancel]
     refine ⟨fun i hi=>wit (i+1) (by omega),by omega,?_⟩
     rw [numL_first t2,t3] at weq
     rw [List.append_assoc]
     exact weq
    ·rw [if_neg ew,if_neg ew,if_neg (fun h=>ew (same_way (Int.ofNat_inj.1 h.2.2).symm h.1.symm)),List.append_nil]
     exact wab
   ·rw [Sy.way_no y p k2 k3,if_neg (fun h=>k3 h.2.1),if_neg (fun h=>k2 h.2.1),List.append_nil,List.append_nil]
    exact wab
 ·obtain ⟨d,hd,hall⟩:=h.ro
  have hd':((y.way p K q V).evt p K q V).hs.Put d:=by
   refine Hs.Put.more (x:=y.hs) (x':=((y.way p K q V).evt p K q V).hs) rfl (fun j=>?_) (fun j i hi=>?_) hd
   ·show y.hL j<=if j=p then y.hL p+1 else y.hL j
    by_cases ej:j=p
    ·rw [if_pos ej,ej];omega
    ·rw [if_neg ej];exact Nat.le_refl _
   ·have hi':i<y.hL j:=hi
    show (if j=p then (fun i=>if i=y.hL p then (⟨K,q,V⟩:E3) else y.hH p i) else y.hH j) i=y.hH j i
    by_cases ej:j=p
    ·subst ej
     rw [if_pos rfl,if_neg (by omega)]
    ·rw [if_neg ej]
  have hdp:d p=y.hL p:=hall p hp
  have epH:∀ a,a≠p->((y.way p K q V).evt p K q V).hs.e a=y.hH a:=fun a ha=>by
   show (if a=p then _ else y.hH a)=_
   rw [if_neg ha]
  have epp:((y.way p K q V).evt p K q V).hs.e p=fun i=>if i=y.hL p then (⟨K,q,V⟩:E3) else y.hH p i:=by
   show (if p=p then _ else y.hH p)=_
   rw [if_pos rfl]
   rfl
  have elp:((y.way p K q V).evt p K q V).hs.l p=y.hL p+1:=by
   show (if p=p then _ else y.hL p)=_
   rw [if_pos rfl]
   rfl
  have ece:∀ a kd pr,a<y.pn->cnt (((y.way p K q V).evt p K q V).hs.e a) kd pr (d a)=(valL (y.hH a) kd pr (y.hL a)).length:=fun a kd pr ha=>by
   have hda:d a=y.hL a:=hall a ha
   rw [hda,<- cnt_val]
   refine cnt_congr fun i hi=>?_
   by_cases ea:a=p
   ·subst ea
    rw [epp]
    show (if i=y.hL a then (⟨K,q,V⟩:E3) else y.hH a i)=y.hH a i
    rw [if_neg (by omega)]
   ·rw [epH a ea]
  refine ⟨up d p,.next hd' hp ⟨by rw [elp,hdp];omega,fun hk=>?_⟩,fun a ha=>?_⟩
  ·have ee:((y.way p K q V).evt p K q V).hs.e p (d p)=⟨K,q,V⟩:=by rw [epp,hdp];exact if_pos rfl
   rw [ee] at hk ⊢
   have hk':K=3:=hk
   show cnt _ 3 (q:Int) _<cnt (((y.way p K q V).evt p K q V).hs.e (q:Int).toNat) 2 p (d (q:Int).toNat)
   rw [Int.toNat_natCast,ece p 3 q hp,ece q 2 p hqn]
   obtain ⟨t1,t2,-⟩:=take hk'
   obtain ⟨m,em⟩:∃ m,y.wL (q*y.pn+p)=m+1:=⟨y.wL (q*y.pn+p) - 1,by omega⟩
   have weq:=(h.wa q hqn p hp).eq
   rw [em,numL_first t2] at weq
   have:=congrArg List.length weq
   simp only [List.length_append,List.length_cons] at this
   omega
  ·have hda:d a=y.hL a:=hall a ha
   by_cases ea:a=p
   ·subst ea
    rw [up_same,elp,hdp]
   ·rw [up_other ea,hda]
    show y.hL a=if a=p then _ else y.hL a
    rw [if_neg ea]
