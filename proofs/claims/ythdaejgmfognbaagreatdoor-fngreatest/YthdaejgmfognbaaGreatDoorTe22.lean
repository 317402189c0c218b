import Derived.Test.YthdaejgmfognbaaGreatDoorTe0
import Derived.Test.YthdaejgmfognbaaGreatDoorTe13
import Derived.Test.YthdaejgmfognbaaGreatDoorTe14
import Derived.Test.YthdaejgmfognbaaGreatDoorTe21
import Derived.Test.YthdaejgmfognbaaGreatDoorTe10
import Derived.Test.YthdaejgmfognbaaGreatDoorTe19
import Derived.Test.YthdaejgmfognbaaGreatDoorTe20
import Derived.Test.YthdaejgmfognbaaGreatDoorTe8
namespace Go.Proofs.YthdaejgmfognbaaGreatDoor
set_option maxRecDepth 100000
set_option maxHeartbeats 4000000
open Go.ChangeShapes Go.WideShapes Go.ChangeAt Go.RowKit Go.Deep
structure AllItem (W:World) (a0:Option Addr) (n:Nat) (aa:Nat->Option Addr) (ls cs:Nat->Nat) (h:Nat->Nat->I2):Prop where
 row:RowS W a0 n fun i=>.slice (aa i) (ls i) (cs i)
 cop:∀ i,i<n->CopiesT W (aa i) (ls i) (cs i) (h i)
structure SysIn where
 pa:Option Addr
 pn:Nat
 pc:Nat
 pA:Nat->Option Addr
 pL:Nat->Nat
 pC:Nat->Nat
 pH:Nat->Nat->I5
 sa:Option Addr
 sn:Nat
 sc:Nat
 sQ:Nat->St8
 wa:Option Addr
 wn:Nat
 wc:Nat
 wA:Nat->Option Addr
 wL:Nat->Nat
 wC:Nat->Nat
 wH:Nat->Nat->I2
 ha:Option Addr
 hn:Nat
 hc:Nat
 hA:Nat->Option Addr
 hL:Nat->Nat
 hC:Nat->Nat
 hH:Nat->Nat->E3
def SysIn.sS (x:SysIn):Nat->S4:=fun i=>(x.sQ i).s
def SysIn.size (x:SysIn):Nat:=x.pn+sumL x.pL x.pn+(x.sn+sumL (lenS x.sS) x.sn)+(x.wn+sumL x.wL x.wn)+(x.hn+sumL x.hL x.hn)
abbrev sysV (pa:Option Addr) (pn pc:Nat) (sa:Option Addr) (sn sc:Nat) (wa:Option Addr) (wn wc:Nat) (ha:Option Addr) (hn hc:Nat):Value:=.agg #[.slice pa pn pc,.slice sa sn sc,.slice wa wn wc,.slice ha hn hc]
structure SysIn.Row (W:World) (x:SysIn):Prop where
 p:RowS W x.pa x.pn fun i=>.slice (x.pA i) (x.pL i) (x.pC i)
 s:AllState W x.sa x.sn x.sQ
 w:RowS W x.wa x.wn fun i=>.slice (x.wA i) (x.wL i) (x.wC i)
 h:RowS W x.ha x.hn fun i=>.slice (x.hA i) (x.hL i) (x.hC i)
structure SysIn.Ok (W:World) (x:SysIn):Prop where
 p:AllIns W x.pa x.pn x.pA x.pL x.pC x.pH
 s:AllState W x.sa x.sn x.sQ
 w:AllItem W x.wa x.wn x.wA x.wL x.wC x.wH
 h:AllEvent W x.ha x.hn x.hA x.hL x.hC x.hH
theorem SysIn.Ok.row {W:World} {x:SysIn} (h:x.Ok W):x.Row W:=⟨h.p.row,h.s,h.w.row,h.h.row⟩
theorem SysIn.Row.below {W w:World} {x:SysIn} (h:x.Row W) (hb:Below W.heap.size W w):x.Row w:=⟨h.p.below hb,h.s.below hb,h.w.below hb,h.h.below hb⟩
def numL (h:Nat->I2):Nat->List Int
 | 0=>[]
 | n+1=>if (h n).m=true then numL h n else numL h n ++ [(h n).v]
theorem numL_le (h:Nat->I2):∀ n,(numL h n).length<=n
 | 0=>Nat.le_refl _
 | n+1=>by
  unfold numL
  have:=numL_le h n
  split
  ·omega
  ·simp;omega
theorem numL_hit {h:Nat->I2} {n:Nat} (hh:(h n).m=false):numL h (n+1)=numL h n ++ [(h n).v]:=by
 rw [numL,if_neg (by rw [hh];decide)]
theorem numL_not {h:Nat->I2} {n:Nat} (hh:(h n).m=true):numL h (n+1)=numL h n:=by
 rw [numL,if_pos hh]
theorem specValues_l (ea:Option Addr) (len cap:Nat) (eh:Nat->E3) (kd pr:Int) (w:World) (hlen:len<=1048576) (hc:EvL w ea len eh):
  Calls Tryz.prog 61 #[.slice ea len cap,.int .i64 kd,.int .i64 pr] w fun e w'=>∃ v,e=.returned v/\OwnI w' w.heap.size v (valL eh kd pr len)/\Below w.heap.size w w':=by
 have hl':(len:Int)<=1048576:=by omega
 have HC:Hid (EvL w ea len eh):=hc
 clear hc
 go_enter Tryz.func61,Tryz.ntmps61
 go_wp2_with fail
 go_loopw [7,8] (fun o i wr=>∃ k:Nat,k<=len/\i=.int .i64 k/\Hid (OwnI wr w.heap.size o (valL eh kd pr k))/\Below w.heap.size w wr) (fun _ i _=>len - (intOf i).toNat)
 case atStart=>exact ⟨0,Nat.zero_le _,rfl,own_empty w,(Below.refl _ _).alloc (Nat.le_refl _) _⟩
 case round=>
  obtain ⟨k,hk,rfl,HO,hbw⟩:=hrel
  have hs:=hbw.size
  by_cases hlt:k<len
  ·have hlt':(k:Int)<(len:Int):=by omega
   have hvl:=valL_le eh kd pr k
   obtain ⟨b,off,rfl,-,c0,c1,c2⟩:=(HC.out.below hbw).at hlt
   rcases zK ((eh k).k == kd) with t1 | t1
   ·rcases zK ((eh k).q == pr) with t2 | t2
    ·have HH : Hid (valL eh kd pr (k + 1) = valL eh kd pr k ++ [(eh k).v]) := valL_hit (by
      unfold hitB
      rw [t1,t2]
      rfl)
     go_wp2_with (at_builtin;refine append_one wr rfl _ _ rfl w.heap.size u7 (valL eh kd pr k) rfl HO.out (eh k).v rfl (by omega) hs ?_;intro v' w4 o4 b4;have H4:Hid (OwnI w4 w.heap.size v' (valL eh kd pr (k+1))):=o4.to HH.out;clear o4)
     go_roundw
     case rel=>exact ⟨k+1,by omega,by go_num,H4.out,hbw.trans b4⟩
     case measure=>simp [intOf];omega
    ·have HH : Hid (valL eh kd pr (k + 1) = valL eh kd pr k) := valL_not (by
      unfold hitB
      rw [t1,t2]
      rfl)
     go_wp2
     go_roundw
     case rel=>exact ⟨k+1,by omega,by go_num,HO.out.to HH.out,hbw⟩
     case measure=>simp [intOf];omega
   ·have HH : Hid (valL eh kd pr (k + 1) = valL eh kd pr k) := valL_not (by
     unfold hitB
     rw [t1]
     rfl)
    go_wp2
    go_roundw
    case rel=>exact ⟨k+1,by omega,by go_num,HO.out.to HH.out,hbw⟩
    case measure=>simp [intOf];omega
  ·have hkl:k=len:=by omega
   have H4:Hid (OwnI wr w.heap.size u7 (valL eh kd pr len)):=by
    have:=HO.out
    rw [hkl] at this
    exact this
   clear HO hkl
   go_wp2
   go_ret
   exact ⟨_,rfl,H4.out,hbw⟩
theorem placesOf_l (ea:Option Addr) (len cap:Nat) (eh:Nat->E3) (kd pr:Int) (w:World) (hlen:len<=1048576) (hc:EvL w ea len eh):
  Calls Tryz.prog 139 #[.slice ea len cap,.int .i64 kd,.int .i64 pr] w fun e w'=>∃ v,e=.returned v/\OwnI w' w.heap.size v (plI eh kd pr len)/\Below w.heap.size w w':=by
 have hl':(len:Int)<=1048576:=by omega
 have HC:Hid (EvL w ea len eh):=hc
 clear hc
 go_enter Tryz.func139,Tryz.ntmps139
 go_wp2_with fail
 go_loopw [7,13] (fun o i wr=>∃ k:Nat,k<=len/\i=.int .i64 k/\Hid (OwnI wr w.heap.size o (plI eh kd pr k))/\Below w.heap.size w wr) (fun _ i _=>len - (intOf i).toNat)
 case atStart=>exact ⟨0,Nat.zero_le _,rfl,own_empty w,(Below.refl _ _).alloc (Nat.le_refl _) _⟩
 case round=>
  obtain ⟨k,hk,rfl,HO,hbw⟩:=hrel
  have hs:=hbw.size
  by_cases hlt:k<len
  ·have hlt':(k:Int)<(len:Int):=by omega
   have hvl:=plI_le eh kd pr k
   obtain ⟨b,off,rfl,-,c0,c1,c2⟩:=(HC.out.below hbw).at hlt
   rcases zK ((eh k).k == kd) with t1 | t1
   ·rcases zK ((eh k).q == pr) with t2 | t2
    ·have HH : Hid (plI eh kd pr (k + 1) = plI eh kd pr k ++ [(k : Int)]) := plI_hit (by
      unfold hitB
      rw [t1,t2]
      rfl)
     go_wp2_with (at_builtin;refine append_oneN _ (N:=wr.heap.size+1) (by simp) rfl _ _ rfl w.heap.size u7 (plI eh kd pr k) rfl (HO.out.below (by go_grown)) k rfl (by omega) (by simp;omega) ?_;intro v' w4 o4 b4;have H4:Hid (OwnI w4 w.heap.size v' (plI eh kd pr (k+1))):=o4.to HH.out;clear o4)
     go_roundw
     case rel=>exact ⟨k+1,by omega,by go_num,H4.out,Below.trans (by go_grown) b4⟩
     case measure=>simp [intOf];omega
    ·have HH : Hid (plI eh kd pr (k + 1) = plI eh kd pr k) := plI_not (by
      unfold hitB
      rw [t1,t2]
      rfl)
     go_wp2
     go_roundw
     case rel=>exact ⟨k+1,by omega,by go_num,(HO.out.below (by go_grown)).to HH.out,by go_grown⟩
     case measure=>simp [intOf];omega
   ·have HH : Hid (plI eh kd pr (k + 1) = plI eh kd pr k) := plI_not (by
     unfold hitB
     rw [t1]
     rfl)
    go_wp2
    go_roundw
    case rel=>exact ⟨k+1,by omega,by go_num,(HO.out.below (by go_grown)).to HH.out,by go_grown⟩
    case measure=>simp [intOf];omega
  ·have hkl:k=len:=by omega
   have H4:Hid (OwnI wr w.heap.size u7 (plI eh kd pr len)):=by
    have:=HO.out
    rw [hkl] at this
    exact this
   clear HO hkl
   go_wp2
   go_ret
   exact ⟨_,rfl,H4.out,hbw⟩
theorem specCount_l (ea:Option Addr) (len cap:Nat) (eh:Nat->E3) (kd pr:Int) (w:World) (hlen:len<=1048576) (hc:EvL w ea len eh):
  Calls Tryz.prog 115 #[.slice ea len cap,.int .i64 kd,.int .i64 pr] w fun e w'=>e=.returned (.int .i64 ((plN eh kd pr len).length:Nat))/\Below w.heap.size w w':=by
 have HC:Hid (EvL w ea len eh):=hc
 clear hc
 go_enter Tryz.func115,Tryz.ntmps115
 go_wp2_with fail
 refine (specValues_l ea len cap eh kd pr w hlen HC.out).mono ?_
 rintro e w1 ⟨v,rfl,o1,b1⟩
 obtain ⟨a0,cp,rfl,-⟩:=o1.form
 rw [valL_length]
 go_wp2
 go_ret
 exact ⟨rfl,b1⟩
theorem implValues_l (ea:Option Addr) (len cap:Nat) (eh:Nat->E3) (kd pr:Int) (w:World) (hlen:len<=1048576) (hc:EvL w ea len eh):
  Calls Tryz.prog 140 #[.slice ea len cap,.int .i64 kd,.int .i64 pr] w fun e w'=>∃ v,e=.returned v/\OwnI w' w.heap.size v (valL eh kd pr len)/\Below w.heap.size w w':=by
 have hl':(len:Int)<=1048576:=by omega
 have HC:Hid (EvL w ea len eh):=hc
 clear hc
 have hpl:=plI_le eh kd pr len
 go_enter Tryz.func140,Tryz.ntmps140
 go_wp2_with fail
 refine (placesOf_l ea len cap eh kd pr _ hlen (HC.out.below (by go_grown))).mono ?_
 rintro e w1 ⟨v,rfl,o1,b1⟩
 have B1:Hid (Below w.heap.size w w1):=below_up (by go_grown) b1 (by simp)
 obtain ⟨a0,cp,rfl,-⟩:=o1.form
 have HS:Hid (OwnI w1 (w.heap.size+1) (.slice a0 (plI eh kd pr len).length cp) (plI eh kd pr len)):=by
  rw [World.size_alloc] at o1
  exact o1
 clear o1
 go_wp2_with fail
 have HO:Hid (OwnI w1 w.heap.size (.slice (some ⟨w.heap.size,0,none⟩) 0 0) []):=(own_empty w).below b1
 clear b1
 go_loopw [7,16] (fun o i wr=>∃ k:Nat,k<=(plI eh kd pr len).length/\i=.int .i64 k/\Hid (OwnI wr w.heap.size o (valT eh kd pr len k))/\Below w.heap.size w wr/\Hid (Away w w1 wr o)) (fun _ i _=>(plI eh kd pr len).length - (intOf i).toNat)
 case atStart=>exact ⟨0,Nat.zero_le _,rfl,HO.out,B1.out,⟨fun j hj=>by simp [Value.ownBlock] at hj;exact .inl hj.symm,fun _ _ _=>rfl,Nat.le_refl _⟩⟩
 case round=>
  clear HO B1
  obtain ⟨k,hk,rfl,HO,hbw,HA⟩:=hrel
  have hs:=hbw.size
  by_cases hlt:k<(plI eh kd pr len).length
  ·have hlt':(k:Int)<((plI eh kd pr len).length:Int):=by omega
   obtain ⟨b0,o0,e0,hb0,hcell⟩:=(HA.out.sl (Nat.lt_succ_self _) HS.out).at hlt
   obtain ⟨q,hq,hql,hqe⟩:=plI_place eh kd pr len k hlt
   have hql':(q:Int)<(len:Int):=by omega
   rw [hq] at hcell
   subst e0
   have hvl:=valT_le eh kd pr len k
   have HH:Hid (valT eh kd pr len (k+1)=valT eh kd pr len k ++ [(eh q).v]):=valT_next hqe
   obtain ⟨b,off,rfl,-,c0,c1,c2⟩:=(HC.out.below hbw).at hql
   clear hq hqe
   go_wp2_with (at_builtin;refine append_far wr rfl _ _ rfl w.heap.size u7 (valT eh kd pr len k) rfl HO.out (eh q).v rfl (by omega) hs ?_;intro v' w4 o4 g4 a4;have A4:Hid (Away w w1 w4 v'):=HA.out.step g4 a4;have b4:Below w.heap.size wr w4:=⟨g4.os,g4.tape,g4.output,g4.size,fun j hj=>g4.block j (zL hj hs) (fun e=>Nat.not_le_of_lt hj (HO.out.lt j e.symm).1)⟩;have H4:Hid (OwnI w4 w.heap.size v' (valT eh kd pr len (k+1))):=o4.to HH.out;clear o4 g4 a4)
   go_roundw
   case rel=>exact ⟨k+1,by omega,by go_num,H4.out,hbw.trans b4,A4.out⟩
   case measure=>simp [intOf];omega
  ·have hkl:k=(plI eh kd pr len).length:=by omega
   have H4:Hid (OwnI wr w.heap.size u7 (valL eh kd pr len)):=by
    have:=HO.out
    rw [hkl,valT_all] at this
    exact this
   clear HO hkl
   go_wp2
   go_ret
   exact ⟨_,rfl,H4.out,hbw⟩
theorem specNumbers_l (ea:Option Addr) (len cap:Nat) (h:Nat->I2) (w:World) (hlen:len<=1048576) (hc:ItL w ea len h):
  Calls Tryz.prog 114 #[.slice ea len cap] w fun e w'=>∃ v,e=.returned v/\OwnI w' w.heap.size v (numL h len)/\Below w.heap.size w w':=by
 have hl':(len:Int)<=1048576:=by omega
 have HC:Hid (ItL w ea len h):=hc
 clear hc
 go_enter Tryz.func114,Tryz.ntmps114
 go_wp2_with fail
 go_loopw [3,4] (fun o i wr=>∃ k:Nat,k<=len/\i=.int .i64 k/\Hid (OwnI wr w.heap.size o (numL h k))/\Below w.heap.size w wr) (fun _ i _=>len - (intOf i).toNat)
 case atStart=>exact ⟨0,Nat.zero_le _,rfl,own_empty w,(Below.refl _ _).alloc (Nat.le_refl _) _⟩
 case round=>
  obtain ⟨k,hk,rfl,HO,hbw⟩:=hrel
  have hs:=hbw.size
  by_cases hlt:k<len
  ·have hlt':(k:Int)<(len:Int):=by omega
   have hvl:=numL_le h k
   obtain ⟨b,off,rfl,-,c0,c1⟩:=(HC.out.below hbw).at hlt
   rcases zK (h k).m with t1 | t1
   ·have HH:Hid (numL h (k+1)=numL h k):=numL_not t1
    rw [t1] at c0
    go_wp2
    go_roundw
    case rel=>exact ⟨k+1,by omega,by go_num,HO.out.to HH.out,hbw⟩
    case measure=>simp [intOf];omega
   ·have HH:Hid (numL h (k+1)=numL h k ++ [(h k).v]):=numL_hit t1
    rw [t1] at c0
    go_wp2_with (at_builtin;refine append_one wr rfl _ _ rfl w.heap.size u3 (numL h k) rfl HO.out (h k).v rfl (by omega) hs ?_;intro v' w4 o4 b4;have H4:Hid (OwnI w4 w.heap.size v' (numL h (k+1))):=o4.to HH.out;clear o4)
    go_roundw
    case rel=>exact ⟨k+1,by omega,by go_num,H4.out,hbw.trans b4⟩
    case measure=>simp [intOf];omega
  ·have hkl:k=len:=by omega
   have H4:Hid (OwnI wr w.heap.size u3 (numL h len)):=by
    have:=HO.out
    rw [hkl] at this
    exact this
   clear HO hkl
   go_wp2
   go_ret
   exact ⟨_,rfl,H4.out,hbw⟩
theorem implNumbers_l (ea:Option Addr) (len cap:Nat) (h:Nat->I2) (w:World) (hlen:len<=1048576) (hc:ItL w ea len h):
  Calls Tryz.prog 152 #[.slice ea len cap] w fun e w'=>∃ v,e=.returned v/\OwnI w' w.heap.size v (numL h len)/\Below w.heap.size w w':=by
 have hl':(len:Int)<=1048576:=by omega
 have HC:Hid (ItL w ea len h):=hc
 clear hc
 go_enter Tryz.func152,Tryz.ntmps152
 go_wp2_with fail
 go_loopw [3,9] (fun o i wr=>∃ k:Nat,k<=len/\i=.int .i64 k/\Hid (OwnI wr w.heap.size o (numL h k))/\Below w.heap.size w wr) (fun _ i _=>len - (intOf i).toNat)
 case atStart=>exact ⟨0,Nat.zero_le _,rfl,own_empty w,(Below.refl _ _).alloc (Nat.le_refl _) _⟩
 case round=>
  obtain ⟨k,hk,rfl,HO,hbw⟩:=hrel
  have hs:=hbw.size
  by_cases hlt:k<len
  ·have hlt':(k:Int)<(len:Int):=by omega
   have hvl:=numL_le h k
   obtain ⟨b,off,rfl,-,c0,c1⟩:=(HC.out.below hbw).at hlt
   rcases zK (h k).m with t1 | t1
   ·have HH:Hid (numL h (k+1)=numL h k):=numL_not t1
    rw [t1] at c0
    go_wp2
    go_roundw
    case rel=>exact ⟨k+1,by omega,by go_num,(HO.out.below (by go_grown)).to HH.out,by go_grown⟩
    case measure=>simp [intOf];omega
   ·have HH:Hid (numL h (k+1)=numL h k ++ [(h k).v]):=numL_hit t1
    rw [t1] at c0
    go_wp2_with (at_builtin;refine append_oneN _ (N:=wr.heap.size+1) (by simp) rfl _ _ rfl w.heap.size u3 (numL h k) rfl (HO.out.below (by go_grown)) (h k).v rfl (by omega) (by simp;omega) ?_;intro v' w4 o4 b4;have H4:Hid (OwnI w4 w.heap.size v' (numL h (k+1))):=o4.to HH.out;clear o4)
    go_roundw
    case rel=>exact ⟨k+1,by omega,by go_num,H4.out,Below.trans (by go_grown) b4⟩
    case measure=>simp [intOf];omega
  ·have hkl:k=len:=by omega
   have H4:Hid (OwnI wr w.heap.size u3 (numL h len)):=by
    have:=HO.out
    rw [hkl] at this
    exact this
   clear HO hkl
   go_wp2
   go_ret
   exact ⟨_,rfl,H4.out,hbw⟩
open Go.Sort
theorem sumL_all {d l:Nat->Nat} (h:∀ i,d i<=l i) (n:Nat) (e:sumL d n=sumL l n) (p:Nat) (hp:p<n):d p=l p:=by
 induction n with
 | zero=>omega
 | succ n ih=>
  have h1:=sumL_le h n
  have h2:=h n
  have e':sumL d n+d n=sumL l n+l n:=e
  by_cases hpn:p=n
  ·subst hpn
   omega
  ·exact ih (by omega) (by omega)
structure OrdB (w:World) (D n:Nat) (d:Nat->Nat):Prop where
 c:∀ i,i<n->w.cell? ⟨D,i,none⟩=some (.int .i64 (d i))
 fr:∀ j,w.frozen? ⟨D,j,none⟩=false
theorem OrdB.blk {w w':World} {D n:Nat} {d:Nat->Nat} (h:OrdB w D n d) (hb:w'.heap[D]? = w.heap[D]?):OrdB w' D n d:=⟨fun i hi=>(zH hb).trans (h.c i hi),fun j=>(zI hb).trans (h.fr j)⟩
theorem OrdB.put {w:World} {D n k:Nat} {d:Nat->Nat} (h:OrdB w D n d) (hk:k<n):OrdB (w.setCell ⟨D,k,none⟩ (.int .i64 ((d k:Int)+1))) D n (up d k):=by
 refine ⟨fun i hi=>?_,fun j=>by rw [World.frozen?_setCell];exact h.fr j⟩
 by_cases e:i=k
 ·subst e
  rw [World.cell?_setCell_same' _ _ _ (by rw [h.c i hi];rfl),up_same]
  rfl
 ·rw [World.cell?_setCell_other _ _ _ _ (by intro e';injection e' with _ e';exact e e'.symm),up_other e]
  exact h.c i hi
structure Od (w wr:World) (B D:Nat) (ha:Option Addr) (hc:Nat) (y:Hs) (d:Nat->Nat):Prop where
 pu:y.Put d
 od:OrdB wr D y.n d
 bx:wr.cell? ⟨B,3,none⟩=some (.slice ha y.n hc)
 be:Below w.heap.size w wr
theorem Od.below {w wr w':World} {B D:Nat} {ha:Option Addr} {hc:Nat} {y:Hs} {d:Nat->Nat} (h:Od w wr B D ha hc y d) (hb:Below wr.heap.size wr w') (hD:D<wr.heap.size):Od w w' B D ha hc y d:=
 ⟨h.pu,h.od.blk (hb.block D hD),(hb.cell (p:=⟨B,3,none⟩) (zJ wr _ h.bx)).trans h.bx,h.be.trans (hb.mono h.be.size)⟩
theorem Od.set {w wr:World} {B D k:Nat} {ha:Option Addr} {hc:Nat} {y:Hs} {d:Nat->Nat} (h:Od w wr B D ha hc y d) (hk:k<y.n) (hcan:y.Can d k) (hBD:B≠D) (hw:w.heap.size<=D):Od w (wr.setCell ⟨D,k,none⟩ (.int .i64 ((d k:Int)+1))) B D ha hc y (up d k):=
 ⟨.next h.pu hk hcan,h.od.put hk,(World.cell?_setCell_other _ _ _ _ (by intro e;injection e with e;exact hBD e.symm)).trans h.bx,h.be.setCell hw _⟩
theorem madeInt_cell (w:World) (n i:Nat) (hi:i<n):(w.alloc (.cells (madeCells #[.int .i64 0] n) 3)).cell? ⟨w.heap.size,i,none⟩=some (.int .i64 0):=by
 rw [zW _ _ _ i rfl]
 simp [madeCells,hi,Nat.mod_one]
theorem slice_to (a:Option Addr) (len cap h:Nat) (hh:h<=cap) (w:World):(Instr.slice 41 (.slice a len cap) none (some (.int .i64 (h:Int))) none).run Tryz.prog w=.ok (.slice a h cap) w:=by
 have hh':(h:Int)<=(cap:Int):=by omega
 cases a with
 | none=>simp [go_sem,sliced,hh']
 | some a=>simp [go_sem,sliced,hh']
theorem l4Order_any (pa:Option Addr) (pn pc:Nat) (sa:Option Addr) (sn sc:Nat) (wa:Option Addr) (wn wc:Nat) (ha:Option Addr) (hc:Nat) (hA:Nat->Option Addr) (hC:Nat->Nat) (y:Hs) (w:World) (hE:HisE w ha hA hC y) (hcap:∀ i,i<y.n->y.l i<=hC i) (h1:1<=y.n) (h4:y.n<=4) (hp:y.Peers) (hl:∀ i,i<y.n->y.l i<=200):
  Calls Tryz.prog 63 #[sysV pa pn pc sa sn sc wa wn wc ha y.n hc] w fun e w'=>e=.returned (.bool (qB y.Row))/\Below w.heap.size w w':=by
 have HE:Hid (HisE w ha hA hC y):=hE
 have HH:Hid (y.Peers/\(∀ i,i<y.n->y.l i<=200)/\(∀ i,i<y.n->y.l i<=hC i)):=⟨hp,hl,hcap⟩
 have hn4:(y.n:Int)<=4:=by omega
 have hmk:∀ wx:World,(Instr.makeSlice 30 (.int .i64 (y.n:Int)) (.int .i64 (y.n:Int))).run Tryz.prog wx=.ok (.slice (some ⟨wx.heap.size,0,none⟩) y.n y.n) (wx.alloc (.cells (madeCells #[.int .i64 0] y.n) 3)):=fun wx=>run_make_int y.n (by omega) wx
 have HOd:Hid (Od w ((w.alloc (oQ4 pa pn pc sa sn sc wa wn wc ha y.n hc)).alloc (.cells (madeCells #[.int .i64 0] y.n) 3)) w.heap.size (w.heap.size+1) ha hc y (fun _=>0)):=by
  refine ⟨.start,⟨fun i hi=>?_,fun j=>yB _ _ _ _ (by simp)⟩,?_,(zT _ _).trans ((zT _ _).mono (by simp))⟩
  ·have:=madeInt_cell (w.alloc (oQ4 pa pn pc sa sn sc wa wn wc ha y.n hc)) y.n i hi
   rw [World.size_alloc] at this
   exact this
  ·exact ((BoxC.new w _ _ _ _ _).below (zT _ _)).2.2.2
 have HD:Hid (w.heap.size+1<((w.alloc (oQ4 pa pn pc sa sn sc wa wn wc ha y.n hc)).alloc (.cells (madeCells #[.int .i64 0] y.n) 3)).heap.size):=by
  show w.heap.size+1<_
  simp
 clear hE hp hl hcap
 go_enter Tryz.func63,Tryz.ntmps63
 go_wp2_with fail
 generalize (w.alloc (oQ4 pa pn pc sa sn sc wa wn wc ha y.n hc)).alloc (.cells (madeCells #[.int .i64 0] y.n) 3)=W1 at *
 generalize hD:w.heap.size+1=D at *
 have HDW:Hid (w.heap.size+1=D):=hD
 clear hmk hD
 go_loopw [6,7] (fun s i wr=>∃ k:Nat,k<=y.n/\i=.int .i64 k/\s=.int .i64 (sumL y.l k:Nat)/\wr=W1) (fun _ i _=>y.n - (intOf i).toNat)
 case atStart=>exact ⟨0,Nat.zero_le _,rfl,rfl,rfl⟩
 case round=>
  obtain ⟨k,hk,rfl,rfl,rfl⟩:=hrel
  have hsum:sumL y.l k<=200*k:=by
   have:∀ j,j<=y.n->sumL y.l j<=200*j:=by
    intro j
    induction j with
    | zero=>exact fun _=>Nat.le_refl _
    | succ j ih=>
     intro hj
     have h5:=ih (by omega)
     have h6:=HH.out.2.1 j (by omega)
     show sumL y.l j+y.l j<=200*(j+1)
     omega
   exact this k hk
  have hsum':((sumL y.l k:Nat):Int)<=1000:=by omega
  have b3:=HOd.out.bx
  by_cases hlt:k<y.n
  ·have hlt':(k:Int)<(y.n:Int):=by omega
   obtain ⟨bh,oh,eh,ch⟩:=(HE.out.below HOd.out.be).row.at hlt
   rw [eh] at b3
   have hl2:(y.l k:Int)<=200:=by have:=HH.out.2.1 k hlt;omega
   clear hsum
   go_wp2
   go_roundw
   case rel=>exact ⟨k+1,by omega,by go_num,by simp only [sumL];congr 1,by first | rfl | trivial⟩
   case measure=>simp [intOf];omega
  ·have hkn:k=y.n:=by omega
   subst hkn
   clear hlt hk hsum b3
   have hlt':¬ ((y.n:Int)<(y.n:Int)):=by omega
   have hsumI:∀ d:Nat->Nat,y.Put d->((sumL y.l y.n:Nat):Int) - ((sumL d y.n:Nat):Int)=((sumL y.l y.n - sumL d y.n:Nat):Int):=fun d hd=>by
    have:=sumL_le hd.le y.n
    omega
   have HSI:Hid (∀ d:Nat->Nat,y.Put d->((sumL y.l y.n:Nat):Int) - ((sumL d y.n:Nat):Int)=((sumL y.l y.n - sumL d y.n:Nat):Int)):=hsumI
   have HSM:Hid (((sumL y.l y.n:Nat):Int)<=1000):=hsum'
   clear hsumI hsum'
   go_wp2_with fail
   go_loopg [5,6] (2*(sumL y.l y.n)+1) (fun gn m s wr=>∃ (t:Bool) (d:Nat->Nat),m=.bool t/\s=.int .i64 ((sumL y.l y.n - sumL d y.n:Nat):Int)/\gn=2*(sumL y.l y.n - sumL d y.n)+(if t=true then 1 else 0)/\Hid (Od w wr w.heap.size D ha hc y d/\D<wr.heap.size/\(t=false->∀ p,p<y.n->¬ y.Can d p)))
   case atStart=>exact ⟨true,fun _=>0,rfl,by rw [sumL_zero];rfl,by rw [sumL_zero];rfl,HOd.out,HD.out,fun h=>by cases h⟩
   case round=>
    clear HOd HD
    obtain ⟨t,d,rfl,rfl,hgn,HI⟩:=hrel
    rcases zK t with rfl | rfl
    ·have HGN:Hid (gk=2*(sumL y.l y.n - sumL d y.n)+1):=hgn
     clear hgn
     go_wp2_with fail
     go_loopw [5,6,8] (fun m s i wr=>∃ (k:Nat) (t':Bool) (d':Nat->Nat),k<=y.n/\i=.int .i64 k/\m=.bool t'/\s=.int .i64 ((sumL y.l y.n - sumL d' y.n:Nat):Int)/\Hid (Od w wr w.heap.size D ha hc y d'/\D<wr.heap.size/\(t'=true->sumL d y.n<sumL d' y.n)/\(t'=false->d'=d/\∀ p,p<k->¬ y.Can d p))) (fun _ _ i _=>y.n - (intOf i).toNat)
     case atStart=>exact ⟨0,false,d,Nat.zero_le _,rfl,rfl,rfl,HI.out.1,HI.out.2.1,(fun h=>by cases h),fun _=>⟨rfl,fun p hp=>by omega⟩⟩
     case round=>
      clear HI
      obtain ⟨k,t',d',hk,rfl,rfl,rfl,HJ⟩:=hrel
      by_cases hlt:k<y.n
      ·have hlt':(k:Int)<(y.n:Int):=by omega
       have hdk:d' k<=y.l k:=HJ.out.1.pu.le k
       have hl2:(y.l k:Int)<=200:=by have:=HH.out.2.1 k hlt;omega
       have dk:=HJ.out.1.od.c k hlt
       have b3:=HJ.out.1.bx
       obtain ⟨bh,oh,eh,ch⟩:=(HE.out.below HJ.out.1.be).row.at hlt
       rw [eh] at b3
       by_cases he:d' k=y.l k
       ·have HNo:Hid (¬ y.Can d' k):=fun h=>by have:=h.1;omega
        have HJ' : ∀ nq, Hid (Od w (wr.drewN nq) w.heap.size D ha hc y d' ∧ D < (wr.drewN nq).heap.size ∧ (t' = true → sumL d y.n < sumL d' y.n) ∧ (t' = false → d' = d ∧ ∀ p, p < k + 1 → ¬ y.Can d p)) := fun nq => ⟨HJ.out.1.below (yC (Below.refl _ _) _) HJ.out.2.1, HJ.out.2.1, HJ.out.2.2.1, fun h => ⟨(HJ.out.2.2.2 h).1, fun p hp => by
         have h5:=HJ.out.2.2.2 h
         by_cases e:p=k
         ·subst e
          rw [<- h5.1]
          exact HNo.out
         ·exact h5.2 p (by omega)⟩⟩
        rw [he] at dk
        have HJQ:Hid (∀ nq,Hid (Od w (wr.drewN nq) w.heap.size D ha hc y d'/\D<(wr.drewN nq).heap.size/\(t'=true->sumL d y.n<sumL d' y.n)/\(t'=false->d'=d/\∀ p,p<k+1->¬ y.Can d p))):=HJ'
        clear HJ HJ' he hdk
        go_wp2_with fail
        go_quiet (fail)
        go_wp2
        go_roundw
        case rel=>exact ⟨k+1,t',d',by omega,by go_num,rfl,rfl,HJQ.out _⟩
        case measure=>simp [intOf];omega
       ·have hkl:d' k<y.l k:=by omega
        have hkl':(d' k:Int)<(y.l k:Int):=by omega
        have hne:((d' k:Int) == (y.l k:Int))=false:=by
         have:¬ (d' k:Int)=(y.l k:Int):=by omega
         simpa using this
        clear he hdk
        go_wp2_with fail
        go_quiet (fail)
        go_wp2_with fail
        have OD:Hid (Od w (wr.drewN nq) w.heap.size D ha hc y d'/\D<(wr.drewN nq).heap.size/\(t'=true->sumL d y.n<sumL d' y.n)/\(t'=false->d'=d/\∀ p,p<k->¬ y.Can d p)):=⟨HJ.out.1.below (yC (Below.refl _ _) _) HJ.out.2.1,HJ.out.2.1,HJ.out.2.2⟩
        clear HJ dk b3 ch
        generalize wr.drewN nq=wd at *
        have dk:=OD.out.1.od.c k hlt
        have b3:=OD.out.1.bx
        obtain ⟨bh',oh',eh',ch⟩:=(HE.out.below OD.out.1.be).row.at hlt
        rw [eh'] at b3
        obtain ⟨b,off,ea,zb,e0,e1,e2⟩:=((HE.out.below OD.out.1.be).ev k hlt).at hkl
        rw [ea] at ch
        have n1:wd.heap.size≠D:=by have:=OD.out.2.1;omega
        have n2:wd.heap.size≠b:=by omega
        have n3:wd.heap.size≠bh':=by have:=zJ wd _ ch;simp at this;omega
        have dk':=cell_allocs dk
        have b3':=cell_allocs b3
        have ch':=cell_allocs ch
        have e0':=cell_allocs e0
        have e1':=cell_allocs e1
        have e2':=cell_allocs e2
        clear zb
        go_region
        all_goals
         have OZ:Hid (Od w (wd.alloc (oQ0 (y.e k (d' k)).k (y.e k (d' k)).q (y.e k (d' k)).v)).drew w.heap.size D ha hc y d'/\D<(wd.alloc (oQ0 (y.e k (d' k)).k (y.e k (d' k)).q (y.e k (d' k)).v)).drew.heap.size/\(t'=true->sumL d y.n<sumL d' y.n)/\(t'=false->d'=d/\∀ p,p<k->¬ y.Can d p)):=⟨OD.out.1.below (zT _ _).drew OD.out.2.1,zL OD.out.2.1 (zT _ _).drew.size,OD.out.2.2⟩
         have z0:(wd.alloc (oQ0 (y.e k (d' k)).k (y.e k (d' k)).q (y.e k (d' k)).v)).drew.cell? ⟨wd.heap.size,0,none⟩=some (.int .i64 (y.e k (d' k)).k):=zW wd _ _ 0 rfl
         have z1:(wd.alloc (oQ0 (y.e k (d' k)).k (y.e k (d' k)).q (y.e k (d' k)).v)).drew.cell? ⟨wd.heap.size,1,none⟩=some (.int .i64 (y.e k (d' k)).q):=zW wd _ _ 1 rfl
         go_wp2_with fail
         clear dk b3 ch e0 e1 e2 dk' b3' ch' e0' e1' e2' n1 n2 n3 OD eh eh' ea
         generalize (wd.alloc (oQ0 (y.e k (d' k)).k (y.e k (d' k)).q (y.e k (d' k)).v)).drew=wz at *
         generalize wd.heap.size=M at *
         rcases zK ((y.e k (d' k)).k == 3) with t3 | t3
         case inr=>
          have HK3:Hid (¬ (y.e k (d' k)).k=3):=by
           show ¬ (y.e k (d' k)).k=3
           simpa using t3
          go_quiet (fail)
          have OQ:Hid (Od w (wz.drewN nq) w.heap.size D ha hc y d'/\D<(wz.drewN nq).heap.size/\(t'=true->sumL d y.n<sumL d' y.n)/\(t'=false->d'=d/\∀ p,p<k->¬ y.Can d p)):=⟨OZ.out.1.below (yC (Below.refl _ _) _) OZ.out.2.1,OZ.out.2.1,OZ.out.2.2⟩
          clear z0 z1 OZ
          generalize wz.drewN nq=wq at *
          have HCn:Hid (y.Can d' k):=⟨hkl,fun h=>absurd h HK3.out⟩
          have HPu:Hid (y.Put (up d' k)):=.next OQ.out.1.pu hlt HCn.out
          have hsu:=sumL_up (d:=d') hlt
          have hsl:=sumL_le HPu.out.le y.n
          have HLE:Hid (((sumL y.l y.n - sumL d' y.n:Nat):Int) - 1=((sumL y.l y.n - sumL (up d' k) y.n:Nat):Int)):=by
           show ((sumL y.l y.n - sumL d' y.n:Nat):Int) - 1=((sumL y.l y.n - sumL (up d' k) y.n:Nat):Int)
           omega
          have hA1:((sumL y.l y.n - sumL d' y.n:Nat):Int)<=1000:=by have:=HSM.out;omega
          have hA0:(1:Int)<=((sumL y.l y.n - sumL d' y.n:Nat):Int):=by omega
          have HNx : Hid (Od w (wq.setCell ⟨D, k, none⟩ (.int .i64 ((d' k : Int) + 1))) w.heap.size D ha hc y (up d' k) ∧ D < (wq.setCell ⟨D, k, none⟩ (.int .i64 ((d' k : Int) + 1))).heap.size ∧ (true = true → sumL d y.n < sumL (up d' k) y.n) ∧ (true = false → up d' k = d ∧ ∀ p, p < k + 1 → ¬ y.Can d p)) := ⟨OQ.out.1.set hlt HCn.out (by have := HDW.out; omega) (by have := HDW.out; omega), by simpa [World.setCell] using OQ.out.2.1, (fun _ => by
           rcases zK t' with h5 | h5
           ·have:=OQ.out.2.2.1 h5
            omega
           ·have:=(OQ.out.2.2.2 h5).1
            rw [this] at hsu ⊢
            omega),(fun h=>by cases h)⟩
          have dkq:=OQ.out.1.od.c k hlt
          have frq:=OQ.out.1.od.fr
          clear hsu hsl OQ
          generalize hAA:((sumL y.l y.n - sumL d' y.n:Nat):Int)=AA at *
          clear hAA
          go_wp2
          go_roundw
          case rel=>exact ⟨k+1,true,up d' k,by omega,by go_num,rfl,by rw [HLE.out],HNx.out⟩
          case measure=>simp [intOf];omega
         case inl=>
          have hk3:(y.e k (d' k)).k=3:=by simpa using t3
          have HK3:Hid ((y.e k (d' k)).k=3):=hk3
          have hq:=HH.out.1 k hlt (d' k) hkl
          obtain ⟨q,hqe⟩:∃ q:Nat,(y.e k (d' k)).q=(q:Int):=⟨(y.e k (d' k)).q.toNat,by omega⟩
          have HQE:Hid ((y.e k (d' k)).q=(q:Int)):=hqe
          have hqn:q<y.n:=by omega
          have hqn':(q:Int)<(y.n:Int):=by omega
          rw [hk3] at z0
          rw [hqe] at z1
          have dk:=OZ.out.1.od.c k hlt
          have dq:=OZ.out.1.od.c q hqn
          have b3:=OZ.out.1.bx
          obtain ⟨bz,oz,ez,ch⟩:=(HE.out.below OZ.out.1.be).row.at hlt
          obtain ⟨bz',oz',ez',cq⟩:=(HE.out.below OZ.out.1.be).row.at hqn
          rw [ez] at b3 ez'
          simp only [Option.some.injEq,Addr.mk.injEq] at ez'
          obtain ⟨rfl,rfl,-⟩:=ez'
          have ks:=slice_to (hA k) (y.l k) (hC k) (d' k) (by have:=HH.out.2.2 k hlt;omega)
          have qs:=slice_to (hA q) (y.l q) (hC q) (d' q) (by have:=HH.out.2.2 q hqn;have:=OZ.out.1.pu.le q;omega)
          have HCk:Hid (∀ dd os,Calls Tryz.prog 115 #[.slice (hA k) (d' k) (hC k),.int .i64 3,.int .i64 q] (grow (redrawn wz dd) os) fun e w'=>e=.returned (.int .i64 (cnt (y.e k) 3 q (d' k):Nat))/\Below (grow (redrawn wz dd) os).heap.size (grow (redrawn wz dd) os) w'):=fun dd os=>specCount_l (hA k) (d' k) (hC k) (y.e k) 3 q _ (by have:=HH.out.2.1 k hlt;omega) (((HE.out.below OZ.out.1.be).below (below_regrown wz dd os)).ev k hlt |>.take (by omega))
          have HCq:Hid (∀ dd os,Calls Tryz.prog 115 #[.slice (hA q) (d' q) (hC q),.int .i64 2,.int .i64 k] (grow (redrawn wz dd) os) fun e w'=>e=.returned (.int .i64 (cnt (y.e q) 2 k (d' q):Nat))/\Below (grow (redrawn wz dd) os).heap.size (grow (redrawn wz dd) os) w'):=fun dd os=>specCount_l (hA q) (d' q) (hC q) (y.e q) 2 k _ (by have:=HH.out.2.1 q hqn;have:=OZ.out.1.pu.le q;omega) (((HE.out.below OZ.out.1.be).below (below_regrown wz dd os)).ev q hqn |>.take (OZ.out.1.pu.le q))
          have z0':=cell_regrown z0
          have z1':=cell_regrown z1
          have dk':=cell_regrown dk
          have dq':=cell_regrown dq
          have b3':=cell_regrown b3
          have ch':=cell_regrown ch
          have cq':=cell_regrown cq
          clear ez hq hqe hk3 t3
          refine wp_region_quiet_below (by kernel_rfl) (by kernel_rfl) ?_
          repeat (quiet_step (first|(go_at_call_of 115 (hA k);exact Calls.regrown_of (HCk.out _ _))|(go_at_call_of 115 (hA q);exact Calls.regrown_of (HCq.out _ _))))
          refine wpQuiet_nil ?_
          intro _ hw'
          obtain ⟨⟨dd,os⟩,hw''⟩:=hw'
          subst hw''
          have OQ:Hid (Od w (grow (redrawn wz dd) os) w.heap.size D ha hc y d'/\D<(grow (redrawn wz dd) os).heap.size/\(t'=true->sumL d y.n<sumL d' y.n)/\(t'=false->d'=d/\∀ p,p<k->¬ y.Can d p)):=⟨OZ.out.1.below (below_regrown wz dd os) OZ.out.2.1,zL OZ.out.2.1 (below_regrown wz dd os).size,OZ.out.2.2⟩
          clear z0' z1' dk' dq' b3' ch' cq' z0 z1 dk dq b3 ch cq ks qs HCk HCq OZ
          generalize grow (redrawn wz dd) os=wq at *
          have HCan:Hid (y.Can d' k ↔ cnt (y.e k) 3 q (d' k)<cnt (y.e q) 2 k (d' q)):=by
           show y.Can d' k ↔ _
           unfold Hs.Can
           rw [HQE.out]
           rw [show ((q:Int)).toNat=q by omega]
           exact ⟨fun h=>h.2 HK3.out,fun h=>⟨hkl,fun _=>h⟩⟩
          generalize cnt (y.e k) 3 q (d' k)=c1 at *
          generalize cnt (y.e q) 2 k (d' q)=c2 at *
          by_cases hcc:(c2:Int)<=(c1:Int)
          ·have HNo:Hid (¬ y.Can d' k):=fun h=>by have:=HCan.out.1 h;omega
           have HJ2 : Hid (Od w wq w.heap.size D ha hc y d' ∧ D < wq.heap.size ∧ (t' = true → sumL d y.n < sumL d' y.n) ∧ (t' = false → d' = d ∧ ∀ p, p < k + 1 → ¬ y.Can d p)) := ⟨OQ.out.1, OQ.out.2.1, OQ.out.2.2.1, fun h => ⟨(OQ.out.2.2.2 h).1, fun p hp => by
            have h5:=OQ.out.2.2.2 h
            by_cases e:p=k
            ·subst e
             rw [<- h5.1]
             exact HNo.out
            ·exact h5.2 p (by omega)⟩⟩
           clear OQ HCan
           go_wp2
           go_roundw
           case rel=>exact ⟨k+1,t',d',by omega,by go_num,rfl,rfl,HJ2.out⟩
           case measure=>simp [intOf];omega
          ·have HCx:Hid (y.Can d' k):=HCan.out.2 (by omega)
           clear HCan
           have HCn:Hid (y.Can d' k):=HCx.out
           have HPu:Hid (y.Put (up d' k)):=.next OQ.out.1.pu hlt HCn.out
           have hsu:=sumL_up (d:=d') hlt
           have hsl:=sumL_le HPu.out.le y.n
           have HLE:Hid (((sumL y.l y.n - sumL d' y.n:Nat):Int) - 1=((sumL y.l y.n - sumL (up d' k) y.n:Nat):Int)):=by
            show ((sumL y.l y.n - sumL d' y.n:Nat):Int) - 1=((sumL y.l y.n - sumL (up d' k) y.n:Nat):Int)
            omega
           have hA1:((sumL y.l y.n - sumL d' y.n:Nat):Int)<=1000:=by have:=HSM.out;omega
           have hA0:(1:Int)<=((sumL y.l y.n - sumL d' y.n:Nat):Int):=by omega
           have HNx : Hid (Od w (wq.setCell ⟨D, k, none⟩ (.int .i64 ((d' k : Int) + 1))) w.heap.size D ha hc y (up d' k) ∧ D < (wq.setCell ⟨D, k, none⟩ (.int .i64 ((d' k : Int) + 1))).heap.size ∧ (true = true → sumL d y.n < sumL (up d' k) y.n) ∧ (true = false → up d' k = d ∧ ∀ p, p < k + 1 → ¬ y.Can d p)) := ⟨OQ.out.1.set hlt HCn.out (by have := HDW.out; omega) (by have := HDW.out; omega), by simpa [World.setCell] using OQ.out.2.1, (fun _ => by
            rcases zK t' with h5 | h5
            ·have:=OQ.out.2.2.1 h5
             omega
            ·have:=(OQ.out.2.2.2 h5).1
             rw [this] at hsu ⊢
             omega),(fun h=>by cases h)⟩
           have dkq:=OQ.out.1.od.c k hlt
           have frq:=OQ.out.1.od.fr
           clear hsu hsl OQ
           generalize hAA:((sumL y.l y.n - sumL d' y.n:Nat):Int)=AA at *
           clear hAA
           go_wp2
           go_roundw
           case rel=>exact ⟨k+1,true,up d' k,by omega,by go_num,rfl,by rw [HLE.out],HNx.out⟩
           case measure=>simp [intOf];omega
      ·have hkn:k=y.n:=by omega
       subst hkn
       have HF:Hid (2*(sumL y.l y.n - sumL d' y.n)+(if t'=true then 1 else 0)<gk):=by
        have h2:=HGN.out
        have h3:=sumL_le HJ.out.1.pu.le y.n
        show _<gk
        cases t' with
        | true=>
         have h4:=HJ.out.2.2.1 rfl
         simp only [if_true]
         omega
        | false=>
         have h4:=(HJ.out.2.2.2 rfl).1
         rw [h4]
         simp only [Bool.false_eq_true,if_false]
         omega
       have HG2 : Hid (Od w wr w.heap.size D ha hc y d' ∧ D < wr.heap.size ∧ (t' = false → ∀ p, p < y.n → ¬ y.Can d' p)) := ⟨HJ.out.1, HJ.out.2.1, fun h p hp => by
        have:=HJ.out.2.2.2 h
        rw [this.1]
        exact this.2 p hp⟩
       clear HJ
       go_wp2
       go_roundg (2*(sumL y.l y.n - sumL d' y.n)+(if t'=true then 1 else 0))
       case measure=>exact HF.out
       case rel=>exact ⟨t',d',rfl,rfl,rfl,HG2.out⟩
    ·have HR:Hid ((((sumL y.l y.n - sumL d y.n:Nat):Int) == 0)=qB y.Row):=by
      show (((sumL y.l y.n - sumL d y.n:Nat):Int) == 0)=qB y.Row
      have hi:=Hs.row_iff HI.out.1.pu HH.out.1 (HI.out.2.2 rfl)
      have hle:=HI.out.1.pu.le
      by_cases hr:y.Row
      ·have:sumL d y.n=sumL y.l y.n:=sumL_same fun i hi'=>hi.1 hr i hi'
       rw [qB_true hr,this]
       simp
      ·rw [qB_false hr]
       have:sumL y.l y.n - sumL d y.n≠0:=fun e=>hr (hi.2 (sumL_all hle _ (by have:=sumL_le hle y.n;omega)))
       have h2:((sumL y.l y.n - sumL d y.n:Nat):Int)≠0:=by omega
       simpa using h2
     have HB:Hid (Below w.heap.size w wr):=HI.out.1.be
     clear HI hgn
     go_wp2
     go_ret
     rw [HR.out]
     exact ⟨rfl,HB.out⟩
def cI (h:I5):List Value:=[.int .i64 h.o,.int .i64 h.r,.int .i64 h.a,.int .i64 h.b,.int .i64 h.n]
def cT (h:I2):List Value:=[.bool h.m,.int .i64 h.v]
def cE (h:E3):List Value:=[.int .i64 h.k,.int .i64 h.q,.int .i64 h.v]
def fI (h:Nat->I5) (n:Nat):List Value:=flat (fun i=>cI (h i)) n
def fT (h:Nat->I2) (n:Nat):List Value:=flat (fun i=>cT (h i)) n
def fE (h:Nat->E3) (n:Nat):List Value:=flat (fun i=>cE (h i)) n
theorem fI_len (h:Nat->I5) (n:Nat):(fI h n).length=n*5:=flat_len fun _ _=>rfl
theorem fT_len (h:Nat->I2) (n:Nat):(fT h n).length=n*2:=flat_len fun _ _=>rfl
theorem fE_len (h:Nat->E3) (n:Nat):(fE h n).length=n*3:=flat_len fun _ _=>rfl
theorem fI_one (h:Nat->I5) (n:Nat):∀ u ∈ fI h n,u.oneCell'=true:=flat_one fun i _ u hu=>by
 simp [cI] at hu
 rcases hu with rfl | rfl | rfl | rfl | rfl <;> rfl
theorem fT_one (h:Nat->I2) (n:Nat):∀ u ∈ fT h n,u.oneCell'=true:=flat_one fun i _ u hu=>by
 simp [cT] at hu
 rcases hu with rfl | rfl <;> rfl
theorem fE_one (h:Nat->E3) (n:Nat):∀ u ∈ fE h n,u.oneCell'=true:=flat_one fun i _ u hu=>by
 simp [cE] at hu
 rcases hu with rfl | rfl | rfl <;> rfl
theorem kndI:Kind 95 155 5 40:=by
 refine ⟨Tryz.underlying95,?_,by omega,by omega⟩
 have hinfo:(Tryz.prog.info? 155).map (fun i=>(i.zero,i.size,i.bytes))=some (some (.agg #[.int .i64 0,.int .i64 0,.int .i64 0,.int .i64 0,.int .i64 0]),5,40):=by kernel_rfl
 cases hi:Tryz.prog.info? 155 with
 | none=>rw [hi] at hinfo;cases hinfo
 | some i=>
  rw [hi] at hinfo
  simp only [Option.map_some,Option.some.injEq,Prod.mk.injEq] at hinfo
  exact ⟨i,_,rfl,hinfo.1,hinfo.2.1,hinfo.2.2,rfl⟩
theorem kndT:Kind 103 144 2 16:=by
 refine ⟨Tryz.underlying103,?_,by omega,by omega⟩
 have hinfo:(Tryz.prog.info? 144).map (fun i=>(i.zero,i.size,i.bytes))=some (some (.agg #[.bool false,.int .i64 0]),2,16):=by kernel_rfl
 cases hi:Tryz.prog.info? 144 with
 | none=>rw [hi] at hinfo;cases hinfo
 | some i=>
  rw [hi] at hinfo
  simp only [Option.map_some,Option.some.injEq,Prod.mk.injEq] at hinfo
  exact ⟨i,_,rfl,hinfo.1,hinfo.2.1,hinfo.2.2,rfl⟩
theorem kndE:Kind 41 50 3 24:=by
 refine ⟨Tryz.underlying41,?_,by omega,by omega⟩
 have hinfo:(Tryz.prog.info? 50).map (fun i=>(i.zero,i.size,i.bytes))=some (some (.agg #[.int .i64 0,.int .i64 0,.int .i64 0]),3,24):=by kernel_rfl
 cases hi:Tryz.prog.info? 50 with
 | none=>rw [hi] at hinfo;cases hinfo
 | some i=>
  rw [hi] at hinfo
  simp only [Option.map_some,Option.some.injEq,Prod.mk.injEq] at hinfo
  exact ⟨i,_,rfl,hinfo.1,hinfo.2.1,hinfo.2.2,rfl⟩
theorem kndS:Kind 25 97 4 64:=by
 refine ⟨Tryz.underlying25,?_,by omega,by omega⟩
 have hinfo:=infoSta
 cases hi:Tryz.prog.info? 97 with
 | none=>rw [hi] at hinfo;cases hinfo
 | some i=>
  rw [hi] at hinfo
  simp only [Option.map_some,Option.some.injEq,Prod.mk.injEq] at hinfo
  exact ⟨i,_,rfl,hinfo.1,hinfo.2.1,hinfo.2.2,rfl⟩
theorem kndII:Kind 24 95 1 24:=by
 refine ⟨Tryz.underlying24,?_,by omega,by omega⟩
 have hinfo:(Tryz.prog.info? 95).map (fun i=>(i.zero,i.size,i.bytes))=some (some (.slice none 0 0),1,24):=by kernel_rfl
 cases hi:Tryz.prog.info? 95 with
 | none=>rw [hi] at hinfo;cases hinfo
 | some i=>
  rw [hi] at hinfo
  simp only [Option.map_some,Option.some.injEq,Prod.mk.injEq] at hinfo
  exact ⟨i,_,rfl,hinfo.1,hinfo.2.1,hinfo.2.2,rfl⟩
theorem kndTT:Kind 26 103 1 24:=by
 refine ⟨Tryz.underlying26,?_,by omega,by omega⟩
 have hinfo:(Tryz.prog.info? 103).map (fun i=>(i.zero,i.size,i.bytes))=some (some (.slice none 0 0),1,24):=by kernel_rfl
 cases hi:Tryz.prog.info? 103 with
 | none=>rw [hi] at hinfo;cases hinfo
 | some i=>
  rw [hi] at hinfo
  simp only [Option.map_some,Option.some.injEq,Prod.mk.injEq] at hinfo
  exact ⟨i,_,rfl,hinfo.1,hinfo.2.1,hinfo.2.2,rfl⟩
theorem kndEE:Kind 27 41 1 24:=by
 refine ⟨Tryz.underlying27,?_,by omega,by omega⟩
 have hinfo:(Tryz.prog.info? 41).map (fun i=>(i.zero,i.size,i.bytes))=some (some (.slice none 0 0),1,24):=by kernel_rfl
 cases hi:Tryz.prog.info? 41 with
 | none=>rw [hi] at hinfo;cases hinfo
 | some i=>
  rw [hi] at hinfo
  simp only [Option.map_some,Option.some.injEq,Prod.mk.injEq] at hinfo
  exact ⟨i,_,rfl,hinfo.1,hinfo.2.1,hinfo.2.2,rfl⟩
theorem srcOf {w:World} {b off sz n:Nat} {f:Nat->List Value} (hb:b<w.heap.size) (hsz:0<sz) (hl:∀ i,i<n->(f i).length=sz) (hc:∀ i,i<n->∀ j,j<sz->w.cell? ⟨b,off+(i*sz+j),none⟩=(f i)[j]?):Src w (some ⟨b,off,none⟩) (flat f n):=by
 refine .inr ⟨b,off,rfl,hb,fun q u hq=>?_⟩
 have hlen:=flat_len hl
 have hq':q<n*sz:=by
  rcases Nat.lt_or_ge q (n*sz) with h | h
  ·exact h
  ·rw [List.getElem?_eq_none (by omega)] at hq
   cases hq
 have hk:q / sz<n:=Nat.div_lt_of_lt_mul (by rw [Nat.mul_comm];exact hq')
 have hr:q % sz<sz:=Nat.mod_lt _ hsz
 have e:q / sz*sz+q % sz=q:=by rw [Nat.mul_comm];exact Nat.div_add_mod q sz
 have h1:=hc (q / sz) hk (q % sz) hr
 have h2:=flat_at hl hk hr
 rw [e] at h1 h2
 rw [h1,<- h2,hq]
theorem srcI {w:World} {b off len:Nat} {g:Nat->I5} (hb:b<w.heap.size) (h:InsAt w b off len g):Src w (some ⟨b,off,none⟩) (fI g len):=srcOf (sz:=5) hb (by omega) (fun _ _=>rfl) fun i hi j hj=>by
 obtain ⟨h0,h1,h2,h3,h4⟩:=h i hi
 match j,hj with
 | 0,_=>exact h0
 | 1,_=>exact h1
 | 2,_=>exact h2
 | 3,_=>exact h3
 | 4,_=>exact h4
theorem srcT {w:World} {a:Option Addr} {len:Nat} {g:Nat->I2} (h:ItL w a len g):Src w a (fT g len):=by
 rcases h with rfl | ⟨b,off,rfl,hb,h⟩
 ·exact .inl rfl
 ·refine srcOf (sz:=2) hb (by omega) (fun _ _=>rfl) fun i hi j hj=>?_
  obtain ⟨h0,h1⟩:=h i hi
  match j,hj with
  | 0,_=>exact h0
  | 1,_=>exact h1
theorem srcE {w:World} {a:Option Addr} {len:Nat} {g:Nat->E3} (h:EvL w a len g):Src w a (fE g len):=by
 rcases h with rfl | ⟨b,off,rfl,hb,h⟩
 ·exact .inl rfl
 ·refine srcOf (sz:=3) hb (by omega) (fun _ _=>rfl) fun i hi j hj=>?_
  obtain ⟨h0,h1,h2⟩:=h i hi
  match j,hj with
  | 0,_=>exact h0
  | 1,_=>exact h1
  | 2,_=>exact h2
theorem atI {w:World} {B:Nat} {u:Value} {n:Nat} {g:Nat->I5} (o:w.ownsRow B 155 5 u n (fI g n)) (hne:u≠.slice none 0 0):∃ b cap,u=.slice (some ⟨b,0,none⟩) n cap/\b<w.heap.size/\InsAt w b 0 n g/\n<=cap:=by
 rcases o.2 with ⟨e,_⟩ | ⟨b,cap,cur,rfl,hb,hg,hcap,_⟩
 ·exact absurd e hne
 ·refine ⟨b,cap,rfl,(o.lt b rfl).2,fun i hi=>?_,hcap⟩
  have hc:∀ j,j<5->w.cell? ⟨b,0+(i*5+j),none⟩=(cI (g i))[j]?:=fun j hj=>by
   rw [Nat.zero_add,o.cellAt _ (by omega)]
   exact flat_at (sz:=5) (fun _ _=>rfl) hi hj
  exact ⟨hc 0 (by omega),hc 1 (by omega),hc 2 (by omega),hc 3 (by omega),hc 4 (by omega)⟩
theorem atT {w:World} {B:Nat} {u:Value} {n:Nat} {g:Nat->I2} (o:w.ownsRow B 144 2 u n (fT g n)) (hne:u≠.slice none 0 0):∃ b cap,u=.slice (some ⟨b,0,none⟩) n cap/\b<w.heap.size/\ItAt w b 0 n g/\n<=cap:=by
 rcases o.2 with ⟨e,_⟩ | ⟨b,cap,cur,rfl,hb,hg,hcap,_⟩
 ·exact absurd e hne
 ·refine ⟨b,cap,rfl,(o.lt b rfl).2,fun i hi=>?_,hcap⟩
  have hc:∀ j,j<2->w.cell? ⟨b,0+(i*2+j),none⟩=(cT (g i))[j]?:=fun j hj=>by
   rw [Nat.zero_add,o.cellAt _ (by omega)]
   exact flat_at (sz:=2) (fun _ _=>rfl) hi hj
  exact ⟨hc 0 (by omega),hc 1 (by omega)⟩
theorem atE {w:World} {B:Nat} {u:Value} {n:Nat} {g:Nat->E3} (o:w.ownsRow B 50 3 u n (fE g n)) (hne:u≠.slice none 0 0):∃ b cap,u=.slice (some ⟨b,0,none⟩) n cap/\b<w.heap.size/\EvAt w b 0 n g/\n<=cap:=by
 rcases o.2 with ⟨e,_⟩ | ⟨b,cap,cur,rfl,hb,hg,hcap,_⟩
 ·exact absurd e hne
 ·refine ⟨b,cap,rfl,(o.lt b rfl).2,fun i hi=>?_,hcap⟩
  have hc:∀ j,j<3->w.cell? ⟨b,0+(i*3+j),none⟩=(cE (g i))[j]?:=fun j hj=>by
   rw [Nat.zero_add,o.cellAt _ (by omega)]
   exact flat_at (sz:=3) (fun _ _=>rfl) hi hj
  exact ⟨hc 0 (by omega),hc 1 (by omega),hc 2 (by omega)⟩
def Cl (B:Nat) (c:Nat->Nat) (i:Nat):Nat->Prop:=fun k=>B<=k/\c k=i
abbrev LI (z:Bool) (w:World) (P:Nat->Prop) (v:Value) (n:Nat) (u:Nat->Value) (L:Nat->Nat) (H:Nat->Nat->I5):Prop:=LL z 155 5 95 w P v n u L fun i=>fI (H i) (L i)
abbrev LT (z:Bool) (w:World) (P:Nat->Prop) (v:Value) (n:Nat) (u:Nat->Value) (L:Nat->Nat) (H:Nat->Nat->I2):Prop:=LL z 144 2 103 w P v n u L fun i=>fT (H i) (L i)
abbrev LE (z:Bool) (w:World) (P:Nat->Prop) (v:Value) (n:Nat) (u:Nat->Value) (L:Nat->Nat) (H:Nat->Nat->E3):Prop:=LL z 50 3 41 w P v n u L fun i=>fE (H i) (L i)
theorem zU {w:World} {B:Nat} {e:TypeId} {sz:Nat} {v:Value} {n:Nat} {xs:List Value} (h:w.ownsRow B e sz v n xs):∃ a c,v=.slice a n c:=by
 rcases h.2 with ⟨rfl,rfl⟩ | ⟨g,cap,cur,rfl,_⟩
 ·exact ⟨none,0,rfl⟩
 ·exact ⟨_,_,rfl⟩
theorem l4Ins_any (a0:Option Addr) (n cap:Nat) (A:Nat->Option Addr) (L C:Nat->Nat) (H:Nat->Nat->I5) (w:World) (hn:n<=1048576) (hL:∀ i,i<n->L i<=1048576) (hr:RowS w a0 n fun i=>.slice (A i) (L i) (C i)) (hI:∀ i,i<n->Src w (A i) (fI (H i) (L i))):
  Calls Tryz.prog 191 #[.slice a0 n cap] w fun e w'=>∃ v u,e=.returned v/\LI true w' (fun k=>w.heap.size<=k/\k<w'.heap.size) v n u L H/\Below w.heap.size w w':=by
 have hn':(n:Int)<=1048576:=by omega
 have HR:Hid (RowS w a0 n fun i=>.slice (A i) (L i) (C i)):=hr
 have HI:Hid (∀ i,i<n->Src w (A i) (fI (H i) (L i))):=hI
 have HL:Hid (∀ i,i<n->L i<=1048576):=hL
 clear hr hI hL
 go_enter Tryz.func191,Tryz.ntmps191
 go_wp2_with fail
 go_loopw [3,4] (fun v i wr=>∃ k:Nat,k<=n/\i=.int .i64 k/\Hid ((∃ u,LI true wr (fun b=>w.heap.size<=b/\b<wr.heap.size) v k u L H)/\Below w.heap.size w wr)) (fun _ i _=>n - (intOf i).toNat)
 case atStart=>exact ⟨0,Nat.zero_le _,rfl,⟨fun _=>.slice none 0 0,LL.new _ _ _ w _ (by simp) _ _ _⟩,zQ _ _⟩
 case round=>
  obtain ⟨k,hk,rfl,HZ⟩:=hrel
  by_cases hlt:k<n
  ·have hlt':(k:Int)<(n:Int):=by omega
   obtain ⟨b,off,rfl,ck⟩:=(HR.out.below HZ.out.2).at hlt
   have hbl:b<wr.heap.size:=zJ wr _ ck
   have HS:Hid (Src wr (A k) (fI (H k) (L k))):=(HI.out k hlt).below HZ.out.2
   have HLk:Hid (L k<=1048576):=HL.out k hlt
   have hk2:Hid (k<=2000000):=by show k<=2000000;omega
   obtain ⟨⟨u,oz⟩,bz⟩:=HZ.out
   have OZ:Hid (LI true wr (fun b=>w.heap.size<=b/\b<wr.heap.size) u3 k u L H):=oz
   have BZ:Hid (Below w.heap.size w wr):=bz
   clear oz bz HZ
   go_wp2_with (first
    | (at_builtin;refine step_append_srcN kndI wr rfl rfl _ _ rfl (A k) (L k) (C k) (fI (H k) (L k)) rfl rfl (fI_len _ _) HS.out (fI_one _ _) (zP HLk.out (by omega)) ?_;intro v4 w4 o4 b4 n4;obtain ⟨a4,c4,rfl⟩:=zU o4;have F4:Hid (w4.ownsRow wr.heap.size 155 5 (.slice a4 (L k) c4) (L k) (fI (H k) (L k))/\Below wr.heap.size wr w4/\Value.slice a4 (L k) c4≠.slice none 0 0):=⟨o4,b4,n4⟩;clear o4 b4 n4)
    | (at_builtin;refine step_append_val kndII w4 rfl rfl _ _ rfl 0 u3 k _ rfl (OZ.out.below F4.out.2.1).row #[.slice a4 (L k) c4] rfl rfl (by intro u hu;simp at hu;subst hu;rfl) hk2.out (Nat.zero_le _) ?_;intro v5 w5 o5 g5 q5 n5;have F5:Hid (LI true w5 (fun b=>w.heap.size<=b/\b<w5.heap.size) v5 (k+1) (fun j=>if j=k then .slice a4 (L k) c4 else u j) L H/\Below w.heap.size w w5):=⟨OZ.out.push F4.out.2.1 F4.out.1 (fun _=>F4.out.2.2) o5 g5 q5 (fun j hj _=>⟨hj.1,zL hj.2 (zP F4.out.2.1.size g5.size)⟩) (fun j hj hj'=>⟨zP BZ.out.size hj,hj'⟩),Below.grown (BZ.out.trans (F4.out.2.1.mono BZ.out.size)) g5 (zP BZ.out.size F4.out.2.1.size) (fun j hj=>(OZ.out.rb j hj).1)⟩;clear o5 g5 q5 n5))
   go_roundw
   case rel=>exact ⟨k+1,by omega,by go_num,⟨_,F5.out.1⟩,F5.out.2⟩
   case measure=>simp [intOf];omega
  ·have hkn:k=n:=by omega
   subst hkn
   go_wp2
   go_ret
   obtain ⟨⟨u,oz⟩,bz⟩:=HZ.out
   exact ⟨_,u,rfl,oz,bz⟩
theorem l4Events_any (a0:Option Addr) (n cap:Nat) (A:Nat->Option Addr) (L C:Nat->Nat) (H:Nat->Nat->E3) (w:World) (hn:n<=1048576) (hL:∀ i,i<n->L i<=1048576) (hr:RowS w a0 n fun i=>.slice (A i) (L i) (C i)) (hI:∀ i,i<n->Src w (A i) (fE (H i) (L i))):
  Calls Tryz.prog 193 #[.slice a0 n cap] w fun e w'=>∃ v u,e=.returned v/\LE true w' (fun k=>w.heap.size<=k/\k<w'.heap.size) v n u L H/\Below w.heap.size w w':=by
 have hn':(n:Int)<=1048576:=by omega
 have HR:Hid (RowS w a0 n fun i=>.slice (A i) (L i) (C i)):=hr
 have HI:Hid (∀ i,i<n->Src w (A i) (fE (H i) (L i))):=hI
 have HL:Hid (∀ i,i<n->L i<=1048576):=hL
 clear hr hI hL
 go_enter Tryz.func193,Tryz.ntmps193
 go_wp2_with fail
 go_loopw [3,4] (fun v i wr=>∃ k:Nat,k<=n/\i=.int .i64 k/\Hid ((∃ u,LE true wr (fun b=>w.heap.size<=b/\b<wr.heap.size) v k u L H)/\Below w.heap.size w wr)) (fun _ i _=>n - (intOf i).toNat)
 case atStart=>exact ⟨0,Nat.zero_le _,rfl,⟨fun _=>.slice none 0 0,LL.new _ _ _ w _ (by simp) _ _ _⟩,zQ _ _⟩
 case round=>
  obtain ⟨k,hk,rfl,HZ⟩:=hrel
  by_cases hlt:k<n
  ·have hlt':(k:Int)<(n:Int):=by omega
   obtain ⟨b,off,rfl,ck⟩:=(HR.out.below HZ.out.2).at hlt
   have hbl:b<wr.heap.size:=zJ wr _ ck
   have HS:Hid (Src wr (A k) (fE (H k) (L k))):=(HI.out k hlt).below HZ.out.2
   have HLk:Hid (L k<=1048576):=HL.out k hlt
   have hk2:Hid (k<=2000000):=by show k<=2000000;omega
   obtain ⟨⟨u,oz⟩,bz⟩:=HZ.out
   have OZ:Hid (LE true wr (fun b=>w.heap.size<=b/\b<wr.heap.size) u3 k u L H):=oz
   have BZ:Hid (Below w.heap.size w wr):=bz
   clear oz bz HZ
   go_wp2_with (first
    | (at_builtin;refine step_append_srcN kndE wr rfl rfl _ _ rfl (A k) (L k) (C k) (fE (H k) (L k)) rfl rfl (fE_len _ _) HS.out (fE_one _ _) (zP HLk.out (by omega)) ?_;intro v4 w4 o4 b4 n4;obtain ⟨a4,c4,rfl⟩:=zU o4;have F4:Hid (w4.ownsRow wr.heap.size 50 3 (.slice a4 (L k) c4) (L k) (fE (H k) (L k))/\Below wr.heap.size wr w4/\Value.slice a4 (L k) c4≠.slice none 0 0):=⟨o4,b4,n4⟩;clear o4 b4 n4)
    | (at_builtin;refine step_append_val kndEE w4 rfl rfl _ _ rfl 0 u3 k _ rfl (OZ.out.below F4.out.2.1).row #[.slice a4 (L k) c4] rfl rfl (by intro u hu;simp at hu;subst hu;rfl) hk2.out (Nat.zero_le _) ?_;intro v5 w5 o5 g5 q5 n5;have F5:Hid (LE true w5 (fun b=>w.heap.size<=b/\b<w5.heap.size) v5 (k+1) (fun j=>if j=k then .slice a4 (L k) c4 else u j) L H/\Below w.heap.size w w5):=⟨OZ.out.push F4.out.2.1 F4.out.1 (fun _=>F4.out.2.2) o5 g5 q5 (fun j hj _=>⟨hj.1,zL hj.2 (zP F4.out.2.1.size g5.size)⟩) (fun j hj hj'=>⟨zP BZ.out.size hj,hj'⟩),Below.grown (BZ.out.trans (F4.out.2.1.mono BZ.out.size)) g5 (zP BZ.out.size F4.out.2.1.size) (fun j hj=>(OZ.out.rb j hj).1)⟩;clear o5 g5 q5 n5))
   go_roundw
   case rel=>exact ⟨k+1,by omega,by go_num,⟨_,F5.out.1⟩,F5.out.2⟩
   case measure=>simp [intOf];omega
  ·have hkn:k=n:=by omega
   subst hkn
   go_wp2
   go_ret
   obtain ⟨⟨u,oz⟩,bz⟩:=HZ.out
   exact ⟨_,u,rfl,oz,bz⟩
theorem stepR_append_src {ops:Array Oper} {o:Oper} {a:Act} {K:Act->World->Prop} {Q:Exit->Act->World->Prop} {E:Prop} {t e:TypeId} {size bytes:Nat} (KK:Kind t e size bytes) (w:World) (hg:o.guard=none) (s x:Operand)
  (ho:o.op=.call { callee:=.builtin .append,args:=#[s,x],argTypes:=#[t,t] })
  (B:Nat) (v:Value) (n:Nat) (xs:List Value) (hs:a.eval s=v) (hown:w.ownsRow B e size v n xs) (a0:Option Addr) (m c:Nat) (news:List Value) (hx:a.eval x=.slice a0 m c) (hl:news.length=m*size) (hsrc:Src w a0 news) (h1:∀ u ∈ news,u.oneCell'=true) (hnm:n+m<=4000000) (hB:B<=w.heap.size)
  (h:∀ v' w',w'.ownsRow B e size v' (n+m) (xs ++ news)->w.grownBy w' v.ownBlock->(v'.ownBlock=v.ownBlock\/v'.ownBlock=some w.heap.size)->(v≠.slice none 0 0\/0<m->v'≠.slice none 0 0)->K (a.put o.dst v') w'):
  if Region.wanted o (yielded ops a.tmps)=true then Oper.wp Tryz.prog o a w K Q else E:=by
 obtain ⟨v',w',r1,r2,r3,r4,r5⟩:=run_append_src KK w o.type B v n xs hown a0 m c news hl hsrc h1 hnm hB
 have hw:Region.wanted o (yielded ops a.tmps)=true:=by simp [Region.wanted,hg]
 rw [if_pos hw]
 unfold Oper.wp execOp
 simp only [ho,resolve,invoke,builtin,Sem.run_bind,Sem.run_pure,Result.andThen_ok,List.map_toArray,List.map_cons,List.map_nil,hs,hx,r1]
 exact h v' w' r2 r3 r4 r5
theorem stepR_append_srcN {ops:Array Oper} {o:Oper} {a:Act} {K:Act->World->Prop} {Q:Exit->Act->World->Prop} {E:Prop} {t e:TypeId} {size bytes:Nat} (KK:Kind t e size bytes) (w:World) {N:Nat} (hN:N=w.heap.size) (hg:o.guard=none) (s x:Operand)
  (ho:o.op=.call { callee:=.builtin .append,args:=#[s,x],argTypes:=#[t,t] })
  (a0:Option Addr) (m c:Nat) (news:List Value) (hs:a.eval s=.slice (some ⟨N,0,none⟩) 0 0) (hx:a.eval x=.slice a0 m c) (hl:news.length=m*size) (hsrc:Src w a0 news) (h1:∀ u ∈ news,u.oneCell'=true) (hnm:m<=4000000)
  (h:∀ v' w',w'.ownsRow w.heap.size e size v' m news->Below w.heap.size w w'->v'≠.slice none 0 0->K (a.put o.dst v') w'):
  if Region.wanted o (yielded ops a.tmps)=true then Oper.wp Tryz.prog o a (w.alloc (.cells #[] e)) K Q else E:=by
 subst hN
 have hb:Below w.heap.size w (w.alloc (.cells #[] e)):=zQ _ _
 refine stepR_append_src KK _ hg s x ho w.heap.size (.slice (some ⟨w.heap.size,0,none⟩) 0 0) 0 [] hs (World.ownsRow_made (base:=w.heap.size) (e:=e) (size:=size) w #[] 0 (Nat.le_refl _) (by unfold maxLen;omega) (by simp)) a0 m c news hx hl (hsrc.below hb) h1 (by omega) (by simp) ?_
 intro v' w' o g _ hne
 rw [Nat.zero_add,List.nil_append] at o
 exact h v' w' o (hb.grown g (by simp) (fun k hk=>by cases hk;exact Nat.le_refl _)) (hne (.inl (by simp)))
theorem stepR_append_val {ops:Array Oper} {o:Oper} {a:Act} {K:Act->World->Prop} {Q:Exit->Act->World->Prop} {E:Prop} {t e:TypeId} {size bytes:Nat} (KK:Kind t e size bytes) (w:World) {N:Nat} (hN:N=w.heap.size) (hg:o.guard=none) (s x:Operand)
  (ho:o.op=.call { callee:=.builtin .append,args:=#[s,x],argTypes:=#[t,t] })
  (B:Nat) (v:Value) (n:Nat) (xs:List Value) (hs:a.eval s=v) (hown:w.ownsRow B e size v n xs) (cs:Array Value) (hx:a.eval x=.slice (some ⟨N,0,none⟩) 1 1) (hl:cs.size=size) (h1:∀ u ∈ cs.toList,u.oneCell'=true) (hn:n<=2000000) (hB:B<=w.heap.size)
  (h:∀ v' w',w'.ownsRow B e size v' (n+1) (xs ++ cs.toList)->w.grownBy w' v.ownBlock->(∀ j,v'.ownBlock=some j->v.ownBlock=some j\/w.heap.size<=j)->v'≠.slice none 0 0->K (a.put o.dst v') w'):
  if Region.wanted o (yielded ops a.tmps)=true then Oper.wp Tryz.prog o a (w.alloc (.cells cs e)) K Q else E:=by
 subst hN
 have hb:Below w.heap.size w (w.alloc (.cells cs e)):=zQ _ _
 refine stepR_append_src KK _ hg s x ho B v n xs hs (hown.alloc _) (some ⟨w.heap.size,0,none⟩) 1 1 cs.toList hx (by simp [hl]) (.inr ⟨w.heap.size,0,rfl,by simp,fun j u hj=>?_⟩) h1 (by omega) (by simp;omega) ?_
 ·rw [Nat.zero_add,zW _ _ _ j rfl]
  simpa using hj
 ·intro v' w' o g hbk hne
  refine h v' w' o ⟨g.os,g.tape,g.output,zP hb.size g.size,fun j hj hne=>(g.block j (zL hj hb.size) hne).trans (hb.block j hj)⟩ (fun j hj=>?_) (hne (.inr (by omega)))
  rcases hbk with a | a
  ·exact .inl (a.symm.trans hj)
  ·rw [hj] at a
   simp only [Option.some.injEq] at a
   right
   rw [a]
   simp
theorem stepR_call {ops:Array Oper} {o:Oper} {a:Act} {w:World} {K:Act->World->Prop} {Q:Exit->Act->World->Prop} {E:Prop} (hg:o.guard=none) (f:FuncId) (args:Array Operand) (ts:Array TypeId)
  (ho:o.op=.call { callee:=.value (.func f),args:=args,argTypes:=ts }) (vals:Array Value) (hv:args.map a.eval=vals) (hen:∀ vs wx,(callFunc f vs).run Tryz.prog wx=.ok (.enter f vs) wx) {post:Ending->World->Prop} (hc:Calls Tryz.prog f vals w post)
  (h:∀ e w',post e w'->∃ v,e=.returned v/\K (a.put o.dst v) w'):
  if Region.wanted o (yielded ops a.tmps)=true then Oper.wp Tryz.prog o a w K Q else E:=by
 have hw:Region.wanted o (yielded ops a.tmps)=true:=by simp [Region.wanted,hg]
 rw [if_pos hw]
 have hr:(execOp a.eval o).run Tryz.prog w=.ok (.enter f vals) w:=by
  unfold execOp
  simp [ho,resolve,invoke,hv,hen,Act.eval,Deferred.ofValue]
 unfold Oper.wp
 rw [hr,Oper.upon_enter]
 refine hc.mono fun e w' hp=>?_
 obtain ⟨v,rfl,hk⟩:=h e w' hp
 exact hk
