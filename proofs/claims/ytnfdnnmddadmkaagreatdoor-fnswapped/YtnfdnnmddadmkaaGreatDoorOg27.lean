import Derived.BigRegion
import Derived.Test.YtnfdnnmddadmkaaGreatDoorOg25
namespace Go.Proofs.YtnfdnnmddadmkaaGreatDoor
set_option maxRecDepth 100000
set_option maxHeartbeats 2000000
open Go.RowKit Go.Deep
def numL (h:Nat->I2):Nat->List Int
 | 0=>[]
 | n+1=>if (h n).m=true then numL h n else numL h n ++ [(h n).v]
theorem qfy (h:Nat->I2):∀ n,(numL h n).length<=n
 | 0=>Nat.le_refl _
 | n+1=>by
  unfold numL
  have:=qfy h n
  split
  ·omega
  ·simp;omega
theorem qgx {h:Nat->I2} {n:Nat} (hh:(h n).m=false):numL h (n+1)=numL h n ++ [(h n).v]:=by
 rw [numL,if_neg (by rw [hh];decide)]
theorem qnx {h:Nat->I2} {n:Nat} (hh:(h n).m=true):numL h (n+1)=numL h n:=by
 rw [numL,if_pos hh]
theorem qd4 (ea:Option Addr) (len cap:Nat) (eh:Nat->E3) (kd pr:Int) (w:World) (hlen:len<=1048576) (hc:EvL w ea len eh):
  Calls Tryz.prog 111 #[.slice ea len cap,.int .i64 kd,.int .i64 pr] w fun e w'=>∃ v,e=.returned v/\OwnI w' w.heap.size v (valL eh kd pr len)/\Below w.heap.size w w':=by
 have hl':(len:Int)<=1048576:=by omega
 have HC:Hid (EvL w ea len eh):=hc
 clear hc
 go_enter Tryz.func111,Tryz.ntmps111
 go_wp2_with fail
 go_loopw [7,8] (fun o i wr=>∃ k:Nat,k<=len/\i=.int .i64 k/\Hid (OwnI wr w.heap.size o (valL eh kd pr k))/\Below w.heap.size w wr) (fun _ i _=>len - (intOf i).toNat)
 case atStart=>exact ⟨0,Nat.zero_le _,rfl,qcf w,(Below.refl _ _).alloc (Nat.le_refl _) _⟩
 case round=>
  obtain ⟨k,hk,rfl,HO,hbw⟩:=hrel
  have hs:=hbw.size
  by_cases hlt:k<len
  ·have hlt':(k:Int)<(len:Int):=by omega
   have hvl:=qf4 eh kd pr k
   obtain ⟨b,off,rfl,-,c0,c1,c2⟩:=(HC.out.below hbw).at hlt
   rcases zK ((eh k).k == kd) with t1 | t1
   ·rcases zK ((eh k).q == pr) with t2 | t2
    ·have HH : Hid (valL eh kd pr (k + 1) = valL eh kd pr k ++ [(eh k).v]) := qod (by
      unfold hitB
      rw [t1,t2]
      rfl)
     go_wp2_with (at_builtin;refine qfo wr rfl _ _ rfl w.heap.size u7 (valL eh kd pr k) rfl HO.out (eh k).v rfl (by omega) hs ?_;intro v' w4 o4 b4;have H4:Hid (OwnI w4 w.heap.size v' (valL eh kd pr (k+1))):=o4.to HH.out;clear o4)
     go_roundw
     case rel=>exact ⟨k+1,by omega,by go_num,H4.out,hbw.trans b4⟩
     case measure=>simp [intOf];omega
    ·have HH : Hid (valL eh kd pr (k + 1) = valL eh kd pr k) := qjv (by
      unfold hitB
      rw [t1,t2]
      rfl)
     go_wp2
     go_roundw
     case rel=>exact ⟨k+1,by omega,by go_num,HO.out.to HH.out,hbw⟩
     case measure=>simp [intOf];omega
   ·have HH : Hid (valL eh kd pr (k + 1) = valL eh kd pr k) := qjv (by
     unfold hitB
     rw [t1]
     rfl)
    go_wp2
    go_roundw
    case rel=>exact ⟨k+1,by omega,by go_num,HO.out.to HH.out,hbw⟩
    case measure=>simp [intOf];omega
  ·have hkl:k=len:=by omega
   have H4:Hid (OwnI wr w.heap.size u7 (valL eh kd pr len)):=by
    have:=HO.out
    rw [hkl] at this
    exact this
   clear HO hkl
   go_wp2
   go_ret
   exact ⟨_,rfl,H4.out,hbw⟩
theorem qf0 (ea:Option Addr) (len cap:Nat) (eh:Nat->E3) (kd pr:Int) (w:World) (hlen:len<=1048576) (hc:EvL w ea len eh):
  Calls Tryz.prog 225 #[.slice ea len cap,.int .i64 kd,.int .i64 pr] w fun e w'=>∃ v,e=.returned v/\OwnI w' w.heap.size v (plI eh kd pr len)/\Below w.heap.size w w':=by
 have hl':(len:Int)<=1048576:=by omega
 have HC:Hid (EvL w ea len eh):=hc
 clear hc
 go_enter Tryz.func225,Tryz.ntmps225
 go_wp2_with fail
 go_loopw [7,13] (fun o i wr=>∃ k:Nat,k<=len/\i=.int .i64 k/\Hid (OwnI wr w.heap.size o (plI eh kd pr k))/\Below w.heap.size w wr) (fun _ i _=>len - (intOf i).toNat)
 case atStart=>exact ⟨0,Nat.zero_le _,rfl,qcf w,(Below.refl _ _).alloc (Nat.le_refl _) _⟩
 case round=>
  obtain ⟨k,hk,rfl,HO,hbw⟩:=hrel
  have hs:=hbw.size
  by_cases hlt:k<len
  ·have hlt':(k:Int)<(len:Int):=by omega
   have hvl:=qnz eh kd pr k
   obtain ⟨b,off,rfl,-,c0,c1,c2⟩:=(HC.out.below hbw).at hlt
   rcases zK ((eh k).k == kd) with t1 | t1
   ·rcases zK ((eh k).q == pr) with t2 | t2
    ·have HH : Hid (plI eh kd pr (k + 1) = plI eh kd pr k ++ [(k : Int)]) := qjc (by
      unfold hitB
      rw [t1,t2]
      rfl)
     go_wp2_with (at_builtin;refine qcv _ (N:=wr.heap.size+1) (by simp) rfl _ _ rfl w.heap.size u7 (plI eh kd pr k) rfl (HO.out.below (by go_grown)) k rfl (by omega) (by simp;omega) ?_;intro v' w4 o4 b4;have H4:Hid (OwnI w4 w.heap.size v' (plI eh kd pr (k+1))):=o4.to HH.out;clear o4)
     go_roundw
     case rel=>exact ⟨k+1,by omega,by go_num,H4.out,Below.trans (by go_grown) b4⟩
     case measure=>simp [intOf];omega
    ·have HH : Hid (plI eh kd pr (k + 1) = plI eh kd pr k) := qhk (by
      unfold hitB
      rw [t1,t2]
      rfl)
     go_wp2
     go_roundw
     case rel=>exact ⟨k+1,by omega,by go_num,(HO.out.below (by go_grown)).to HH.out,by go_grown⟩
     case measure=>simp [intOf];omega
   ·have HH : Hid (plI eh kd pr (k + 1) = plI eh kd pr k) := qhk (by
     unfold hitB
     rw [t1]
     rfl)
    go_wp2
    go_roundw
    case rel=>exact ⟨k+1,by omega,by go_num,(HO.out.below (by go_grown)).to HH.out,by go_grown⟩
    case measure=>simp [intOf];omega
  ·have hkl:k=len:=by omega
   have H4:Hid (OwnI wr w.heap.size u7 (plI eh kd pr len)):=by
    have:=HO.out
    rw [hkl] at this
    exact this
   clear HO hkl
   go_wp2
   go_ret
   exact ⟨_,rfl,H4.out,hbw⟩
theorem qex (ea:Option Addr) (len cap:Nat) (eh:Nat->E3) (kd pr:Int) (w:World) (hlen:len<=1048576) (hc:EvL w ea len eh):
  Calls Tryz.prog 177 #[.slice ea len cap,.int .i64 kd,.int .i64 pr] w fun e w'=>e=.returned (.int .i64 ((plN eh kd pr len).length:Nat))/\Below w.heap.size w w':=by
 have HC:Hid (EvL w ea len eh):=hc
 clear hc
 go_enter Tryz.func177,Tryz.ntmps177
 go_wp2_with fail
 refine (qd4 ea len cap eh kd pr w hlen HC.out).mono ?_
 rintro e w1 ⟨v,rfl,o1,b1⟩
 obtain ⟨a0,cp,rfl,-⟩:=o1.form
 rw [qnd]
 go_wp2
 go_ret
 exact ⟨rfl,b1⟩
theorem qgi (ea:Option Addr) (len cap:Nat) (eh:Nat->E3) (kd pr:Int) (w:World) (hlen:len<=1048576) (hc:EvL w ea len eh):
  Calls Tryz.prog 183 #[.slice ea len cap,.int .i64 kd,.int .i64 pr] w fun e w'=>∃ v,e=.returned v/\OwnI w' w.heap.size v (valL eh kd pr len)/\Below w.heap.size w w':=by
 have hl':(len:Int)<=1048576:=by omega
 have HC:Hid (EvL w ea len eh):=hc
 clear hc
 have hpl:=qnz eh kd pr len
 go_enter Tryz.func183,Tryz.ntmps183
 go_wp2_with fail
 refine (qf0 ea len cap eh kd pr _ hlen (HC.out.below (by go_grown))).mono ?_
 rintro e w1 ⟨v,rfl,o1,b1⟩
 have B1:Hid (Below w.heap.size w w1):=qah (by go_grown) b1 (by simp)
 obtain ⟨a0,cp,rfl,-⟩:=o1.form
 have HS:Hid (OwnI w1 (w.heap.size+1) (.slice a0 (plI eh kd pr len).length cp) (plI eh kd pr len)):=by
  rw [World.size_alloc] at o1
  exact o1
 clear o1
 go_wp2_with fail
 have HO:Hid (OwnI w1 w.heap.size (.slice (some ⟨w.heap.size,0,none⟩) 0 0) []):=(qcf w).below b1
 clear b1
 go_loopw [7,16] (fun o i wr=>∃ k:Nat,k<=(plI eh kd pr len).length/\i=.int .i64 k/\Hid (OwnI wr w.heap.size o (valT eh kd pr len k))/\Below w.heap.size w wr/\Hid (Away w w1 wr o)) (fun _ i _=>(plI eh kd pr len).length - (intOf i).toNat)
 case atStart=>exact ⟨0,Nat.zero_le _,rfl,HO.out,B1.out,⟨fun j hj=>by simp [Value.ownBlock] at hj;exact .inl hj.symm,fun _ _ _=>rfl,Nat.le_refl _⟩⟩
 case round=>
  clear HO B1
  obtain ⟨k,hk,rfl,HO,hbw,HA⟩:=hrel
  have hs:=hbw.size
  by_cases hlt:k<(plI eh kd pr len).length
  ·have hlt':(k:Int)<((plI eh kd pr len).length:Int):=by omega
   obtain ⟨b0,o0,e0,hb0,hcell⟩:=(HA.out.sl (Nat.lt_succ_self _) HS.out).at hlt
   obtain ⟨q,hq,hql,hqe⟩:=qk6 eh kd pr len k hlt
   have hql':(q:Int)<(len:Int):=by omega
   rw [hq] at hcell
   subst e0
   have hvl:=qu6 eh kd pr len k
   have HH:Hid (valT eh kd pr len (k+1)=valT eh kd pr len k ++ [(eh q).v]):=qrl hqe
   obtain ⟨b,off,rfl,-,c0,c1,c2⟩:=(HC.out.below hbw).at hql
   clear hq hqe
   go_wp2_with (at_builtin;refine qoh wr rfl _ _ rfl w.heap.size u7 (valT eh kd pr len k) rfl HO.out (eh q).v rfl (by omega) hs ?_;intro v' w4 o4 g4 a4;have A4:Hid (Away w w1 w4 v'):=HA.out.step g4 a4;have b4:Below w.heap.size wr w4:=⟨g4.os,g4.tape,g4.output,g4.size,fun j hj=>g4.block j (zL hj hs) (fun e=>Nat.not_le_of_lt hj (HO.out.lt j e.symm).1)⟩;have H4:Hid (OwnI w4 w.heap.size v' (valT eh kd pr len (k+1))):=o4.to HH.out;clear o4 g4 a4)
   go_roundw
   case rel=>exact ⟨k+1,by omega,by go_num,H4.out,hbw.trans b4,A4.out⟩
   case measure=>simp [intOf];omega
  ·have hkl:k=(plI eh kd pr len).length:=by omega
   have H4:Hid (OwnI wr w.heap.size u7 (valL eh kd pr len)):=by
    have:=HO.out
    rw [hkl,qtj] at this
    exact this
   clear HO hkl
   go_wp2
   go_ret
   exact ⟨_,rfl,H4.out,hbw⟩
theorem qjj (ea:Option Addr) (len cap:Nat) (h:Nat->I2) (w:World) (hlen:len<=1048576) (hc:ItL w ea len h):
  Calls Tryz.prog 176 #[.slice ea len cap] w fun e w'=>∃ v,e=.returned v/\OwnI w' w.heap.size v (numL h len)/\Below w.heap.size w w':=by
 have hl':(len:Int)<=1048576:=by omega
 have HC:Hid (ItL w ea len h):=hc
 clear hc
 go_enter Tryz.func176,Tryz.ntmps176
 go_wp2_with fail
 go_loopw [3,4] (fun o i wr=>∃ k:Nat,k<=len/\i=.int .i64 k/\Hid (OwnI wr w.heap.size o (numL h k))/\Below w.heap.size w wr) (fun _ i _=>len - (intOf i).toNat)
 case atStart=>exact ⟨0,Nat.zero_le _,rfl,qcf w,(Below.refl _ _).alloc (Nat.le_refl _) _⟩
 case round=>
  obtain ⟨k,hk,rfl,HO,hbw⟩:=hrel
  have hs:=hbw.size
  by_cases hlt:k<len
  ·have hlt':(k:Int)<(len:Int):=by omega
   have hvl:=qfy h k
   obtain ⟨b,off,rfl,-,c0,c1⟩:=(HC.out.below hbw).at hlt
   rcases zK (h k).m with t1 | t1
   ·have HH:Hid (numL h (k+1)=numL h k):=qnx t1
    rw [t1] at c0
    go_wp2
    go_roundw
    case rel=>exact ⟨k+1,by omega,by go_num,HO.out.to HH.out,hbw⟩
    case measure=>simp [intOf];omega
   ·have HH:Hid (numL h (k+1)=numL h k ++ [(h k).v]):=qgx t1
    rw [t1] at c0
    go_wp2_with (at_builtin;refine qfo wr rfl _ _ rfl w.heap.size u3 (numL h k) rfl HO.out (h k).v rfl (by omega) hs ?_;intro v' w4 o4 b4;have H4:Hid (OwnI w4 w.heap.size v' (numL h (k+1))):=o4.to HH.out;clear o4)
    go_roundw
    case rel=>exact ⟨k+1,by omega,by go_num,H4.out,hbw.trans b4⟩
    case measure=>simp [intOf];omega
  ·have hkl:k=len:=by omega
   have H4:Hid (OwnI wr w.heap.size u3 (numL h len)):=by
    have:=HO.out
    rw [hkl] at this
    exact this
   clear HO hkl
   go_wp2
   go_ret
   exact ⟨_,rfl,H4.out,hbw⟩
theorem qiy (ea:Option Addr) (len cap:Nat) (h:Nat->I2) (w:World) (hlen:len<=1048576) (hc:ItL w ea len h):
  Calls Tryz.prog 19 #[.slice ea len cap] w fun e w'=>∃ v,e=.returned v/\OwnI w' w.heap.size v (numL h len)/\Below w.heap.size w w':=by
 have hl':(len:Int)<=1048576:=by omega
 have HC:Hid (ItL w ea len h):=hc
 clear hc
 go_enter Tryz.func19,Tryz.ntmps19
 go_wp2_with fail
 go_loopw [3,9] (fun o i wr=>∃ k:Nat,k<=len/\i=.int .i64 k/\Hid (OwnI wr w.heap.size o (numL h k))/\Below w.heap.size w wr) (fun _ i _=>len - (intOf i).toNat)
 case atStart=>exact ⟨0,Nat.zero_le _,rfl,qcf w,(Below.refl _ _).alloc (Nat.le_refl _) _⟩
 case round=>
  obtain ⟨k,hk,rfl,HO,hbw⟩:=hrel
  have hs:=hbw.size
  by_cases hlt:k<len
  ·have hlt':(k:Int)<(len:Int):=by omega
   have hvl:=qfy h k
   obtain ⟨b,off,rfl,-,c0,c1⟩:=(HC.out.below hbw).at hlt
   rcases zK (h k).m with t1 | t1
   ·have HH:Hid (numL h (k+1)=numL h k):=qnx t1
    rw [t1] at c0
    go_wp2
    go_roundw
    case rel=>exact ⟨k+1,by omega,by go_num,(HO.out.below (by go_grown)).to HH.out,by go_grown⟩
    case measure=>simp [intOf];omega
   ·have HH:Hid (numL h (k+1)=numL h k ++ [(h k).v]):=qgx t1
    rw [t1] at c0
    go_wp2_with (at_builtin;refine qcv _ (N:=wr.heap.size+1) (by simp) rfl _ _ rfl w.heap.size u3 (numL h k) rfl (HO.out.below (by go_grown)) (h k).v rfl (by omega) (by simp;omega) ?_;intro v' w4 o4 b4;have H4:Hid (OwnI w4 w.heap.size v' (numL h (k+1))):=o4.to HH.out;clear o4)
    go_roundw
    case rel=>exact ⟨k+1,by omega,by go_num,H4.out,Below.trans (by go_grown) b4⟩
    case measure=>simp [intOf];omega
  ·have hkl:k=len:=by omega
   have H4:Hid (OwnI wr w.heap.size u3 (numL h len)):=by
    have:=HO.out
    rw [hkl] at this
    exact this
   clear HO hkl
   go_wp2
   go_ret
   exact ⟨_,rfl,H4.out,hbw⟩
theorem qmi (ea:Option Addr) (len cap:Nat) (eh:Nat->E3) (kd pr:Int) (w:World) (hlen:len<=1048576) (hc:EvL w ea len eh):
  Calls Tryz.prog 199 #[.slice ea len cap,.int .i64 kd,.int .i64 pr] w fun e w'=>e=.returned (.int .i64 ((plN eh kd pr len).length:Nat))/\Below w.heap.size w w':=by
 have HC:Hid (EvL w ea len eh):=hc
 clear hc
 go_enter Tryz.func199,Tryz.ntmps199
 go_wp2_with fail
 refine (qf0 ea len cap eh kd pr w hlen HC.out).mono ?_
 rintro e w1 ⟨v,rfl,o1,b1⟩
 obtain ⟨a0,cp,rfl,-⟩:=o1.form
 rw [qdf]
 go_wp2
 go_ret
 exact ⟨rfl,b1⟩
theorem qp7 (ea:Option Addr) (len cap:Nat) (eh:Nat->E3) (kd pr n:Int) (w:World) (hlen:len<=1048576) (hc:EvL w ea len eh):
  Calls Tryz.prog 200 #[.slice ea len cap,.int .i64 kd,.int .i64 pr,.int .i64 n] w fun e w'=>e=.returned (.int .i64 (nthV eh kd pr len n))/\Below w.heap.size w w':=by
 have HC:Hid (EvL w ea len eh):=hc
 clear hc
 generalize hV:nthV eh kd pr len n=V
 have HV:Hid (nthV eh kd pr len n=V):=hV
 clear hV
 have hpl:=qnz eh kd pr len
 go_enter Tryz.func200,Tryz.ntmps200
 go_wp2_with fail
 refine (qf0 ea len cap eh kd pr w hlen HC.out).mono ?_
 rintro e w1 ⟨v,rfl,o1,b1⟩
 obtain ⟨a0,cp,rfl,s1⟩:=o1.form
 have HS:Hid (Sl w1 a0 (plI eh kd pr len)):=s1
 clear o1 s1
 rcases zK (belB n ((plI eh kd pr len).length:Nat)) with t | t
 ·have hn:0<=n/\n<((plI eh kd pr len).length:Int):=by simpa [belB] using t
  obtain ⟨m,rfl⟩:∃ m:Nat,n=m:=⟨n.toNat,by omega⟩
  have hv:=HV.out
  unfold nthV at hv
  rw [if_pos t,Int.toNat_natCast] at hv
  have hm:m<(plI eh kd pr len).length:=by omega
  have hm':(m:Int)<((plI eh kd pr len).length:Int):=by omega
  obtain ⟨b0,o0,rfl,hlt,hcell⟩:=HS.out.at hm
  rw [hv] at hcell
  clear hn hv HS
  go_wp2_with fail
  refine (isBelow_any _ _ _).mono ?_
  rintro e w2 ⟨rfl,rfl⟩
  go_wp2
  go_ret
  exact ⟨rfl,b1⟩
 ·have hv:=HV.out
  unfold nthV at hv
  rw [if_neg (by rw [t];decide)] at hv
  subst hv
  go_wp2_with fail
  refine (isBelow_any _ _ _).mono ?_
  rintro e w2 ⟨rfl,rfl⟩
  go_wp2
  go_ret
  exact ⟨rfl,b1⟩
theorem qq8 (ea:Option Addr) (len cap:Nat) (eh:Nat->E3) (kd pr n:Int) (w:World) (hlen:len<=1048576) (hc:EvL w ea len eh) (n0:-9223372036854775808<=n) (n1:n<=9223372036854775807):
  Calls Tryz.prog 178 #[.slice ea len cap,.int .i64 kd,.int .i64 pr,.int .i64 n] w fun e w'=>e=.returned (.int .i64 (nthV eh kd pr len n))/\Below w.heap.size w w':=by
 have hl':(len:Int)<=1048576:=by omega
 have HC:Hid (EvL w ea len eh):=hc
 have HN:Hid (-9223372036854775808<=n/\n<=9223372036854775807):=⟨n0,n1⟩
 clear hc n0 n1
 go_enter Tryz.func178,Tryz.ntmps178
 go_wp2_with fail
 go_loopw [3,9] (fun m i wr=>∃ (k:Nat) (z:Int),k<=len/\i=.int .i64 k/\m=.int .i64 z/\Hid (z=wrap64 (n - (plI eh kd pr k).length)/\belB n ((plI eh kd pr k).length:Nat)=false)/\Below w.heap.size w wr) (fun _ i _=>len - (intOf i).toNat)
 case atStart=>exact ⟨0,n,Nat.zero_le _,rfl,rfl,⟨by have:=HN.out;unfold wrap64;simp [plI,plN];omega,by simp [belB,plI,plN]⟩,Below.refl _ _⟩
 case round=>
  obtain ⟨k,z,hk,rfl,rfl,HZ,hbw⟩:=hrel
  by_cases hlt:k<len
  ·have hlt':(k:Int)<(len:Int):=by omega
   obtain ⟨b,off,rfl,-,c0,c1,c2⟩:=(HC.out.below hbw).at hlt
   rcases zK ((eh k).k == kd) with t1 | t1
   ·rcases zK ((eh k).q == pr) with t2 | t2
    ·have hh:hitB eh kd pr k=true:=by
      unfold hitB
      rw [t1,t2]
      rfl
     have hle:=qnz eh kd pr k
     rcases zK (z == 0) with t3 | t3
     ·have HV : Hid (nthV eh kd pr len n = k) := qja hlt hh (by
       obtain ⟨h1,-⟩:=HZ.out
       have:=HN.out
       have h3:z=0:=by simpa using t3
       rw [h3] at h1
       unfold wrap64 at h1
       omega)
      clear hh hle HZ HN
      go_wp2
      go_ret
      exact ⟨qjg HV.out.symm,hbw⟩
     ·have HS:Hid (wrap64 (z - 1)=wrap64 (n - (plI eh kd pr (k+1)).length)/\belB n ((plI eh kd pr (k+1)).length:Nat)=false):=by
       obtain ⟨h1,h2⟩:=HZ.out
       have h4:=HN.out
       have h3:z≠0:=by simpa using t3
       rw [qjc hh,List.length_append]
       refine ⟨?_,?_⟩
       ·rw [h1]
        unfold wrap64
        simp
        omega
       ·simp [belB] at h2 ⊢
        intro h0
        have h5:=h2 h0
        rw [h1] at h3
        unfold wrap64 at h3
        omega
      clear hh hle HZ
      go_wp2
      go_roundw
      case rel=>exact ⟨k+1,wrap64 (z - 1),by omega,by go_num,by simp,HS.out,hbw⟩
      case measure=>simp [intOf];omega
    ·have HH : Hid (plI eh kd pr (k + 1) = plI eh kd pr k) := qhk (by
      unfold hitB
      rw [t1,t2]
      rfl)
     go_wp2
     go_roundw
     case rel=>exact ⟨k+1,z,by omega,by go_num,rfl,by rw [HH.out];exact HZ.out,hbw⟩
     case measure=>simp [intOf];omega
   ·have HH : Hid (plI eh kd pr (k + 1) = plI eh kd pr k) := qhk (by
     unfold hitB
     rw [t1]
     rfl)
    go_wp2
    go_roundw
    case rel=>exact ⟨k+1,z,by omega,by go_num,rfl,by rw [HH.out];exact HZ.out,hbw⟩
    case measure=>simp [intOf];omega
  ·have hkl:k=len:=by omega
   have HV:Hid (nthV eh kd pr len n = -1):=by
    have:=HZ.out.2
    rw [hkl] at this
    show nthV eh kd pr len n = -1
    unfold nthV
    rw [if_neg (by rw [this];decide)]
   clear HZ hkl
   go_wp2
   go_ret
   exact ⟨qjg HV.out.symm,hbw⟩
def cnt (eh:Nat->E3) (kd pr:Int) (n:Nat):Nat:=(plN eh kd pr n).length
theorem qnh (eh:Nat->E3) (kd pr:Int):cnt eh kd pr 0=0:=rfl
theorem qfq {eh:Nat->E3} {kd pr:Int} {n:Nat} (h:hitB eh kd pr n=true):cnt eh kd pr (n+1)=cnt eh kd pr n+1:=by
 unfold cnt
 rw [plN,if_pos h,List.length_append]
 rfl
theorem qip {eh:Nat->E3} {kd pr:Int} {n:Nat} (h:hitB eh kd pr n=false):cnt eh kd pr (n+1)=cnt eh kd pr n:=by
 unfold cnt
 rw [plN,if_neg (by rw [h];decide)]
theorem qtp (eh:Nat->E3) (kd pr:Int) (n:Nat):cnt eh kd pr n<=n:=qid eh kd pr n
theorem qeb (eh:Nat->E3) (kd pr:Int) {a b:Nat} (h:a<=b):cnt eh kd pr a<=cnt eh kd pr b:=by
 induction b with
 | zero=>
  have:a=0:=by omega
  subst this
  exact Nat.le_refl _
 | succ b ih=>
  by_cases e:a=b+1
  ·subst e
   exact Nat.le_refl _
  ·have:=ih (by omega)
   rcases zK (hitB eh kd pr b) with t | t
   ·rw [qfq t]
    omega
   ·rw [qip t]
    exact this
theorem qec {eh:Nat->E3} {kd pr:Int} {i:Nat}:hitB eh kd pr i=true ↔ (eh i).k=kd/\(eh i).q=pr:=by
 simp [hitB]
structure Hs where
 n:Nat
 l:Nat->Nat
 e:Nat->Nat->E3
def Hs.Peers (x:Hs):Prop:=∀ p,p<x.n->∀ i,i<x.l p->0<=(x.e p i).q/\(x.e p i).q<(x.n:Int)
def Hs.Can (x:Hs) (d:Nat->Nat) (p:Nat):Prop:=
 d p<x.l p/\((x.e p (d p)).k=3->cnt (x.e p) 3 (x.e p (d p)).q (d p)<cnt (x.e (x.e p (d p)).q.toNat) 2 p (d (x.e p (d p)).q.toNat))
def up (d:Nat->Nat) (p:Nat):Nat->Nat:=fun i=>if i=p then d i+1 else d i
theorem qbk (d:Nat->Nat) (p:Nat):up d p p=d p+1:=by simp [up]
theorem up_other {d:Nat->Nat} {p i:Nat} (h:i≠p):up d p i=d i:=by simp [up,h]
inductive Hs.Put (x:Hs):(Nat->Nat)->Prop
 | start:x.Put (fun _=>0)
 | next {d:Nat->Nat} {p:Nat}:x.Put d->p<x.n->x.Can d p->x.Put (up d p)
def Hs.All (x:Hs) (d:Nat->Nat):Prop:=∀ p,p<x.n->d p=x.l p
def Hs.Row (x:Hs):Prop:=∃ d,x.Put d/\x.All d
theorem Hs.Put.le {x:Hs} {d:Nat->Nat} (h:x.Put d):∀ p,d p<=x.l p:=by
 induction h with
 | start=>exact fun _=>Nat.zero_le _
 | next _ _ hc ih=>
  rename_i d p _ _
  intro i
  by_cases e:i=p
  ·subst e
   rw [qbk]
   exact hc.1
  ·rw [up_other e]
   exact ih i
theorem Hs.Put.stuck {x:Hs} {d s:Nat->Nat} (h:x.Put d) (hp:x.Peers) (hs:∀ p,p<x.n->¬ x.Can s p):∀ p,p<x.n->d p<=s p:=by
 induction h with
 | start=>exact fun _ _=>Nat.zero_le _
 | next _ hpn hc ih=>
  rename_i d p _
  intro i hi
  by_cases e:i=p
  ·subst e
   rw [qbk]
   have h1:=ih i hi
   by_cases e:d i=s i
   ·exfalso
    refine hs i hi ⟨by rw [<- e];exact hc.1,fun hk=>?_⟩
    rw [<- e] at hk ⊢
    have h2:=hc.2 hk
    have hq:=hp i hi (d i) hc.1
    exact zL h2 (qeb _ _ _ (ih _ (by omega)))
   ·omega
  ·rw [up_other e]
   exact ih i hi
theorem Hs.row_iff {x:Hs} {s:Nat->Nat} (h:x.Put s) (hp:x.Peers) (hs:∀ p,p<x.n->¬ x.Can s p):x.Row ↔ x.All s:=by
 refine ⟨fun ⟨d,hd,ha⟩ p hpn=>?_,fun ha=>⟨s,h,ha⟩⟩
 have h1:=hd.stuck hp hs p hpn
 have h2:=h.le p
 have h3:=ha p hpn
 omega
def Hs.opn (x:Hs) (d:Nat->Nat) (a b:Nat):Int:=(cnt (x.e a) 2 b (d a):Int) - (cnt (x.e b) 3 a (d b):Int)
theorem Hs.opn_start (x:Hs) (a b:Nat):x.opn (fun _=>0) a b=0:=by simp [Hs.opn,qnh]
theorem Hs.can_iff {x:Hs} {d:Nat->Nat} {p:Nat} (hp:x.Peers) (hpn:p<x.n):x.Can d p ↔ d p<x.l p/\((x.e p (d p)).k=3->0<x.opn d (x.e p (d p)).q.toNat p):=by
 unfold Hs.Can Hs.opn
 refine and_congr_right fun hl=>?_
 have hq:=hp p hpn _ hl
 rw [show (((x.e p (d p)).q.toNat:Nat):Int)=(x.e p (d p)).q by omega]
 refine ⟨fun h hk=>?_,fun h hk=>?_⟩
 ·have:=h hk
  omega
 ·have:=h hk
  omega
theorem Hs.opn_up {x:Hs} {d:Nat->Nat} {p a b:Nat}:x.opn (up d p) a b=x.opn d a b+(if a=p/\(x.e p (d p)).k=2/\(x.e p (d p)).q=(b:Int) then 1 else 0) - (if b=p/\(x.e p (d p)).k=3/\(x.e p (d p)).q=(a:Int) then 1 else 0):=by
 have hA:(cnt (x.e a) 2 b (up d p a):Int)=cnt (x.e a) 2 b (d a)+(if a=p/\(x.e p (d p)).k=2/\(x.e p (d p)).q=(b:Int) then 1 else 0):=by
  by_cases e:a=p
  ·subst e
   rw [qbk]
   rcases zK (hitB (x.e a) 2 b (d a)) with t | t
   ·rw [qfq t,if_pos ⟨rfl,qec.1 t⟩]
    omega
   ·rw [qip t,if_neg (fun h=>by rw [qec.2 h.2] at t;cases t)]
    omega
  ·rw [up_other e,if_neg (fun h=>e h.1)]
   omega
 have hB:(cnt (x.e b) 3 a (up d p b):Int)=cnt (x.e b) 3 a (d b)+(if b=p/\(x.e p (d p)).k=3/\(x.e p (d p)).q=(a:Int) then 1 else 0):=by
  by_cases e:b=p
  ·subst e
   rw [qbk]
   rcases zK (hitB (x.e b) 3 a (d b)) with t | t
   ·rw [qfq t,if_pos ⟨rfl,qec.1 t⟩]
    omega
   ·rw [qip t,if_neg (fun h=>by rw [qec.2 h.2] at t;cases t)]
    omega
  ·rw [up_other e,if_neg (fun h=>e h.1)]
   omega
 unfold Hs.opn
 rw [hA,hB]
 omega
open Go.ChangeShapes Go.WideShapes Go.ChangeAt Go.Sort
noncomputable def qB (p:Prop):Bool:=@decide p (Classical.propDecidable _)
theorem qax {p:Prop} (h:p):qB p=true:=by simp [qB,h]
theorem qap {p:Prop} (h:¬ p):qB p=false:=by simp [qB,h]
theorem qvx {p:Prop}:qB p=true ↔ p:=by simp [qB]
structure HisE (w:World) (ha:Option Addr) (hA:Nat->Option Addr) (hC:Nat->Nat) (y:Hs):Prop where
 row:RowS w ha y.n fun i=>.slice (hA i) (y.l i) (hC i)
 ev:∀ i,i<y.n->EvL w (hA i) (y.l i) (y.e i)
theorem HisE.below {w w':World} {ha:Option Addr} {hA:Nat->Option Addr} {hC:Nat->Nat} {y:Hs} (h:HisE w ha hA hC y) (hb:Below w.heap.size w w'):HisE w' ha hA hC y:=⟨h.row.below hb,fun i hi=>(h.ev i hi).below hb⟩
structure HisP (w:World) (X:Nat) (ha:Option Addr) (hc:Nat) (y:Hs) (d:Nat->Nat):Prop where
 c4:w.cell? ⟨X,4,none⟩=some (.slice ha y.n hc)
 pt:∀ i,i<4->w.cell? ⟨X,5+i,none⟩=some (.int .i64 (d i))
 op:∀ a b,a<4->b<4->w.cell? ⟨X,9+a*4+b,none⟩=some (.int .i64 (y.opn d a b))
 fr:∀ j,w.frozen? ⟨X,j,none⟩=false
theorem HisP.lt {w:World} {X:Nat} {ha:Option Addr} {hc:Nat} {y:Hs} {d:Nat->Nat} (h:HisP w X ha hc y d):X<w.heap.size:=zJ w _ h.c4
theorem HisP.blk {w w':World} {X:Nat} {ha:Option Addr} {hc:Nat} {y:Hs} {d:Nat->Nat} (h:HisP w X ha hc y d) (hb:w'.heap[X]? = w.heap[X]?):HisP w' X ha hc y d:=
 ⟨(zH hb).trans h.c4,fun i hi=>(zH hb).trans (h.pt i hi),fun a b h1 h2=>(zH hb).trans (h.op a b h1 h2),fun j=>(zI hb).trans (h.fr j)⟩
theorem HisP.below {w w':World} {X:Nat} {ha:Option Addr} {hc:Nat} {y:Hs} {d:Nat->Nat} (h:HisP w X ha hc y d) (hb:Below w.heap.size w w'):HisP w' X ha hc y d:=h.blk (hb.block X h.lt)
theorem qaa {w:World} {a:Addr} {v:Value} (h:w.cell? a=some v) (o:Obj):(w.alloc o).cell? a=some v:=(World.cell?_alloc_lt w o a (zJ w _ h)).trans h
theorem qon (X:Nat) (ha:Option Addr) (hc:Nat) (hA:Nat->Option Addr) (hC:Nat->Nat) (y:Hs) (d:Nat->Nat) (k:Nat) (w:World) (hE:HisE w ha hA hC y) (hP:HisP w X ha hc y d) (h4:y.n<=4) (hk:k<y.n) (hp:y.Peers) (hl:∀ i,i<y.n->y.l i<=200) (hd:∀ i,d i<=y.l i):
  Calls Tryz.prog 97 #[.pointer (some ⟨X,4,none⟩),.int .i64 k] w fun e w'=>e=.returned (.bool (qB (y.Can d k)))/\Below w.heap.size w w':=by
 have HE:Hid (HisE w ha hA hC y):=hE
 have HP:Hid (HisP w X ha hc y d):=hP
 have HCan:Hid (y.Can d k ↔ d k<y.l k/\((y.e k (d k)).k=3->0<y.opn d (y.e k (d k)).q.toNat k)):=Hs.can_iff hp hk
 have hk4:(k:Int)<4:=by omega
 have hk':(k:Int)<(y.n:Int):=by omega
 have hl200:(y.l k:Int)<=200:=by have:=hl k hk;omega
 have hdk:(d k:Int)<=(y.l k:Int):=by have:=hd k;omega
 obtain ⟨bh,oh,eh,ch⟩:=hE.row.at hk
 obtain ⟨c4,pt,op,-⟩:=hP
 have pk:=pt k (by omega)
 rw [eh] at c4
 clear hE
 by_cases he:d k=y.l k
 ·have HN:Hid (qB (y.Can d k)=false):=qap fun h=>by have:=h.1;omega
  rw [he] at pk
  clear op pt
  go_enter Tryz.func97,Tryz.ntmps97
  go_wp2_with fail
  go_quiet (fail)
  go_wp2
  go_ret
  rw [HN.out]
  exact ⟨rfl,yC (Below.refl _ _) _⟩
 ·have hlt:d k<y.l k:=by have:=hd k;omega
  have hlt':(d k:Int)<(y.l k:Int):=by omega
  have hne:((d k:Int) == (y.l k:Int))=false:=by
   have:¬ (d k:Int)=(y.l k:Int):=by omega
   simpa using this
  obtain ⟨b,off,ea,zb,e0,e1,e2⟩:=(HE.out.ev k hk).at hlt
  rw [ea] at ch
  have n1:w.heap.size≠X:=by have:=HP.out.lt;omega
  have n2:w.heap.size≠b:=by omega
  have n3:w.heap.size≠bh:=by have:=zJ w _ ch;simp at this;omega
  clear zb
  have hq:=hp k hk (d k) hlt
  obtain ⟨q,hqe⟩:∃ q:Nat,(y.e k (d k)).q=(q:Int):=⟨(y.e k (d k)).q.toNat,by omega⟩
  have hq4:(q:Int)<4:=by omega
  have oq:=op q k (by omega) (by omega)
  rw [hqe] at e1
  rcases zK ((y.e k (d k)).k != 3) with t | t
  ·have HN:Hid (qB (y.Can d k)=true):=qax (HCan.out.2 ⟨hlt,fun h=>by rw [h] at t;cases t⟩)
   clear op pt hq hqe oq HCan
   generalize (y.e k (d k)).k=kd at *
   generalize (y.e k (d k)).v=vd at *
   go_enter Tryz.func97,Tryz.ntmps97
   go_wp2_with fail
   go_quiet (fail)
   go_wp2_with fail
   have BD:Hid (Below w.heap.size w (w.drewN nq)):=yC (Below.refl _ _) _
   replace n1:(w.drewN nq).heap.size≠X:=n1
   replace n2:(w.drewN nq).heap.size≠b:=n2
   replace n3:(w.drewN nq).heap.size≠bh:=n3
   replace c4:(w.drewN nq).cell? ⟨X,4,none⟩=_:=c4
   replace pk:(w.drewN nq).cell? ⟨X,5+k,none⟩=_:=pk
   replace ch:(w.drewN nq).cell? ⟨bh,oh+k,none⟩=_:=ch
   replace e0:(w.drewN nq).cell? ⟨b,off+d k*3,none⟩=_:=e0
   replace e1:(w.drewN nq).cell? ⟨b,off+d k*3+1,none⟩=_:=e1
   replace e2:(w.drewN nq).cell? ⟨b,off+d k*3+2,none⟩=_:=e2
   generalize w.drewN nq=wd at *
   have c4':=qaa c4
   have pk':=qaa pk
   have ch':=qaa ch
   have e0':=qaa e0
   have e1':=qaa e1
   have e2':=qaa e2
   go_region
   all_goals
    go_wp2_with fail
    go_quiet (fail)
    go_wp2
    go_ret
    rw [HN.out]
    exact ⟨rfl,yC (BD.out.trans ((zT _ _).mono BD.out.size)).drew _⟩
  ·have hk3:(y.e k (d k)).k=3:=by simpa using t
   have HN:Hid (qB (y.Can d k)=decide (0<y.opn d q k)):=by
    show qB (y.Can d k)=decide (0<y.opn d q k)
    have e:(y.e k (d k)).q.toNat=q:=by omega
    by_cases h0:0<y.opn d q k
    ·rw [decide_eq_true h0]
     exact qax (HCan.out.2 ⟨hlt,fun _=>by rw [e];exact h0⟩)
    ·rw [decide_eq_false h0]
     refine qap fun h=>h0 ?_
     have:=(HCan.out.1 h).2 hk3
     rwa [e] at this
   rw [hk3] at e0
   clear op pt hq hqe HCan t hk3
   generalize (y.e k (d k)).v=vd at *
   generalize y.opn d q k=on at *
   go_enter Tryz.func97,Tryz.ntmps97
   go_wp2_with fail
   go_quiet (fail)
   go_wp2_with fail
   have BD:Hid (Below w.heap.size w (w.drewN nq)):=yC (Below.refl _ _) _
   replace n1:(w.drewN nq).heap.size≠X:=n1
   replace n2:(w.drewN nq).heap.size≠b:=n2
   replace n3:(w.drewN nq).heap.size≠bh:=n3
   replace c4:(w.drewN nq).cell? ⟨X,4,none⟩=_:=c4
   replace pk:(w.drewN nq).cell? ⟨X,5+k,none⟩=_:=pk
   replace ch:(w.drewN nq).cell? ⟨bh,oh+k,none⟩=_:=ch
   replace e0:(w.drewN nq).cell? ⟨b,off+d k*3,none⟩=_:=e0
   replace e1:(w.drewN nq).cell? ⟨b,off+d k*3+1,none⟩=_:=e1
   replace e2:(w.drewN nq).cell? ⟨b,off+d k*3+2,none⟩=_:=e2
   replace oq:(w.drewN nq).cell? ⟨X,9+q*4+k,none⟩=_:=oq
   generalize w.drewN nq=wd at *
   have c4':=qaa c4
   have pk':=qaa pk
   have ch':=qaa ch
   have e0':=qaa e0
   have e1':=qaa e1
   have e2':=qaa e2
   have oq':=qaa oq
   go_region
   all_goals
    go_wp2_with fail
    go_quiet (fail)
    go_wp2
    go_ret
    rw [HN.out]
    exact ⟨rfl,yC (BD.out.trans ((zT _ _).mono BD.out.size)).drew _⟩
theorem HisP.put {w w':World} {X:Nat} {ha:Option Addr} {hc:Nat} {y:Hs} {d:Nat->Nat} {k:Nat} (h:HisP w X ha hc y d) (c4:w'.cell? ⟨X,4,none⟩=w.cell? ⟨X,4,none⟩) (pt:∀ i,i<4->w'.cell? ⟨X,5+i,none⟩=if i=k then some (.int .i64 (d k+1:Nat)) else w.cell? ⟨X,5+i,none⟩)
  (op:∀ a b,a<4->b<4->w'.cell? ⟨X,9+a*4+b,none⟩=some (.int .i64 (y.opn (up d k) a b))) (fr:∀ j,w'.frozen? ⟨X,j,none⟩=false):HisP w' X ha hc y (up d k):=by
 refine ⟨c4.trans h.c4,fun i hi=>?_,op,fr⟩
 rw [pt i hi]
 by_cases e:i=k
 ·subst e
  rw [if_pos rfl,qbk]
 ·rw [if_neg e,up_other e]
  exact h.pt i hi
theorem Hs.opn_le {y:Hs} {d:Nat->Nat} (hd:∀ i,d i<=y.l i) (hl:∀ i,i<y.n->y.l i<=200) {a b:Nat} (ha:a<y.n) (hb:b<y.n):-200<=y.opn d a b/\y.opn d a b<=200:=by
 have h1:=qtp (y.e a) 2 b (d a)
 have h2:=qtp (y.e b) 3 a (d b)
 have h3:=hd a
 have h4:=hd b
 have h5:=hl a ha
 have h6:=hl b hb
 unfold Hs.opn
 omega
theorem qc8 {w:World} {X i j m:Nat} {u v:Value} {o:Obj} (h1:m≠i) (h2:m≠j) (hX:X<w.heap.size):(((w.setCell ⟨X,i,none⟩ u).setCell ⟨X,j,none⟩ v).alloc o).cell? ⟨X,m,none⟩=w.cell? ⟨X,m,none⟩:=by
 rw [World.cell?_alloc_lt _ _ _ (by simpa [World.setCell] using hX),World.cell?_setCell_other _ _ _ _ (by intro e;injection e with _ e;exact h2 e.symm),World.cell?_setCell_other _ _ _ _ (by intro e;injection e with _ e;exact h1 e.symm)]
theorem qh4 {w:World} {X i j:Nat} {u v:Value} {o:Obj} (h1:i≠j) (hc:(w.cell? ⟨X,i,none⟩).isSome=true) (hX:X<w.heap.size):(((w.setCell ⟨X,i,none⟩ u).setCell ⟨X,j,none⟩ v).alloc o).cell? ⟨X,i,none⟩=some u:=by
 rw [World.cell?_alloc_lt _ _ _ (by simpa [World.setCell] using hX),World.cell?_setCell_other _ _ _ _ (by intro e;injection e with _ e;exact h1 e.symm),World.cell?_setCell_same' _ _ _ hc]
theorem qh5 {w:World} {X i j:Nat} {u v:Value} {o:Obj} (h1:i≠j) (hc:(w.cell? ⟨X,j,none⟩).isSome=true) (hX:X<w.heap.size):(((w.setCell ⟨X,i,none⟩ u).setCell ⟨X,j,none⟩ v).alloc o).cell? ⟨X,j,none⟩=some v:=by
 rw [World.cell?_alloc_lt _ _ _ (by simpa [World.setCell] using hX),World.cell?_setCell_same']
 rw [World.cell?_setCell_other _ _ _ _ (by intro e;injection e with _ e;exact h1 e)]
 exact hc
theorem qcb {w:World} {o:Obj} {X j:Nat} (hX:X<w.heap.size):(w.alloc o).frozen? ⟨X,j,none⟩=w.frozen? ⟨X,j,none⟩:=(zT w o).frozen (p:=⟨X,j,none⟩) hX
theorem HisP.put2 {w:World} {X:Nat} {ha:Option Addr} {hc:Nat} {y:Hs} {d:Nat->Nat} {k i0 j0:Nat} {on:Int} {o:Obj} (h:HisP w X ha hc y d) (hk:k<4) (hi:i0<4) (hj:j0<4) (HO:∀ a b,y.opn (up d k) a b=if a=i0/\b=j0 then on else y.opn d a b):
  HisP (((w.setCell ⟨X,9+i0*4+j0,none⟩ (.int .i64 on)).setCell ⟨X,5+k,none⟩ (.int .i64 ((d k:Int)+1))).alloc o) X ha hc y (up d k)/\qam (fun b=>b=X) w (((w.setCell ⟨X,9+i0*4+j0,none⟩ (.int .i64 on)).setCell ⟨X,5+k,none⟩ (.int .i64 ((d k:Int)+1))).alloc o):=by
 have hX:=h.lt
 refine ⟨h.put (k:=k) (qc8 (by omega) (by omega) hX) (fun i hi'=>?_) (fun a b ha' hb'=>?_) (fun j=>?_),?_⟩
 ·by_cases e:i=k
  ·subst e
   rw [if_pos rfl,qh5 (by omega) (by rw [h.pt i hi'];rfl) hX]
   rfl
  ·rw [if_neg e]
   exact qc8 (by omega) (by omega) hX
 ·rw [HO]
  by_cases e:a=i0/\b=j0
  ·obtain ⟨rfl,rfl⟩:=e
   rw [if_pos ⟨rfl,rfl⟩]
   exact qh4 (by omega) (by rw [h.op a b ha' hb'];rfl) hX
  ·rw [if_neg e,<- h.op a b ha' hb']
   exact qc8 (by omega) (by omega) hX
 ·rw [qcb (by simpa [World.setCell] using hX),World.frozen?_setCell,World.frozen?_setCell]
  exact h.fr j
 ·exact ((qam.of_set (P:=fun b=>b=X) w (a:=⟨X,_,none⟩) rfl _).trans (qam.of_set (P:=fun b=>b=X) _ (a:=⟨X,_,none⟩) rfl _)).trans (qam.of_below (zT _ _))
theorem HisP.put1 {w:World} {X:Nat} {ha:Option Addr} {hc:Nat} {y:Hs} {d:Nat->Nat} {k:Nat} {o:Obj} (h:HisP w X ha hc y d) (hk:k<4) (HO:∀ a b,y.opn (up d k) a b=y.opn d a b):
  HisP ((w.setCell ⟨X,5+k,none⟩ (.int .i64 ((d k:Int)+1))).alloc o) X ha hc y (up d k)/\qam (fun b=>b=X) w ((w.setCell ⟨X,5+k,none⟩ (.int .i64 ((d k:Int)+1))).alloc o):=by
 have hX:=h.lt
 have ho:∀ m,m≠5+k->((w.setCell ⟨X,5+k,none⟩ (.int .i64 ((d k:Int)+1))).alloc o).cell? ⟨X,m,none⟩=w.cell? ⟨X,m,none⟩:=fun m hm=>by
  rw [World.cell?_alloc_lt _ _ _ (by simpa [World.setCell] using hX),World.cell?_setCell_other _ _ _ _ (by intro e;injection e with _ e;exact hm e.symm)]
 refine ⟨h.put (k:=k) (ho 4 (by omega)) (fun i hi'=>?_) (fun a b ha' hb'=>?_) (fun j=>?_),?_⟩
 ·by_cases e:i=k
  ·subst e
   rw [if_pos rfl,World.cell?_alloc_lt _ _ _ (by simpa [World.setCell] using hX),World.cell?_setCell_same' _ _ _ (by rw [h.pt i hi'];rfl)]
   rfl
  ·rw [if_neg e]
   exact ho _ (by omega)
 ·rw [HO,<- h.op a b ha' hb']
  exact ho _ (by omega)
 ·rw [qcb (by simpa [World.setCell] using hX),World.frozen?_setCell]
  exact h.fr j
 ·exact (qam.of_set (P:=fun b=>b=X) w (a:=⟨X,_,none⟩) rfl _).trans (qam.of_below (zT _ _))
theorem HisP.dr {w:World} {X:Nat} {ha:Option Addr} {hc:Nat} {y:Hs} {d:Nat->Nat} (h:HisP w X ha hc y d):HisP w.drew X ha hc y d:=⟨h.c4,h.pt,h.op,h.fr⟩
theorem qam.dr {P:Nat->Prop} {w w':World} (h:qam P w w'):qam P w w'.drew:=⟨h.os,h.tape,h.output,h.size,h.block⟩
theorem qo8 (X:Nat) (ha:Option Addr) (hc:Nat) (hA:Nat->Option Addr) (hC:Nat->Nat) (y:Hs) (d:Nat->Nat) (k:Nat) (w:World) (hE:HisE w ha hA hC y) (hP:HisP w X ha hc y d) (h4:y.n<=4) (hk:k<y.n) (hp:y.Peers) (hl:∀ i,i<y.n->y.l i<=200) (hd:∀ i,d i<=y.l i) (hlt:d k<y.l k):
  Calls Tryz.prog 98 #[.pointer (some ⟨X,4,none⟩),.int .i64 k] w fun e w'=>e=.returned (.tuple #[])/\HisP w' X ha hc y (up d k)/\qam (fun b=>b=X) w w':=by
 have HP:Hid (HisP w X ha hc y d):=hP
 have hk4:(k:Int)<4:=by omega
 have hk':(k:Int)<(y.n:Int):=by omega
 have hl200:(y.l k:Int)<=200:=by have:=hl k hk;omega
 have hlt':(d k:Int)<(y.l k:Int):=by omega
 obtain ⟨bh,oh,eh,ch⟩:=hE.row.at hk
 obtain ⟨c4,pt,op,fr⟩:=hP
 have pk:=pt k (by omega)
 rw [eh] at c4
 obtain ⟨b,off,ea,zb,e0,e1,e2⟩:=(hE.ev k hk).at hlt
 rw [ea] at ch
 have n1:w.heap.size≠X:=by have:=HP.out.lt;omega
 have n2:w.heap.size≠b:=by omega
 have n3:w.heap.size≠bh:=by have:=zJ w _ ch;simp at this;omega
 have zX:X<w.heap.size:=HP.out.lt
 have hq:=hp k hk (d k) hlt
 obtain ⟨q,hqe⟩:∃ q:Nat,(y.e k (d k)).q=(q:Int):=⟨(y.e k (d k)).q.toNat,by omega⟩
 have hq4:(q:Int)<4:=by omega
 have hqn:q<y.n:=by omega
 rw [hqe] at e1
 have c4':=qaa c4
 have pk':=qaa pk
 have ch':=qaa ch
 have e0':=qaa e0
 have e1':=qaa e1
 have e2':=qaa e2
 have fr':∀ j,w.frozen? ⟨X,j,none⟩=false:=fr
 rcases zK ((y.e k (d k)).k == 2) with t | t
 ·have hk2:(y.e k (d k)).k=2:=by simpa using t
  have oq:=op k q (by omega) (by omega)
  obtain ⟨o1,o2⟩:=Hs.opn_le hd hl hk hqn
  have oq':=qaa oq
  rw [hk2] at e0 e0'
  have HO:Hid (∀ a b,y.opn (up d k) a b=if a=k/\b=q then y.opn d k q+1 else y.opn d a b):=fun a b=>by
   rw [Hs.opn_up,hk2,hqe]
   by_cases e:a=k/\b=q
   ·obtain ⟨rfl,rfl⟩:=e
    simp
   ·rw [if_neg e,if_neg (fun h=>e ⟨h.1,by omega⟩),if_neg (fun h=>absurd h.2.1 (by decide))]
    omega
  clear op pt t hk2 hq hqe hp hE eh ea
  generalize (y.e k (d k)).v=vd at *
  generalize y.opn d k q=on at *
  go_enter Tryz.func98,Tryz.ntmps98
  go_wp2_with fail
  go_region
  all_goals
   go_wp2_with fail
   go_region
   all_goals
    go_wp2_with fail
    go_region
    all_goals
     go_wp2_with fail
     go_end0
     have hz:=HP.out.put2 (o:=oQ0 2 q vd) (show k<4 by omega) (show k<4 by omega) (show q<4 by omega) HO.out
     exact ⟨rfl,hz.1.dr.dr.dr,hz.2.dr.dr.dr⟩
 rcases zK ((y.e k (d k)).k == 3) with t3 | t3
 ·have hk3:(y.e k (d k)).k=3:=by simpa using t3
  have oq:=op q k (by omega) (by omega)
  obtain ⟨o1,o2⟩:=Hs.opn_le hd hl hqn hk
  have oq':=qaa oq
  rw [hk3] at e0 e0'
  have HO:Hid (∀ a b,y.opn (up d k) a b=if a=q/\b=k then y.opn d q k - 1 else y.opn d a b):=fun a b=>by
   rw [Hs.opn_up,hk3,hqe]
   by_cases e:a=q/\b=k
   ·obtain ⟨rfl,rfl⟩:=e
    simp
   ·rw [if_neg e,if_neg (fun h=>absurd h.2.1 (by decide)),if_neg (fun h=>e ⟨by omega,h.1⟩)]
    omega
  clear op pt t t3 hk3 hq hqe hp hE eh ea
  generalize (y.e k (d k)).v=vd at *
  generalize y.opn d q k=on at *
  go_enter Tryz.func98,Tryz.ntmps98
  go_wp2_with fail
  go_region
  all_goals
   go_wp2_with fail
   go_region
   all_goals
    go_wp2_with fail
    go_region
    all_goals
     go_wp2_with fail
     go_end0
     have hz:=HP.out.put2 (o:=oQ0 3 q vd) (show k<4 by omega) (show q<4 by omega) (show k<4 by omega) HO.out
     exact ⟨rfl,hz.1.dr.dr.dr,hz.2.dr.dr.dr⟩
 ·have HO:Hid (∀ a b,y.opn (up d k) a b=y.opn d a b):=fun a b=>by
   have t2:(y.e k (d k)).k≠2:=by simpa using t
   have t3':(y.e k (d k)).k≠3:=by simpa using t3
   rw [Hs.opn_up,if_neg (fun h=>t2 h.2.1),if_neg (fun h=>t3' h.2.1)]
   omega
  clear op pt hq hqe hp hE eh ea
  generalize (y.e k (d k)).v=vd at *
  generalize (y.e k (d k)).k=kd at *
  go_enter Tryz.func98,Tryz.ntmps98
  go_wp2_with fail
  go_region
  all_goals
   go_wp2_with fail
   go_region
   all_goals
    go_wp2_with fail
    go_end0
    have hz:=HP.out.put1 (o:=oQ0 kd q vd) (show k<4 by omega) HO.out
    exact ⟨rfl,hz.1.dr.dr,hz.2.dr.dr⟩
def NxtR (w:World) (y:Hs) (d:Nat->Nat) (e:Ending) (w':World):Prop:=
 Below w.heap.size w w'/\((∃ k,k<y.n/\y.Can d k/\e=.returned (.int .i64 (k:Nat)))\/(e=.returned (.int .i64 (-1))/\∀ p,p<y.n->¬ y.Can d p))
theorem qnw (X:Nat) (ha:Option Addr) (hc:Nat) (hA:Nat->Option Addr) (hC:Nat->Nat) (y:Hs) (d:Nat->Nat) (w:World) (hE:HisE w ha hA hC y) (hP:HisP w X ha hc y d) (h4:y.n<=4) (hp:y.Peers) (hl:∀ i,i<y.n->y.l i<=200) (hd:∀ i,d i<=y.l i):
  Calls Tryz.prog 123 #[.pointer (some ⟨X,4,none⟩)] w (NxtR w y d):=by
 have HE:Hid (HisE w ha hA hC y):=hE
 have HP:Hid (HisP w X ha hc y d):=hP
 have HH:Hid (y.Peers/\(∀ i,i<y.n->y.l i<=200)/\∀ i,d i<=y.l i):=⟨hp,hl,hd⟩
 have hn:(y.n:Int)<=4:=by omega
 obtain ⟨c4,-,-,-⟩:=hP
 clear hE hp hl hd
 go_enter Tryz.func123,Tryz.ntmps123
 go_wp2_with fail
 clear c4
 go_loopw [9] (fun i wr=>∃ k:Nat,k<=y.n/\i=.int .i64 k/\Below w.heap.size w wr/\Hid (∀ j,j<k->¬ y.Can d j)) (fun i _=>y.n - (intOf i).toNat)
 case atStart=>exact ⟨0,Nat.zero_le _,rfl,Below.refl _ _,fun j hj=>by omega⟩
 case round=>
  obtain ⟨k,hk,rfl,hbw,HZ⟩:=hrel
  by_cases hlt:k<y.n
  ·have hlt':(k:Int)<(y.n:Int):=by omega
   go_wp2_with fail
   refine (qon X ha hc hA hC y d k wr (HE.out.below hbw) (HP.out.below hbw) h4 hlt HH.out.1 HH.out.2.1 HH.out.2.2).mono ?_
   rintro e w1 ⟨rfl,b1⟩
   have B1:Hid (Below w.heap.size w w1):=hbw.trans (b1.mono hbw.size)
   clear b1 hbw
   by_cases hc':y.Can d k
   ·have HF:Hid (NxtR w y d (.returned (.int .i64 k)) w1):=⟨B1.out,.inl ⟨k,hlt,hc',rfl⟩⟩
    rw [qax hc']
    clear hc' B1
    go_wp2
    go_ret
    exact HF.out
   ·have HZ':Hid (∀ j,j<k+1->¬ y.Can d j):=fun j hj=>by
     by_cases e:j=k
     ·subst e
      exact hc'
     ·exact HZ.out j (by omega)
    rw [qap hc']
    clear hc' HZ
    go_wp2
    go_roundw
    case rel=>exact ⟨k+1,by omega,by go_num,B1.out,HZ'.out⟩
    case measure=>simp [intOf];omega
  ·have HF:Hid (NxtR w y d (.returned (.int .i64 (-1))) wr):=⟨hbw,.inr ⟨rfl,fun p hp=>HZ.out p (by omega)⟩⟩
   clear HZ hbw
   go_wp2
   go_ret
   exact HF.out
theorem qog (X:Nat) (ha:Option Addr) (hc:Nat) (hA:Nat->Option Addr) (hC:Nat->Nat) (y:Hs) (d:Nat->Nat) (w:World) (hE:HisE w ha hA hC y) (hP:HisP w X ha hc y d) (h4:y.n<=4) (hl:∀ i,i<y.n->y.l i<=200) (hd:∀ i,d i<=y.l i):
  Calls Tryz.prog 99 #[.pointer (some ⟨X,4,none⟩)] w fun e w'=>e=.returned (.bool (qB (y.All d)))/\Below w.heap.size w w':=by
 have HE:Hid (HisE w ha hA hC y):=hE
 have HP:Hid (HisP w X ha hc y d):=hP
 have HH:Hid ((∀ i,i<y.n->y.l i<=200)/\∀ i,d i<=y.l i):=⟨hl,hd⟩
 have hn:(y.n:Int)<=4:=by omega
 obtain ⟨c4,-,-,-⟩:=hP
 clear hE hl hd
 go_enter Tryz.func99,Tryz.ntmps99
 go_wp2_with fail
 clear c4
 go_loopw [10] (fun i wr=>∃ k:Nat,k<=y.n/\i=.int .i64 k/\Below w.heap.size w wr/\Hid (∀ j,j<k->d j=y.l j)) (fun i _=>y.n - (intOf i).toNat)
 case atStart=>exact ⟨0,Nat.zero_le _,rfl,Below.refl _ _,fun j hj=>by omega⟩
 case round=>
  obtain ⟨k,hk,rfl,hbw,HZ⟩:=hrel
  by_cases hlt:k<y.n
  ·have hlt':(k:Int)<(y.n:Int):=by omega
   have hk4:(k:Int)<4:=by omega
   obtain ⟨bh,oh,eh,ch⟩:=(HE.out.below hbw).row.at hlt
   have pk:=(HP.out.below hbw).pt k (by omega)
   have hd':(d k:Int)<=(y.l k:Int):=by have:=HH.out.2 k;omega
   rw [eh]
   by_cases hs:d k<y.l k
   ·have hs':(d k:Int)<(y.l k:Int):=by omega
    have HN:Hid (qB (y.All d)=false):=qap fun h=>by have:=h k hlt;omega
    clear HZ
    go_wp2
    go_ret
    rw [HN.out]
    exact ⟨rfl,hbw⟩
   ·have hs':¬ (d k:Int)<(y.l k:Int):=by omega
    have HZ':Hid (∀ j,j<k+1->d j=y.l j):=fun j hj=>by
     by_cases e:j=k
     ·subst e
      omega
     ·exact HZ.out j (by omega)
    clear HZ
    go_wp2
    go_roundw
    case rel=>exact ⟨k+1,by omega,by go_num,hbw,HZ'.out⟩
    case measure=>simp [intOf];omega
  ·have HN:Hid (qB (y.All d)=true):=qax fun p hp=>HZ.out p (by omega)
   clear HZ
   go_wp2
   go_ret
   rw [HN.out]
   exact ⟨rfl,hbw⟩
theorem LL.ext {z:Bool} {e:TypeId} {sz:Nat} {E:TypeId} {w:World} {P:Nat->Prop} {v:Value} {n:Nat} {u:Nat->Value} {L L':Nat->Nat} {c c':Nat->List Value} (o:LL z e sz E w P v n u L c) (h:∀ i,i<n->L' i=L i/\c' i=c i):LL z e sz E w P v n u L' c':=
 ⟨o.row,fun i hi=>(by rw [(h i hi).1,(h i hi).2];exact o.own i hi),o.rb,o.ob,o.ra,o.oa,o.nn⟩
theorem Lst.known {w:World} {B n:Nat} {v:Value} (h:Lst w B v n):∃ G,w.ownsRow B 123 5 v n (fI G n):=by
 obtain ⟨xs,ho,hx⟩:=h
 have hall:=List.all_eq_true.1 hx
 have key:∀ j,j<n*5->∃ x:Int,xs[j]? = some (.int .i64 x):=by
  intro j hj
  have hl:j<xs.length:=by rw [ho.1];exact hj
  obtain ⟨x,hxx⟩:=qqc (hall xs[j] (List.getElem_mem hl))
  exact ⟨x,by rw [List.getElem?_eq_getElem hl,hxx]⟩
 have inh:Inhabited Int:=⟨0⟩
 obtain ⟨f,hf⟩:=Go.Deep.choose_lt (α:=Int) key
 refine ⟨fun i=>⟨f (i*5),f (i*5+1),f (i*5+2),f (i*5+3),f (i*5+4)⟩,?_⟩
 have e:xs=fI (fun i=>⟨f (i*5),f (i*5+1),f (i*5+2),f (i*5+3),f (i*5+4)⟩) n:=by
  refine List.ext_getElem? fun k=>?_
  have hl2:=qtr (fun i=>⟨f (i*5),f (i*5+1),f (i*5+2),f (i*5+3),f (i*5+4)⟩) n
  by_cases hk:k<n*5
  ·have hfl:=qdi (f:=fun i=>cI ⟨f (i*5),f (i*5+1),f (i*5+2),f (i*5+3),f (i*5+4)⟩) (sz:=5) (n:=n) (fun _ _=>rfl) (i:=k / 5) (j:=k % 5) (by omega) (by omega)
   have hkk:k / 5*5+k % 5=k:=by omega
   rw [hkk] at hfl
   rw [hf k hk]
   refine Eq.trans ?_ hfl.symm
   have hm:k % 5=0\/k % 5=1\/k % 5=2\/k % 5=3\/k % 5=4:=by omega
   rcases hm with m | m | m | m | m
   ·rw [m];rw [m] at hkk;simp only [cI];rw [show k / 5*5=k by omega];rfl
   ·rw [m];rw [m] at hkk;simp only [cI];rw [show k / 5*5+1=k by omega];rfl
   ·rw [m];rw [m] at hkk;simp only [cI];rw [show k / 5*5+2=k by omega];rfl
   ·rw [m];rw [m] at hkk;simp only [cI];rw [show k / 5*5+3=k by omega];rfl
   ·rw [m];rw [m] at hkk;simp only [cI];rw [show k / 5*5+4=k by omega];rfl
  ·rw [List.getElem?_eq_none (by rw [ho.1];omega),List.getElem?_eq_none (by rw [hl2];omega)]
 rw [<- e]
 exact ho
