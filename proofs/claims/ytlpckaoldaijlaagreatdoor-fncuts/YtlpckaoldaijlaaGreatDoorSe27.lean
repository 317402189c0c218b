import Derived.Test.YtlpckaoldaijlaaGreatDoorSe0
import Derived.Test.YtlpckaoldaijlaaGreatDoorSe14
import Derived.Test.YtlpckaoldaijlaaGreatDoorSe13
import Derived.Test.YtlpckaoldaijlaaGreatDoorSe25
import Derived.Lib.QuietBelow
import Derived.Test.YtlpckaoldaijlaaGreatDoorSe26
import Derived.Test.YtlpckaoldaijlaaGreatDoorSe2
import Derived.Deep.RegionHeld3
import Derived.Deep.RegionWith
import Derived.Deep.RegionLaw
namespace Go.Proofs.YtlpckaoldaijlaaGreatDoor
set_option maxRecDepth 100000
set_option maxHeartbeats 4000000
open Go.RowKit Go.Deep
theorem valL_length (eh:Nat->E3) (kd pr:Int) (n:Nat):(valL eh kd pr n).length=(plN eh kd pr n).length:=by simp [valL]
theorem plI_length (eh:Nat->E3) (kd pr:Int) (n:Nat):(plI eh kd pr n).length=(plN eh kd pr n).length:=by simp [plI]
theorem zi_append {xs ys:List Int} {i:Nat} (h:i<xs.length):zi (xs ++ ys) i=zi xs i:=by
 unfold zi
 rw [List.getD_eq_getElem?_getD,List.getD_eq_getElem?_getD,List.getElem?_append_left h]
theorem zi_end (xs:List Int) (y:Int):zi (xs ++ [y]) xs.length=y:=by
 unfold zi
 rw [List.getD_eq_getElem?_getD,List.getElem?_append_right (Nat.le_refl _)]
 simp
def nthV (eh:Nat->E3) (kd pr:Int) (len:Nat) (n:Int):Int:=if belB n ((plI eh kd pr len).length:Nat)=true then zi (plI eh kd pr len) n.toNat else -1
theorem plI_at (eh:Nat->E3) (kd pr:Int) (k:Nat) (hh:hitB eh kd pr k=true):∀ d,zi (plI eh kd pr (k+1+d)) (plI eh kd pr k).length=k/\(plI eh kd pr k).length<(plI eh kd pr (k+1+d)).length
 | 0=>by
  rw [Nat.add_zero,plI_hit hh]
  exact ⟨zi_end _ _,by simp⟩
 | d+1=>by
  obtain ⟨h1,h2⟩:=plI_at eh kd pr k hh d
  rw [<- Nat.add_assoc]
  rcases zK (hitB eh kd pr (k+1+d)) with h | h
  ·rw [plI_hit h,zi_append h2]
   exact ⟨h1,by simp;omega⟩
  ·rw [plI_not h]
   exact ⟨h1,h2⟩
theorem nthV_hit {eh:Nat->E3} {kd pr:Int} {k len:Nat} {n:Int} (hk:k<len) (hh:hitB eh kd pr k=true) (hn:n=(plI eh kd pr k).length):nthV eh kd pr len n=k:=by
 obtain ⟨d,rfl⟩:∃ d,len=k+1+d:=⟨len - k - 1,by omega⟩
 obtain ⟨h1,h2⟩:=plI_at eh kd pr k hh d
 subst hn
 unfold nthV
 rw [if_pos (by simp [belB];omega),Int.toNat_natCast,h1]
theorem plN_mem (eh:Nat->E3) (kd pr:Int):∀ n,∀ q ∈ plN eh kd pr n,q<n
 | 0,q,h=>by simp [plN] at h
 | n+1,q,h=>by
  unfold plN at h
  split at h
  ·simp at h
   rcases h with h | h
   ·have:=plN_mem eh kd pr n q h
    omega
   ·omega
  ·have:=plN_mem eh kd pr n q h
   omega
theorem plI_place (eh:Nat->E3) (kd pr:Int) (len j:Nat) (hj:j<(plI eh kd pr len).length):∃ q:Nat,zi (plI eh kd pr len) j=(q:Int)/\q<len/\(plN eh kd pr len)[j]? = some q:=by
 have hj':j<(plN eh kd pr len).length:=by rw [plI_length] at hj;exact hj
 refine ⟨(plN eh kd pr len)[j],?_,plN_mem eh kd pr len _ (List.getElem_mem hj'),List.getElem?_eq_getElem hj'⟩
 unfold zi plI
 rw [List.getD_eq_getElem?_getD,List.getElem?_map,List.getElem?_eq_getElem hj']
 rfl
theorem append_far {ops:Array Oper} {rest:List Oper} {op:Oper} {act:Act} {Q:Exit->Act->World->Prop} (w:World) (hgd:op.guard=none) (s x:Operand)
  (ho:op.op=.call { callee:=.builtin .append,args:=#[s,x],argTypes:=#[30,30] })
  (B:Nat) (v:Value) (xs:List Int) (hs:act.eval s=v) (hv:OwnI w B v xs) (y:Int) (hx:act.eval x=.slice (some ⟨w.heap.size,0,none⟩) 1 1) (hn:xs.length<=1048576) (hB:B<=w.heap.size)
  (h:∀ v' w',OwnI w' B v' (xs ++ [y])->w.grownBy w' v.ownBlock->(∀ j,v'.ownBlock=some j->v.ownBlock=some j\/w.heap.size<=j)->wpList Tryz.prog ops Q rest (act.put op.dst v') w'):
  wpList Tryz.prog ops Q (op :: rest) act (w.alloc (.cells #[.int .i64 y] 3)):=by
 have hb:Below w.heap.size w (w.alloc (.cells #[.int .i64 y] 3)):=(Below.refl _ _).alloc (Nat.le_refl _) _
 refine wpList_append_ints _ hgd s x ho B 1 v (some ⟨w.heap.size,0,none⟩) xs [y] hs hx (hv.below hb) (.inr ⟨w.heap.size,0,rfl,by simp,fun i hi=>?_⟩) (by simp;omega) (by simp;omega) ?_
 ·have:i=0:=by simp at hi;omega
  subst this
  exact zW _ _ _ 0 rfl
 ·intro v' w' o g a
  refine h v' w' o ⟨g.os,g.tape,g.output,zP hb.size g.size,fun k hk hne=>(g.block k (zL hk hb.size) hne).trans (hb.block k hk)⟩ fun j hj=>?_
  rcases a with a | a
  ·exact .inl (a.symm.trans hj)
  ·rw [hj] at a
   simp only [Option.some.injEq] at a
   right
   rw [a]
   simp
def Away (w w1 wr:World) (o:Value):Prop:=(∀ j,o.ownBlock=some j->j=w.heap.size\/w1.heap.size<=j)/\(∀ j,w.heap.size<j->j<w1.heap.size->wr.heap[j]? = w1.heap[j]?)/\w1.heap.size<=wr.heap.size
theorem Away.step {w w1 wr w4:World} {o v':Value} (h:Away w w1 wr o) (g:wr.grownBy w4 o.ownBlock) (a:∀ j,v'.ownBlock=some j->o.ownBlock=some j\/wr.heap.size<=j):Away w w1 w4 v':=by
 obtain ⟨h1,h2,h3⟩:=h
 refine ⟨fun j hj=>?_,fun j p1 p2=>?_,zP h3 g.size⟩
 ·rcases a j hj with a | a
  ·exact h1 j a
  ·right;omega
 ·rw [g.block j (by omega) (fun e=>?_),h2 j p1 p2]
  rcases h1 j e.symm with e | e <;> omega
theorem Away.sl {w w1 wr:World} {o:Value} (h:Away w w1 wr o) {B cp:Nat} {a0:Option Addr} {xs:List Int} (hB:w.heap.size<B) (hO:OwnI w1 B (.slice a0 xs.length cp) xs):Sl wr a0 xs:=by
 by_cases hx:0<xs.length
 ·obtain ⟨g,cap,e,hg,hl⟩:=hO.block hx
  simp only [Value.slice.injEq] at e
  obtain ⟨rfl,-,rfl⟩:=e
  refine .inr ⟨g,0,rfl,zL hl h.2.2,fun i hi=>?_⟩
  rw [Nat.zero_add,zH (h.2.1 g (by omega) hl)]
  exact hO.cell hi
 ·exact .inl (List.eq_nil_of_length_eq_zero (by omega))
def valT (eh:Nat->E3) (kd pr:Int) (len j:Nat):List Int:=((plN eh kd pr len).take j).map fun i=>(eh i).v
theorem valT_le (eh:Nat->E3) (kd pr:Int) (len j:Nat):(valT eh kd pr len j).length<=j:=by simp [valT];omega
theorem valT_all (eh:Nat->E3) (kd pr:Int) (len:Nat):valT eh kd pr len (plI eh kd pr len).length=valL eh kd pr len:=by
 unfold valT valL
 rw [plI_length,List.take_length]
theorem valT_next {eh:Nat->E3} {kd pr:Int} {len j q:Nat} (h:(plN eh kd pr len)[j]? = some q):valT eh kd pr len (j+1)=valT eh kd pr len j ++ [(eh q).v]:=by
 unfold valT
 rw [List.take_add_one,h,List.map_append]
 rfl
theorem specValues_l (ea:Option Addr) (len cap:Nat) (eh:Nat->E3) (kd pr:Int) (w:World) (hlen:len<=1048576) (hc:EvL w ea len eh):
  Calls Tryz.prog 54 #[.slice ea len cap,.int .i64 kd,.int .i64 pr] w fun e w'=>∃ v,e=.returned v/\OwnI w' w.heap.size v (valL eh kd pr len)/\Below w.heap.size w w':=by
 have hl':(len:Int)<=1048576:=by omega
 have HC:Hid (EvL w ea len eh):=hc
 clear hc
 go_enter Tryz.func54,Tryz.ntmps54
 go_wp2_with fail
 go_loopw [7,8] (fun o i wr=>∃ k:Nat,k<=len/\i=.int .i64 k/\Hid (OwnI wr w.heap.size o (valL eh kd pr k))/\Below w.heap.size w wr) (fun _ i _=>len - (intOf i).toNat)
 case atStart=>exact ⟨0,Nat.zero_le _,rfl,own_empty w,(Below.refl _ _).alloc (Nat.le_refl _) _⟩
 case round=>
  obtain ⟨k,hk,rfl,HO,hbw⟩:=hrel
  have hs:=hbw.size
  by_cases hlt:k<len
  ·have hlt':(k:Int)<(len:Int):=by omega
   have hvl:=valL_le eh kd pr k
   obtain ⟨b,off,rfl,-,c0,c1,c2⟩:=(HC.out.below hbw).at hlt
   rcases zK ((eh k).k == kd) with t1 | t1
   ·rcases zK ((eh k).q == pr) with t2 | t2
    ·have HH : Hid (valL eh kd pr (k + 1) = valL eh kd pr k ++ [(eh k).v]) := valL_hit (by
      unfold hitB
      rw [t1,t2]
      rfl)
     go_wp2_with (at_builtin;refine append_one wr rfl _ _ rfl w.heap.size u7 (valL eh kd pr k) rfl HO.out (eh k).v rfl (by omega) hs ?_;intro v' w4 o4 b4;have H4:Hid (OwnI w4 w.heap.size v' (valL eh kd pr (k+1))):=o4.to HH.out;clear o4)
     go_roundw
     case rel=>exact ⟨k+1,by omega,by go_num,H4.out,hbw.trans b4⟩
     case measure=>simp [intOf];omega
    ·have HH : Hid (valL eh kd pr (k + 1) = valL eh kd pr k) := valL_not (by
      unfold hitB
      rw [t1,t2]
      rfl)
     go_wp2
     go_roundw
     case rel=>exact ⟨k+1,by omega,by go_num,HO.out.to HH.out,hbw⟩
     case measure=>simp [intOf];omega
   ·have HH : Hid (valL eh kd pr (k + 1) = valL eh kd pr k) := valL_not (by
     unfold hitB
     rw [t1]
     rfl)
    go_wp2
    go_roundw
    case rel=>exact ⟨k+1,by omega,by go_num,HO.out.to HH.out,hbw⟩
    case measure=>simp [intOf];omega
  ·have hkl:k=len:=by omega
   have H4:Hid (OwnI wr w.heap.size u7 (valL eh kd pr len)):=by
    have:=HO.out
    rw [hkl] at this
    exact this
   clear HO hkl
   go_wp2
   go_ret
   exact ⟨_,rfl,H4.out,hbw⟩
theorem placesOf_l (ea:Option Addr) (len cap:Nat) (eh:Nat->E3) (kd pr:Int) (w:World) (hlen:len<=1048576) (hc:EvL w ea len eh):
  Calls Tryz.prog 161 #[.slice ea len cap,.int .i64 kd,.int .i64 pr] w fun e w'=>∃ v,e=.returned v/\OwnI w' w.heap.size v (plI eh kd pr len)/\Below w.heap.size w w':=by
 have hl':(len:Int)<=1048576:=by omega
 have HC:Hid (EvL w ea len eh):=hc
 clear hc
 go_enter Tryz.func161,Tryz.ntmps161
 go_wp2_with fail
 go_loopw [7,13] (fun o i wr=>∃ k:Nat,k<=len/\i=.int .i64 k/\Hid (OwnI wr w.heap.size o (plI eh kd pr k))/\Below w.heap.size w wr) (fun _ i _=>len - (intOf i).toNat)
 case atStart=>exact ⟨0,Nat.zero_le _,rfl,own_empty w,(Below.refl _ _).alloc (Nat.le_refl _) _⟩
 case round=>
  obtain ⟨k,hk,rfl,HO,hbw⟩:=hrel
  have hs:=hbw.size
  by_cases hlt:k<len
  ·have hlt':(k:Int)<(len:Int):=by omega
   have hvl:=plI_le eh kd pr k
   obtain ⟨b,off,rfl,-,c0,c1,c2⟩:=(HC.out.below hbw).at hlt
   rcases zK ((eh k).k == kd) with t1 | t1
   ·rcases zK ((eh k).q == pr) with t2 | t2
    ·have HH : Hid (plI eh kd pr (k + 1) = plI eh kd pr k ++ [(k : Int)]) := plI_hit (by
      unfold hitB
      rw [t1,t2]
      rfl)
     go_wp2_with (at_builtin;refine append_oneN _ (N:=wr.heap.size+1) (by simp) rfl _ _ rfl w.heap.size u7 (plI eh kd pr k) rfl (HO.out.below (by go_grown)) k rfl (by omega) (by simp;omega) ?_;intro v' w4 o4 b4;have H4:Hid (OwnI w4 w.heap.size v' (plI eh kd pr (k+1))):=o4.to HH.out;clear o4)
     go_roundw
     case rel=>exact ⟨k+1,by omega,by go_num,H4.out,Below.trans (by go_grown) b4⟩
     case measure=>simp [intOf];omega
    ·have HH : Hid (plI eh kd pr (k + 1) = plI eh kd pr k) := plI_not (by
      unfold hitB
      rw [t1,t2]
      rfl)
     go_wp2
     go_roundw
     case rel=>exact ⟨k+1,by omega,by go_num,(HO.out.below (by go_grown)).to HH.out,by go_grown⟩
     case measure=>simp [intOf];omega
   ·have HH : Hid (plI eh kd pr (k + 1) = plI eh kd pr k) := plI_not (by
     unfold hitB
     rw [t1]
     rfl)
    go_wp2
    go_roundw
    case rel=>exact ⟨k+1,by omega,by go_num,(HO.out.below (by go_grown)).to HH.out,by go_grown⟩
    case measure=>simp [intOf];omega
  ·have hkl:k=len:=by omega
   have H4:Hid (OwnI wr w.heap.size u7 (plI eh kd pr len)):=by
    have:=HO.out
    rw [hkl] at this
    exact this
   clear HO hkl
   go_wp2
   go_ret
   exact ⟨_,rfl,H4.out,hbw⟩
theorem specCount_l (ea:Option Addr) (len cap:Nat) (eh:Nat->E3) (kd pr:Int) (w:World) (hlen:len<=1048576) (hc:EvL w ea len eh):
  Calls Tryz.prog 105 #[.slice ea len cap,.int .i64 kd,.int .i64 pr] w fun e w'=>e=.returned (.int .i64 ((plN eh kd pr len).length:Nat))/\Below w.heap.size w w':=by
 have HC:Hid (EvL w ea len eh):=hc
 clear hc
 go_enter Tryz.func105,Tryz.ntmps105
 go_wp2_with fail
 refine (specValues_l ea len cap eh kd pr w hlen HC.out).mono ?_
 rintro e w1 ⟨v,rfl,o1,b1⟩
 obtain ⟨a0,cp,rfl,-⟩:=o1.form
 rw [valL_length]
 go_wp2
 go_ret
 exact ⟨rfl,b1⟩
theorem implValues_l (ea:Option Addr) (len cap:Nat) (eh:Nat->E3) (kd pr:Int) (w:World) (hlen:len<=1048576) (hc:EvL w ea len eh):
  Calls Tryz.prog 162 #[.slice ea len cap,.int .i64 kd,.int .i64 pr] w fun e w'=>∃ v,e=.returned v/\OwnI w' w.heap.size v (valL eh kd pr len)/\Below w.heap.size w w':=by
 have hl':(len:Int)<=1048576:=by omega
 have HC:Hid (EvL w ea len eh):=hc
 clear hc
 have hpl:=plI_le eh kd pr len
 go_enter Tryz.func162,Tryz.ntmps162
 go_wp2_with fail
 refine (placesOf_l ea len cap eh kd pr _ hlen (HC.out.below (by go_grown))).mono ?_
 rintro e w1 ⟨v,rfl,o1,b1⟩
 have B1:Hid (Below w.heap.size w w1):=below_up (by go_grown) b1 (by simp)
 obtain ⟨a0,cp,rfl,-⟩:=o1.form
 have HS:Hid (OwnI w1 (w.heap.size+1) (.slice a0 (plI eh kd pr len).length cp) (plI eh kd pr len)):=by
  rw [World.size_alloc] at o1
  exact o1
 clear o1
 go_wp2_with fail
 have HO:Hid (OwnI w1 w.heap.size (.slice (some ⟨w.heap.size,0,none⟩) 0 0) []):=(own_empty w).below b1
 clear b1
 go_loopw [7,16] (fun o i wr=>∃ k:Nat,k<=(plI eh kd pr len).length/\i=.int .i64 k/\Hid (OwnI wr w.heap.size o (valT eh kd pr len k))/\Below w.heap.size w wr/\Hid (Away w w1 wr o)) (fun _ i _=>(plI eh kd pr len).length - (intOf i).toNat)
 case atStart=>exact ⟨0,Nat.zero_le _,rfl,HO.out,B1.out,⟨fun j hj=>by simp [Value.ownBlock] at hj;exact .inl hj.symm,fun _ _ _=>rfl,Nat.le_refl _⟩⟩
 case round=>
  clear HO B1
  obtain ⟨k,hk,rfl,HO,hbw,HA⟩:=hrel
  have hs:=hbw.size
  by_cases hlt:k<(plI eh kd pr len).length
  ·have hlt':(k:Int)<((plI eh kd pr len).length:Int):=by omega
   obtain ⟨b0,o0,e0,hb0,hcell⟩:=(HA.out.sl (Nat.lt_succ_self _) HS.out).at hlt
   obtain ⟨q,hq,hql,hqe⟩:=plI_place eh kd pr len k hlt
   have hql':(q:Int)<(len:Int):=by omega
   rw [hq] at hcell
   subst e0
   have hvl:=valT_le eh kd pr len k
   have HH:Hid (valT eh kd pr len (k+1)=valT eh kd pr len k ++ [(eh q).v]):=valT_next hqe
   obtain ⟨b,off,rfl,-,c0,c1,c2⟩:=(HC.out.below hbw).at hql
   clear hq hqe
   go_wp2_with (at_builtin;refine append_far wr rfl _ _ rfl w.heap.size u7 (valT eh kd pr len k) rfl HO.out (eh q).v rfl (by omega) hs ?_;intro v' w4 o4 g4 a4;have A4:Hid (Away w w1 w4 v'):=HA.out.step g4 a4;have b4:Below w.heap.size wr w4:=⟨g4.os,g4.tape,g4.output,g4.size,fun j hj=>g4.block j (zL hj hs) (fun e=>Nat.not_le_of_lt hj (HO.out.lt j e.symm).1)⟩;have H4:Hid (OwnI w4 w.heap.size v' (valT eh kd pr len (k+1))):=o4.to HH.out;clear o4 g4 a4)
   go_roundw
   case rel=>exact ⟨k+1,by omega,by go_num,H4.out,hbw.trans b4,A4.out⟩
   case measure=>simp [intOf];omega
  ·have hkl:k=(plI eh kd pr len).length:=by omega
   have H4:Hid (OwnI wr w.heap.size u7 (valL eh kd pr len)):=by
    have:=HO.out
    rw [hkl,valT_all] at this
    exact this
   clear HO hkl
   go_wp2
   go_ret
   exact ⟨_,rfl,H4.out,hbw⟩
theorem specNumbers_l (ea:Option Addr) (len cap:Nat) (h:Nat->I2) (w:World) (hlen:len<=1048576) (hc:ItL w ea len h):
  Calls Tryz.prog 104 #[.slice ea len cap] w fun e w'=>∃ v,e=.returned v/\OwnI w' w.heap.size v (numL h len)/\Below w.heap.size w w':=by
 have hl':(len:Int)<=1048576:=by omega
 have HC:Hid (ItL w ea len h):=hc
 clear hc
 go_enter Tryz.func104,Tryz.ntmps104
 go_wp2_with fail
 go_loopw [3,4] (fun o i wr=>∃ k:Nat,k<=len/\i=.int .i64 k/\Hid (OwnI wr w.heap.size o (numL h k))/\Below w.heap.size w wr) (fun _ i _=>len - (intOf i).toNat)
 case atStart=>exact ⟨0,Nat.zero_le _,rfl,own_empty w,(Below.refl _ _).alloc (Nat.le_refl _) _⟩
 case round=>
  obtain ⟨k,hk,rfl,HO,hbw⟩:=hrel
  have hs:=hbw.size
  by_cases hlt:k<len
  ·have hlt':(k:Int)<(len:Int):=by omega
   have hvl:=numL_le h k
   obtain ⟨b,off,rfl,-,c0,c1⟩:=(HC.out.below hbw).at hlt
   rcases zK (h k).m with t1 | t1
   ·have HH:Hid (numL h (k+1)=numL h k):=numL_not t1
    rw [t1] at c0
    go_wp2
    go_roundw
    case rel=>exact ⟨k+1,by omega,by go_num,HO.out.to HH.out,hbw⟩
    case measure=>simp [intOf];omega
   ·have HH:Hid (numL h (k+1)=numL h k ++ [(h k).v]):=numL_hit t1
    rw [t1] at c0
    go_wp2_with (at_builtin;refine append_one wr rfl _ _ rfl w.heap.size u3 (numL h k) rfl HO.out (h k).v rfl (by omega) hs ?_;intro v' w4 o4 b4;have H4:Hid (OwnI w4 w.heap.size v' (numL h (k+1))):=o4.to HH.out;clear o4)
    go_roundw
    case rel=>exact ⟨k+1,by omega,by go_num,H4.out,hbw.trans b4⟩
    case measure=>simp [intOf];omega
  ·have hkl:k=len:=by omega
   have H4:Hid (OwnI wr w.heap.size u3 (numL h len)):=by
    have:=HO.out
    rw [hkl] at this
    exact this
   clear HO hkl
   go_wp2
   go_ret
   exact ⟨_,rfl,H4.out,hbw⟩
theorem implNumbers_l (ea:Option Addr) (len cap:Nat) (h:Nat->I2) (w:World) (hlen:len<=1048576) (hc:ItL w ea len h):
  Calls Tryz.prog 154 #[.slice ea len cap] w fun e w'=>∃ v,e=.returned v/\OwnI w' w.heap.size v (numL h len)/\Below w.heap.size w w':=by
 have hl':(len:Int)<=1048576:=by omega
 have HC:Hid (ItL w ea len h):=hc
 clear hc
 go_enter Tryz.func154,Tryz.ntmps154
 go_wp2_with fail
 go_loopw [3,9] (fun o i wr=>∃ k:Nat,k<=len/\i=.int .i64 k/\Hid (OwnI wr w.heap.size o (numL h k))/\Below w.heap.size w wr) (fun _ i _=>len - (intOf i).toNat)
 case atStart=>exact ⟨0,Nat.zero_le _,rfl,own_empty w,(Below.refl _ _).alloc (Nat.le_refl _) _⟩
 case round=>
  obtain ⟨k,hk,rfl,HO,hbw⟩:=hrel
  have hs:=hbw.size
  by_cases hlt:k<len
  ·have hlt':(k:Int)<(len:Int):=by omega
   have hvl:=numL_le h k
   obtain ⟨b,off,rfl,-,c0,c1⟩:=(HC.out.below hbw).at hlt
   rcases zK (h k).m with t1 | t1
   ·have HH:Hid (numL h (k+1)=numL h k):=numL_not t1
    rw [t1] at c0
    go_wp2
    go_roundw
    case rel=>exact ⟨k+1,by omega,by go_num,(HO.out.below (by go_grown)).to HH.out,by go_grown⟩
    case measure=>simp [intOf];omega
   ·have HH:Hid (numL h (k+1)=numL h k ++ [(h k).v]):=numL_hit t1
    rw [t1] at c0
    go_wp2_with (at_builtin;refine append_oneN _ (N:=wr.heap.size+1) (by simp) rfl _ _ rfl w.heap.size u3 (numL h k) rfl (HO.out.below (by go_grown)) (h k).v rfl (by omega) (by simp;omega) ?_;intro v' w4 o4 b4;have H4:Hid (OwnI w4 w.heap.size v' (numL h (k+1))):=o4.to HH.out;clear o4)
    go_roundw
    case rel=>exact ⟨k+1,by omega,by go_num,H4.out,Below.trans (by go_grown) b4⟩
    case measure=>simp [intOf];omega
  ·have hkl:k=len:=by omega
   have H4:Hid (OwnI wr w.heap.size u3 (numL h len)):=by
    have:=HO.out
    rw [hkl] at this
    exact this
   clear HO hkl
   go_wp2
   go_ret
   exact ⟨_,rfl,H4.out,hbw⟩
open Go.ChangeShapes Go.WideShapes Go.ChangeAt Go.Sort
theorem itemOk_any (m:Bool) (v:Int) (w:World):
  Calls Tryz.prog 198 #[itV m v] w fun e w'=>e=.returned (.bool (itemB ⟨m,v⟩))/\Below w.heap.size w w':=by
 rcases zK m with rfl | rfl
 ·have HE:Hid (itemB ⟨true,v⟩=(v == 0)):=by
   show itemB ⟨true,v⟩=(v == 0)
   simp only [itemB,Bool.not_true,Bool.false_or]
   by_cases e:v=0
   ·subst e
    rfl
   ·have:(v == 0)=false:=by simpa using e
    rw [this,Bool.and_false]
  go_enter Tryz.func198,Tryz.ntmps198
  go_wp2
  go_ret
  rw [HE.out]
  exact ⟨rfl,by go_grown⟩
 ·have HE:Hid (itemB ⟨false,v⟩=inB v (-1000000000) 1000000000):=by
   show itemB ⟨false,v⟩=inB v (-1000000000) 1000000000
   simp [itemB,numB]
  go_enter Tryz.func198,Tryz.ntmps198
  go_wp2_with fail
  refine (isNum_any _ _).mono ?_
  rintro e w1 ⟨rfl,rfl⟩
  go_wp2
  go_ret
  rw [HE.out]
  exact ⟨rfl,by go_grown⟩
def itemsB (h:Nat->I2) (n:Nat):Bool:=(List.range n).all fun i=>itemB (h i)
theorem itemsB_iff {h:Nat->I2} {n:Nat}:itemsB h n=true ↔ ∀ i,i<n->itemB (h i)=true:=by
 simp [itemsB]
theorem itemsB_no {h:Nat->I2} {n k:Nat} (hk:k<n) (hf:itemB (h k)=false):itemsB h n=false:=by
 rcases zK (itemsB h n) with t | t
 ·have:=itemsB_iff.1 t k hk
  rw [hf] at this
  cases this
 ·exact t
theorem wayOk_any (a:Option Addr) (len cap:Nat) (h:Nat->I2) (w:World) (hlen:len<=1048576) (hc:ItL w a len h):
  Calls Tryz.prog 151 #[.slice a len cap] w fun e w'=>e=.returned (.bool (decide (len<=12) && itemsB h len))/\Below w.heap.size w w':=by
 have hl':(len:Int)<=1048576:=by omega
 have HC:Hid (ItL w a len h):=hc
 clear hc
 by_cases h12:len<=12
 case neg=>
  have h12':(12:Int)<(len:Int):=by omega
  have HE:Hid ((decide (len<=12) && itemsB h len)=false):=by
   show (decide (len<=12) && itemsB h len)=false
   simp [h12]
  go_enter Tryz.func151,Tryz.ntmps151
  go_wp2
  go_ret
  rw [HE.out]
  exact ⟨rfl,Below.refl _ _⟩
 have h12':¬ (12:Int)<(len:Int):=by omega
 have HE:Hid ((decide (len<=12) && itemsB h len)=itemsB h len):=by
  show (decide (len<=12) && itemsB h len)=itemsB h len
  simp [h12]
 clear h12
 go_enter Tryz.func151,Tryz.ntmps151
 go_wp2_with fail
 go_loopw [10] (fun i wr=>∃ k:Nat,k<=len/\i=.int .i64 k/\Below w.heap.size w wr/\Hid (∀ j,j<k->itemB (h j)=true)) (fun i _=>len - (intOf i).toNat)
 case atStart=>exact ⟨0,Nat.zero_le _,rfl,Below.refl _ _,fun j hj=>by omega⟩
 case round=>
  obtain ⟨k,hk,rfl,hbw,HZ⟩:=hrel
  by_cases hlt:k<len
  ·have hlt':(k:Int)<(len:Int):=by omega
   obtain ⟨b,off,rfl,-,c0,c1⟩:=(HC.out.below hbw).at hlt
   go_wp2_with fail
   refine (itemOk_any _ _ _).mono ?_
   rintro e w1 ⟨rfl,b1⟩
   have B1:Hid (Below w.heap.size w w1):=hbw.trans (((zT wr _).trans (b1.mono (by simp))).mono hbw.size)
   clear b1
   rcases zK (itemB (h k)) with t | t
   ·have HZ':Hid (∀ j,j<k+1->itemB (h j)=true):=fun j hj=>by
     by_cases e:j=k
     ·subst e
      exact t
     ·exact HZ.out j (by omega)
    rw [show itemB { m:=(h k).m,v:=(h k).v }=true from t]
    clear HZ t
    go_wp2
    go_roundw
    case rel=>exact ⟨k+1,by omega,by go_num,B1.out,HZ'.out⟩
    case measure=>simp [intOf];omega
   ·have HN:Hid (itemsB h len=false):=itemsB_no hlt t
    rw [show itemB { m:=(h k).m,v:=(h k).v }=false from t]
    clear HZ t
    go_wp2
    go_ret
    rw [HE.out,HN.out]
    exact ⟨rfl,B1.out⟩
  ·have HN:Hid (itemsB h len=true):=itemsB_iff.2 fun j hj=>HZ.out j (by omega)
   clear HZ
   go_wp2
   go_ret
   rw [HE.out,HN.out]
   exact ⟨rfl,hbw⟩
structure LWay (h:Nat->I2) (len:Nat) (sent:List Int) (t:Nat):Prop where
 it:∀ i,i<len->itemB (h i)=true
 le:len<=12
 ln:sent.length=t+(numL h len).length
 eq:∀ j,j<(numL h len).length->zi (numL h len) j=zi sent (t+j)
theorem zi_append_left {xs ys:List Int} {j:Nat} (h:j<xs.length):zi (xs ++ ys) j=zi xs j:=by
 simp [zi,List.getD_eq_getElem?_getD,List.getElem?_append_left h]
theorem zi_append_right {xs ys:List Int} {j:Nat}:zi (xs ++ ys) (xs.length+j)=zi ys j:=by
 simp [zi,List.getD_eq_getElem?_getD,List.getElem?_append_right]
theorem LWay.iff {h:Nat->I2} {len:Nat} {took sent:List Int}:(LWay h len sent took.length/\∀ i,i<took.length->zi took i=zi sent i) ↔ WayP h len took sent:=by
 refine ⟨fun ⟨a,b⟩=>⟨a.it,a.le,?_⟩,fun a=>⟨⟨a.it,a.le,by rw [<- a.eq,List.length_append],fun j _=>by rw [<- a.eq,zi_append_right]⟩,fun i hi=>by rw [<- a.eq,zi_append_left hi]⟩⟩
 refine list_of_zi (by rw [List.length_append,a.ln]) fun j hj=>?_
 by_cases hl:j<took.length
 ·rw [zi_append_left hl,b j hl]
 ·rw [List.length_append] at hj
  have e:j=took.length+(j - took.length):=by omega
  rw [e,zi_append_right]
  exact a.eq _ (by omega)
theorem l4Way_any (a:Option Addr) (len cap:Nat) (h:Nat->I2) (sa:Option Addr) (sc:Nat) (sent:List Int) (t:Nat) (w:World) (hlen:len<=1048576) (hc:ItL w a len h) (hs:sent.length<=1048576) (hS:Sl w sa sent) (ht:t<=1048576):
  Calls Tryz.prog 55 #[.slice a len cap,.slice sa sent.length sc,.int .i64 t] w fun e w'=>e=.returned (.bool (pB (LWay h len sent t)))/\Below w.heap.size w w':=by
 have hl':(len:Int)<=1048576:=by omega
 have hs':(sent.length:Int)<=1048576:=by omega
 have ht':(t:Int)<=1048576:=by omega
 have HC:Hid (ItL w a len h):=hc
 have HS:Hid (Sl w sa sent):=hS
 clear hc hS
 go_enter Tryz.func55,Tryz.ntmps55
 go_wp2_with fail
 go_loopw [7] (fun i wr=>∃ k:Nat,k<=len/\i=.int .i64 k/\Below w.heap.size w wr/\Hid (∀ j,j<k->itemB (h j)=true)) (fun i _=>len - (intOf i).toNat)
 case atStart=>exact ⟨0,Nat.zero_le _,rfl,Below.refl _ _,fun j hj=>by omega⟩
 case round=>
  obtain ⟨k,hk,rfl,hbw,HZ⟩:=hrel
  by_cases hlt:k<len
  ·have hlt':(k:Int)<(len:Int):=by omega
   obtain ⟨b,off,rfl,-,c0,c1⟩:=(HC.out.below hbw).at hlt
   have hN:∀ {x:Bool},inB (h k).v (-1000000000) 1000000000=x->numB (h k).v=x:=fun e=>e
   rcases zK (inB (h k).v (-1000000000) 1000000000) with t1 | t1
   ·have go_on:itemB (h k)=true->Hid (∀ j,j<k+1->itemB (h j)=true):=fun t j hj=>by
     by_cases e:j=k
     ·subst e
      exact t
     ·exact HZ.out j (by omega)
    have stop:itemB (h k)=false->Hid (pB (LWay h len sent t)=false):=fun t=>pB_false fun x=>by
     have:=x.it k hlt
     rw [t] at this
     cases this
    rcases zK (h k).m with t2 | t2
    ·rcases zK ((h k).v != 0) with t3 | t3
     ·have HN := stop (by
       have:((h k).v == 0)=false:=by simpa using t3
       simp [itemB,t2,this])
      rw [t2] at c0
      clear go_on stop HZ hN
      go_wp2_with fail
      refine (l1Num_any _ _).mono ?_
      rintro e w1 ⟨rfl,rfl⟩
      rw [t1]
      go_wp2
      go_ret
      rw [HN.out]
      exact ⟨rfl,hbw⟩
     ·have HZ' := go_on (by
       have:((h k).v == 0)=true:=by simpa using t3
       simp [itemB,hN t1,this])
      rw [t2] at c0
      clear go_on stop HZ hN
      go_wp2_with fail
      refine (l1Num_any _ _).mono ?_
      rintro e w1 ⟨rfl,rfl⟩
      rw [t1]
      go_wp2
      go_roundw
      case rel=>exact ⟨k+1,by omega,by go_num,hbw,HZ'.out⟩
      case measure=>simp [intOf];omega
    ·have HZ':=go_on (by simp [itemB,hN t1,t2])
     rw [t2] at c0
     clear go_on stop HZ hN
     go_wp2_with fail
     refine (l1Num_any _ _).mono ?_
     rintro e w1 ⟨rfl,rfl⟩
     rw [t1]
     go_wp2
     go_roundw
     case rel=>exact ⟨k+1,by omega,by go_num,hbw,HZ'.out⟩
     case measure=>simp [intOf];omega
   ·have HN:Hid (pB (LWay h len sent t)=false):=pB_false fun x=>by
     have:=x.it k hlt
     simp [itemB,hN t1] at this
    clear HZ hN
    go_wp2_with fail
    refine (l1Num_any _ _).mono ?_
    rintro e w1 ⟨rfl,rfl⟩
    rw [t1]
    go_wp2
    go_ret
    rw [HN.out]
    exact ⟨rfl,hbw⟩
  ·have HZ':Hid (∀ j,j<len->itemB (h j)=true):=fun j hj=>HZ.out j (by omega)
   have hkl:k=len:=by omega
   subst hkl
   clear HZ hlt hk
   go_wp2_with fail
   refine (specNumbers_l a k cap h wr hlen (HC.out.below hbw)).mono ?_
   rintro e w1 ⟨v,rfl,o1,b1⟩
   obtain ⟨na,nc,rfl,s1⟩:=o1.form
   have B1:Hid (Below w.heap.size w w1):=hbw.trans (b1.mono hbw.size)
   have S1:Hid (Sl w1 na (numL h k)):=s1
   have hnl:=numL_le h k
   have hnl':((numL h k).length:Int)<=1048576:=by omega
   clear o1 b1 s1 hbw
   generalize hNU:numL h k=nu at *
   have HNU:Hid (numL h k=nu):=hNU
   clear hNU hnl
   by_cases h12:k<=12
   case neg=>
    have h12':(12:Int)<(k:Int):=by omega
    have HN:Hid (pB (LWay h k sent t)=false):=pB_false fun x=>h12 x.le
    go_wp2
    go_ret
    rw [HN.out]
    exact ⟨rfl,B1.out⟩
   have h12':¬ (12:Int)<(k:Int):=by omega
   rcases zK (((sent.length:Int) - (t:Int)) != (nu.length:Int)) with t5 | t5
   ·have HN:Hid (pB (LWay h k sent t)=false):=pB_false fun x=>by
     have:=x.ln
     rw [HNU.out] at this
     rw [this] at t5
     simp at t5
     omega
    go_wp2
    go_ret
    rw [HN.out]
    exact ⟨rfl,B1.out⟩
   have HLN:Hid (sent.length=t+nu.length):=by
    show sent.length=t+nu.length
    simp at t5
    omega
   go_wp2_with fail
   go_loopw [9] (fun i wr=>∃ j:Nat,j<=nu.length/\i=.int .i64 j/\Below w1.heap.size w1 wr/\Hid (∀ i,i<j->zi nu i=zi sent (t+i))) (fun i _=>nu.length - (intOf i).toNat)
   case atStart=>exact ⟨0,Nat.zero_le _,rfl,Below.refl _ _,fun j hj=>by omega⟩
   case round=>
    obtain ⟨j,hj,rfl,hbw,HZ⟩:=hrel
    have hw:Below w.heap.size w wr:=B1.out.trans (hbw.mono B1.out.size)
    by_cases hlt:j<nu.length
    ·have hlt2:t+j<sent.length:=by have:=HLN.out;omega
     obtain ⟨b,off,rfl,hbl,ck⟩:=(S1.out.below hbw).at hlt
     obtain ⟨b',off',rfl,hbl',ck'⟩:=(HS.out.below hw).at hlt2
     have hlt':(j:Int)<(nu.length:Int):=by omega
     have hlt2':(t:Int)+(j:Int)<(sent.length:Int):=by omega
     have hq:((t:Int)+(j:Int)).toNat=t+j:=by omega
     clear hlt2
     rcases zK (zi nu j != zi sent (t+j)) with t6 | t6
     ·have HN:Hid (pB (LWay h k sent t)=false):=pB_false fun x=>by
       have:=x.eq j (by rw [HNU.out];exact hlt)
       rw [HNU.out] at this
       rw [this] at t6
       simp at t6
      go_wp2_with fail
      go_quiet (fail)
      go_wp2
      go_ret
      rw [HN.out]
      exact ⟨rfl,yC hw _⟩
     ·have HZ2:Hid (∀ i,i<j+1->zi nu i=zi sent (t+i)):=fun i hi=>by
       by_cases e:i=j
       ·subst e
        simpa using t6
       ·exact HZ.out i (by omega)
      clear HZ
      go_wp2_with fail
      go_quiet (fail)
      go_wp2
      go_roundw
      case rel=>exact ⟨j+1,by omega,by go_num,yC hbw _,HZ2.out⟩
      case measure=>simp [intOf];omega
    ·have HN : Hid (pB (LWay h k sent t) = true) := pB_true ⟨HZ'.out, h12, by rw [HNU.out]; exact HLN.out, fun i hi => by
      rw [HNU.out] at hi ⊢
      exact HZ.out i (by omega)⟩
     clear HZ
     go_wp2
     go_ret
     rw [HN.out]
     exact ⟨rfl,hw⟩
open Go.RowKit Go.Extern.Stop Go.Stop Go.Extern
theorem elemVT (a p:Addr) (W:World) (ha:W.cell? a=some (.pointer (some p))):
  (ReflectliteValue.method (ReflectliteValue.valueError "reflectlite.Value.Elem" 0) ReflectliteValue.elem #[.agg #[.pointer (some ⟨1, 228, none⟩), .pointer (some a), .int .u64 150]]).run Tryz.prog W
   = .ok (.agg #[.pointer (some ⟨1,221,none⟩),.pointer (some p),.int .u64 409]) W:=by
 rw [rlm]
 simp only [Sem.run_bind,partsT,Result.andThen]
 simp [ReflectliteValue.elem,loadVar,isAgg,underlying,Tryz.underlying228,ha,Result.andThen,elemOfT,mkE]
theorem rls (v x : Value) : ReflectliteValue.set #[v, x] = (do
  let (some (dst,a,fl),some (src,b,_)):=(<- ReflectliteValue.parts v,<- ReflectliteValue.parts x)
   | unsupported (.noEntry "extern/(internal/reflectlite.Value).Set.zeroValue")
  if fl / ReflectliteValue.flagAddr % 2 == 0 then unsupported (.noEntry "extern/(internal/reflectlite.Value).Set.unaddressable")
  let val <- loadVar src b
  if <- Rtype.directlyAssignable dst src then storeVar dst a val
  else if <- Rtype.implements dst src then
   if (<- Rtype.kind src) == 20 then
    match val with
    | .nilIface => unsupported (.noEntry "extern/reflectlite: a nil value of one interface type handed on as a value of another")
    | _=>storeVar dst a val
   else storeVar dst a (.iface src val)
  else panicString ("reflectlite.Set: value of type " ++ (<- Rtype.spelt src) ++ " is not assignable to type " ++ (<- Rtype.spelt dst))
  pure (.tuple #[])):=rfl
theorem partsEa (a:Addr) (w:World):(ReflectliteValue.parts (.agg #[.pointer (some ⟨1,221,none⟩),.pointer (some a),.int .u64 409])).run Tryz.prog w=.ok (some (221,a,409)) w:=by kernel_rfl
theorem partsE (a:Addr) (w:World):(ReflectliteValue.parts (.agg #[.pointer (some ⟨1,221,none⟩),.pointer (some a),.int .u64 153])).run Tryz.prog w=.ok (some (221,a,153)) w:=by kernel_rfl
theorem directE (w:World):(Rtype.directlyAssignable 221 221).run Tryz.prog w=.ok true w:=by kernel_rfl
theorem setE (ta b:Addr) (x:Int) (old:Value) (W:World) (hb:W.cell? b=some (.int .i64 x)) (ht:W.cell? ta=some old) (hf:W.frozen? ta=false):
  (ReflectliteValue.set #[.agg #[.pointer (some ⟨1,221,none⟩),.pointer (some ta),.int .u64 409],.agg #[.pointer (some ⟨1,221,none⟩),.pointer (some b),.int .u64 153]]).run Tryz.prog W
   = .ok (.tuple #[]) (W.setCell ta (.int .i64 x)):=by
 rw [rls]
 simp only [Sem.run_bind,partsEa,partsE,Result.andThen]
 simp [ReflectliteValue.flagAddr,loadVar,loadCells,loadCellsFrom,hb,Result.andThen,directE,storeVar,Value.cells,storeCells,Addr.add]
 rw [run_store Tryz.prog W ta _ _ (by rfl)]
 simp [ht,hf]
open Go.RowKit Go.Extern.Stop Go.Stop Go.Extern
theorem as_hit (x:Int) (t:Addr) (old:Value) (w:World) (hg:w.cell? ⟨0,0,none⟩=some (.iface 294 (.agg #[.pointer (some ⟨1,179,none⟩)]))) (ht0:w.cell? t=some old) (hf0:w.frozen? t=false):
  Calls Tryz.prog 197 #[.iface 221 (.agg #[.int .i64 x]),.iface 228 (.pointer (some t))] w fun ev w'=>ev=.returned (.bool true)/\∃ o1 o2 o3 o4,w'=((((w.alloc o1).alloc o2).alloc o3).alloc o4).setCell t (.int .i64 x):=by
 have h6:=@run_callFunc_extern Tryz.prog 222 _ (fun args=>ReflectliteValue.unpack (args.getD 0 (.tuple #[]))) Tryz.func222 (by kernel_rfl) (by kernel_rfl) (by kernel_rfl) (by kernel_rfl)
 have h7 := @run_callFunc_extern Tryz.prog 223 _ (ReflectliteValue.methodAny (ReflectliteValue.valueError "reflectlite.Value.Type" 0) (fun t _ _ _ => ReflectliteType.toType t)) Tryz.func223 (by kernel_rfl) (by kernel_rfl) (by kernel_rfl) (by kernel_rfl)
 have h8 := @run_callFunc_extern Tryz.prog 224 _ (ReflectliteValue.method (ReflectliteValue.valueError "reflectlite.Value.IsNil" 0) ReflectliteValue.isNil) Tryz.func224 (by kernel_rfl) (by kernel_rfl) (by kernel_rfl) (by kernel_rfl)
 have h27:=@run_callFunc_extern Tryz.prog 264 _ (ReflectliteType.abiMethod fun t=>do pure (.int .u8 (<- Rtype.kind t))) Tryz.func264 (by kernel_rfl) (by kernel_rfl) (by kernel_rfl) (by kernel_rfl)
 have h37:=@run_callFunc_extern Tryz.prog 285 _ (ReflectliteType.method ReflectliteType.elem) Tryz.func285 (by kernel_rfl) (by kernel_rfl) (by kernel_rfl) (by kernel_rfl)
 have h38 := @run_callFunc_extern Tryz.prog 286 _ (ReflectliteType.relation "Implements" ReflectliteType.implements_) Tryz.func286 (by kernel_rfl) (by kernel_rfl) (by kernel_rfl) (by kernel_rfl)
 have h10:=@run_callFunc_extern Tryz.prog 245 _ ReflectliteType.typeOf Tryz.func245 (by kernel_rfl) (by kernel_rfl) (by kernel_rfl) (by kernel_rfl)
 have h35 := @run_callFunc_extern Tryz.prog 283 _ (ReflectliteType.relation "AssignableTo" ReflectliteType.assignableTo) Tryz.func283 (by kernel_rfl) (by kernel_rfl) (by kernel_rfl) (by kernel_rfl)
 have h11 := @run_callFunc_extern Tryz.prog 246 _ (ReflectliteValue.method (ReflectliteValue.valueError "reflectlite.Value.Elem" 0) ReflectliteValue.elem) Tryz.func246 (by kernel_rfl) (by kernel_rfl) (by kernel_rfl) (by kernel_rfl)
 have h12:=@run_callFunc_extern Tryz.prog 247 _ ReflectliteValue.set Tryz.func247 (by kernel_rfl) (by kernel_rfl) (by kernel_rfl) (by kernel_rfl)
 have tO:=typeOfE
 have a25:=assignableE
 have v25:=valueOfE
 have f6:=valueOfT
 have f7:=typeT
 have k27:=kindT
 have k25:=kindE
 have e27:=elemT
 have i25:=implementsE
 have n8:=isNilT ⟨w.heap.size,0,none⟩ t ((w.alloc (.cells #[.pointer (some t)] 228)).alloc (.cells #[.pointer (some ⟨1,228,none⟩),.pointer (some ⟨w.heap.size,0,none⟩),.int .u64 150] 262)) (by simp)
 have hlt:0<w.heap.size:=by
  rcases Nat.eq_zero_or_pos w.heap.size with h0 | h
  ·simp [World.cell?,h0] at hg
  ·exact h
 have hg2:((w.alloc (.cells #[.pointer (some t)] 228)).alloc (.cells #[.pointer (some ⟨1,228,none⟩),.pointer (some ⟨w.heap.size,0,none⟩),.int .u64 150] 262)).cell? ⟨0,0,none⟩=some (.iface 294 (.agg #[.pointer (some ⟨1,179,none⟩)])):=by
  rw [World.cell?_alloc_lt _ _ ⟨0,0,none⟩ (by simp),World.cell?_alloc_lt _ _ ⟨0,0,none⟩ hlt];exact hg
 have htl:t.block<w.heap.size:=by
  rcases Nat.lt_or_ge t.block w.heap.size with h | h
  ·exact h
  ·simp [World.cell?,Array.getElem?_eq_none h] at ht0
 have el := elemVT ⟨w.heap.size, 0, none⟩ t (((w.alloc (.cells #[.pointer (some t)] 228)).alloc (.cells #[.pointer (some ⟨1, 228, none⟩), .pointer (some ⟨w.heap.size, 0, none⟩), .int .u64 150] 262)).alloc (.cells #[.pointer (some ⟨1, 228, none⟩), .pointer (some ⟨w.heap.size, 0, none⟩), .int .u64 150] 262)) (by
  rw [World.cell?_alloc_lt _ _ _ (by simp;omega),World.cell?_alloc_lt _ _ _ (by simp),World.cell?_alloc_at _ _ _ _ rfl];rfl)
 have st:=setE t ⟨w.heap.size+1+1+1,0,none⟩ x old ((((w.alloc (.cells #[.pointer (some t)] 228)).alloc (.cells #[.pointer (some ⟨1,228,none⟩),.pointer (some ⟨w.heap.size,0,none⟩),.int .u64 150] 262)).alloc (.cells #[.pointer (some ⟨1,228,none⟩),.pointer (some ⟨w.heap.size,0,none⟩),.int .u64 150] 262)).alloc (.cells #[.int .i64 x] 221))
  (by rw [World.cell?_alloc_at _ _ _ _ (by simp)];rfl)
  (by rw [World.cell?_alloc_lt _ _ t (by simp;omega),World.cell?_alloc_lt _ _ t (by simp;omega),World.cell?_alloc_lt _ _ t (by simp;omega),World.cell?_alloc_lt _ _ t htl];exact ht0)
  (by rw [World.frozen?_alloc_old _ _ t (by simp;omega),World.frozen?_alloc_old _ _ t (by simp;omega),World.frozen?_alloc_old _ _ t (by simp;omega),World.frozen?_alloc_old _ _ t (Nat.ne_of_lt htl)];exact hf0)
 go_enter Tryz.func197,Tryz.ntmps197
 go_wp2
 refine wp_loop_rounds 1 ?_
 rw [rounds_succ]
 go_wp2
 go_ret
 exact ⟨rfl,_,_,_,_,rfl⟩
theorem sumL_all {d l:Nat->Nat} (h:∀ i,d i<=l i) (n:Nat) (e:sumL d n=sumL l n) (p:Nat) (hp:p<n):d p=l p:=by
 induction n with
 | zero=>omega
 | succ n ih=>
  have h1:=sumL_le h n
  have h2:=h n
  have e':sumL d n+d n=sumL l n+l n:=e
  by_cases hpn:p=n
  ·subst hpn
   omega
  ·exact ih (by omega) (by omega)
structure OrdB (w:World) (D n:Nat) (d:Nat->Nat):Prop where
 c:∀ i,i<n->w.cell? ⟨D,i,none⟩=some (.int .i64 (d i))
 fr:∀ j,w.frozen? ⟨D,j,none⟩=false
theorem OrdB.blk {w w':World} {D n:Nat} {d:Nat->Nat} (h:OrdB w D n d) (hb:w'.heap[D]? = w.heap[D]?):OrdB w' D n d:=⟨fun i hi=>(zH hb).trans (h.c i hi),fun j=>(zI hb).trans (h.fr j)⟩
theorem OrdB.put {w:World} {D n k:Nat} {d:Nat->Nat} (h:OrdB w D n d) (hk:k<n):OrdB (w.setCell ⟨D,k,none⟩ (.int .i64 ((d k:Int)+1))) D n (up d k):=by
 refine ⟨fun i hi=>?_,fun j=>by rw [World.frozen?_setCell];exact h.fr j⟩
 by_cases e:i=k
 ·subst e
  rw [World.cell?_setCell_same' _ _ _ (by rw [h.c i hi];rfl),up_same]
  rfl
 ·rw [World.cell?_setCell_other _ _ _ _ (by intro e';injection e' with _ e';exact e e'.symm),up_other e]
  exact h.c i hi
structure Od (w wr:World) (B D:Nat) (ha:Option Addr) (hc:Nat) (y:Hs) (d:Nat->Nat):Prop where
 pu:y.Put d
 od:OrdB wr D y.n d
 bx:wr.cell? ⟨B,3,none⟩=some (.slice ha y.n hc)
 be:Below w.heap.size w wr
theorem Od.below {w wr w':World} {B D:Nat} {ha:Option Addr} {hc:Nat} {y:Hs} {d:Nat->Nat} (h:Od w wr B D ha hc y d) (hb:Below wr.heap.size wr w') (hD:D<wr.heap.size):Od w w' B D ha hc y d:=
 ⟨h.pu,h.od.blk (hb.block D hD),(hb.cell (p:=⟨B,3,none⟩) (zJ wr _ h.bx)).trans h.bx,h.be.trans (hb.mono h.be.size)⟩
theorem Od.set {w wr:World} {B D k:Nat} {ha:Option Addr} {hc:Nat} {y:Hs} {d:Nat->Nat} (h:Od w wr B D ha hc y d) (hk:k<y.n) (hcan:y.Can d k) (hBD:B≠D) (hw:w.heap.size<=D):Od w (wr.setCell ⟨D,k,none⟩ (.int .i64 ((d k:Int)+1))) B D ha hc y (up d k):=
 ⟨.next h.pu hk hcan,h.od.put hk,(World.cell?_setCell_other _ _ _ _ (by intro e;injection e with e;exact hBD e.symm)).trans h.bx,h.be.setCell hw _⟩
theorem madeInt_cell (w:World) (n i:Nat) (hi:i<n):(w.alloc (.cells (madeCells #[.int .i64 0] n) 3)).cell? ⟨w.heap.size,i,none⟩=some (.int .i64 0):=by
 rw [zW _ _ _ i rfl]
 simp [madeCells,hi,Nat.mod_one]
theorem slice_to (a:Option Addr) (len cap h:Nat) (hh:h<=cap) (w:World):(Instr.slice 75 (.slice a len cap) none (some (.int .i64 (h:Int))) none).run Tryz.prog w=.ok (.slice a h cap) w:=by
 have hh':(h:Int)<=(cap:Int):=by omega
 cases a with
 | none=>simp [go_sem,sliced,hh']
 | some a=>simp [go_sem,sliced,hh']
theorem l4Order_any (pa:Option Addr) (pn pc:Nat) (sa:Option Addr) (sn sc:Nat) (wa:Option Addr) (wn wc:Nat) (ha:Option Addr) (hc:Nat) (hA:Nat->Option Addr) (hC:Nat->Nat) (y:Hs) (w:World) (hE:HisE w ha hA hC y) (hcap:∀ i,i<y.n->y.l i<=hC i) (h1:1<=y.n) (h4:y.n<=4) (hp:y.Peers) (hl:∀ i,i<y.n->y.l i<=200):
  Calls Tryz.prog 56 #[sysV pa pn pc sa sn sc wa wn wc ha y.n hc] w fun e w'=>e=.returned (.bool (qB y.Row))/\Below w.heap.size w w':=by
 have HE:Hid (HisE w ha hA hC y):=hE
 have HH:Hid (y.Peers/\(∀ i,i<y.n->y.l i<=200)/\(∀ i,i<y.n->y.l i<=hC i)):=⟨hp,hl,hcap⟩
 have hn4:(y.n:Int)<=4:=by omega
 have hmk:∀ wx:World,(Instr.makeSlice 30 (.int .i64 (y.n:Int)) (.int .i64 (y.n:Int))).run Tryz.prog wx=.ok (.slice (some ⟨wx.heap.size,0,none⟩) y.n y.n) (wx.alloc (.cells (madeCells #[.int .i64 0] y.n) 3)):=fun wx=>run_make_int y.n (by omega) wx
 have HOd:Hid (Od w ((w.alloc (oQ4 pa pn pc sa sn sc wa wn wc ha y.n hc)).alloc (.cells (madeCells #[.int .i64 0] y.n) 3)) w.heap.size (w.heap.size+1) ha hc y (fun _=>0)):=by
  refine ⟨.start,⟨fun i hi=>?_,fun j=>yB _ _ _ _ (by simp)⟩,?_,(zT _ _).trans ((zT _ _).mono (by simp))⟩
  ·have:=madeInt_cell (w.alloc (oQ4 pa pn pc sa sn sc wa wn wc ha y.n hc)) y.n i hi
   rw [World.size_alloc] at this
   exact this
  ·exact ((BoxC.new w _ _ _ _ _).below (zT _ _)).2.2.2
 have HD:Hid (w.heap.size+1<((w.alloc (oQ4 pa pn pc sa sn sc wa wn wc ha y.n hc)).alloc (.cells (madeCells #[.int .i64 0] y.n) 3)).heap.size):=by
  show w.heap.size+1<_
  simp
 clear hE hp hl hcap
 go_enter Tryz.func56,Tryz.ntmps56
 go_wp2_with fail
 generalize (w.alloc (oQ4 pa pn pc sa sn sc wa wn wc ha y.n hc)).alloc (.cells (madeCells #[.int .i64 0] y.n) 3)=W1 at *
 generalize hD:w.heap.size+1=D at *
 have HDW:Hid (w.heap.size+1=D):=hD
 clear hmk hD
 go_loopw [6,7] (fun s i wr=>∃ k:Nat,k<=y.n/\i=.int .i64 k/\s=.int .i64 (sumL y.l k:Nat)/\wr=W1) (fun _ i _=>y.n - (intOf i).toNat)
 case atStart=>exact ⟨0,Nat.zero_le _,rfl,rfl,rfl⟩
 case round=>
  obtain ⟨k,hk,rfl,rfl,rfl⟩:=hrel
  have hsum:sumL y.l k<=200*k:=by
   have:∀ j,j<=y.n->sumL y.l j<=200*j:=by
    intro j
    induction j with
    | zero=>exact fun _=>Nat.le_refl _
    | succ j ih=>
     intro hj
     have h5:=ih (by omega)
     have h6:=HH.out.2.1 j (by omega)
     show sumL y.l j+y.l j<=200*(j+1)
     omega
   exact this k hk
  have hsum':((sumL y.l k:Nat):Int)<=1000:=by omega
  have b3:=HOd.out.bx
  by_cases hlt:k<y.n
  ·have hlt':(k:Int)<(y.n:Int):=by omega
   obtain ⟨bh,oh,eh,ch⟩:=(HE.out.below HOd.out.be).row.at hlt
   rw [eh] at b3
   have hl2:(y.l k:Int)<=200:=by have:=HH.out.2.1 k hlt;omega
   clear hsum
   go_wp2
   go_roundw
   case rel=>exact ⟨k+1,by omega,by go_num,by simp only [sumL];congr 1,by first | rfl | trivial⟩
   case measure=>simp [intOf];omega
  ·have hkn:k=y.n:=by omega
   subst hkn
   clear hlt hk hsum b3
   have hlt':¬ ((y.n:Int)<(y.n:Int)):=by omega
   have hsumI:∀ d:Nat->Nat,y.Put d->((sumL y.l y.n:Nat):Int) - ((sumL d y.n:Nat):Int)=((sumL y.l y.n - sumL d y.n:Nat):Int):=fun d hd=>by
    have:=sumL_le hd.le y.n
    omega
   have HSI:Hid (∀ d:Nat->Nat,y.Put d->((sumL y.l y.n:Nat):Int) - ((sumL d y.n:Nat):Int)=((sumL y.l y.n - sumL d y.n:Nat):Int)):=hsumI
   have HSM:Hid (((sumL y.l y.n:Nat):Int)<=1000):=hsum'
   clear hsumI hsum'
   go_wp2_with fail
   go_loopg [5,6] (2*(sumL y.l y.n)+1) (fun gn m s wr=>∃ (t:Bool) (d:Nat->Nat),m=.bool t/\s=.int .i64 ((sumL y.l y.n - sumL d y.n:Nat):Int)/\gn=2*(sumL y.l y.n - sumL d y.n)+(if t=true then 1 else 0)/\Hid (Od w wr w.heap.size D ha hc y d/\D<wr.heap.size/\(t=false->∀ p,p<y.n->¬ y.Can d p)))
   case atStart=>exact ⟨true,fun _=>0,rfl,by rw [sumL_zero];rfl,by rw [sumL_zero];rfl,HOd.out,HD.out,fun h=>by cases h⟩
   case round=>
    clear HOd HD
    obtain ⟨t,d,rfl,rfl,hgn,HI⟩:=hrel
    rcases zK t with rfl | rfl
    ·have HGN:Hid (gk=2*(sumL y.l y.n - sumL d y.n)+1):=hgn
     clear hgn
     go_wp2_with fail
     go_loopw [5,6,8] (fun m s i wr=>∃ (k:Nat) (t':Bool) (d':Nat->Nat),k<=y.n/\i=.int .i64 k/\m=.bool t'/\s=.int .i64 ((sumL y.l y.n - sumL d' y.n:Nat):Int)/\Hid (Od w wr w.heap.size D ha hc y d'/\D<wr.heap.size/\(t'=true->sumL d y.n<sumL d' y.n)/\(t'=false->d'=d/\∀ p,p<k->¬ y.Can d p))) (fun _ _ i _=>y.n - (intOf i).toNat)
     case atStart=>exact ⟨0,false,d,Nat.zero_le _,rfl,rfl,rfl,HI.out.1,HI.out.2.1,(fun h=>by cases h),fun _=>⟨rfl,fun p hp=>by omega⟩⟩
     case round=>
      clear HI
      obtain ⟨k,t',d',hk,rfl,rfl,rfl,HJ⟩:=hrel
      by_cases hlt:k<y.n
      ·have hlt':(k:Int)<(y.n:Int):=by omega
       have hdk:d' k<=y.l k:=HJ.out.1.pu.le k
       have hl2:(y.l k:Int)<=200:=by have:=HH.out.2.1 k hlt;omega
       have dk:=HJ.out.1.od.c k hlt
       have b3:=HJ.out.1.bx
       obtain ⟨bh,oh,eh,ch⟩:=(HE.out.below HJ.out.1.be).row.at hlt
       rw [eh] at b3
       by_cases he:d' k=y.l k
       ·have HNo:Hid (¬ y.Can d' k):=fun h=>by have:=h.1;omega
        have HJ' : ∀ nq, Hid (Od w (wr.drewN nq) w.heap.size D ha hc y d' ∧ D < (wr.drewN nq).heap.size ∧ (t' = true → sumL d y.n < sumL d' y.n) ∧ (t' = false → d' = d ∧ ∀ p, p < k + 1 → ¬ y.Can d p)) := fun nq => ⟨HJ.out.1.below (yC (Below.refl _ _) _) HJ.out.2.1, HJ.out.2.1, HJ.out.2.2.1, fun h => ⟨(HJ.out.2.2.2 h).1, fun p hp => by
         have h5:=HJ.out.2.2.2 h
         by_cases e:p=k
         ·subst e
          rw [<- h5.1]
          exact HNo.out
         ·exact h5.2 p (by omega)⟩⟩
        rw [he] at dk
        have HJQ:Hid (∀ nq,Hid (Od w (wr.drewN nq) w.heap.size D ha hc y d'/\D<(wr.drewN nq).heap.size/\(t'=true->sumL d y.n<sumL d' y.n)/\(t'=false->d'=d/\∀ p,p<k+1->¬ y.Can d p))):=HJ'
        clear HJ HJ' he hdk
        go_wp2_with fail
        go_quiet (fail)
        go_wp2
        go_roundw
        case rel=>exact ⟨k+1,t',d',by omega,by go_num,rfl,rfl,HJQ.out _⟩
        case measure=>simp [intOf];omega
       ·have hkl:d' k<y.l k:=by omega
        have hkl':(d' k:Int)<(y.l k:Int):=by omega
        have hne:((d' k:Int) == (y.l k:Int))=false:=by
         have:¬ (d' k:Int)=(y.l k:Int):=by omega
         simpa using this
        clear he hdk
        go_wp2_with fail
        go_quiet (fail)
        go_wp2_with fail
        have OD:Hid (Od w (wr.drewN nq) w.heap.size D ha hc y d'/\D<(wr.drewN nq).heap.size/\(t'=true->sumL d y.n<sumL d' y.n)/\(t'=false->d'=d/\∀ p,p<k->¬ y.Can d p)):=⟨HJ.out.1.below (yC (Below.refl _ _) _) HJ.out.2.1,HJ.out.2.1,HJ.out.2.2⟩
        clear HJ dk b3 ch
        generalize wr.drewN nq=wd at *
        have dk:=OD.out.1.od.c k hlt
        have b3:=OD.out.1.bx
        obtain ⟨bh',oh',eh',ch⟩:=(HE.out.below OD.out.1.be).row.at hlt
        rw [eh'] at b3
        obtain ⟨b,off,ea,zb,e0,e1,e2⟩:=((HE.out.below OD.out.1.be).ev k hlt).at hkl
        rw [ea] at ch
        have n1:wd.heap.size≠D:=by have:=OD.out.2.1;omega
        have n2:wd.heap.size≠b:=by omega
        have n3:wd.heap.size≠bh':=by have:=zJ wd _ ch;simp at this;omega
        have dk':=cell_allocs dk
        have b3':=cell_allocs b3
        have ch':=cell_allocs ch
        have e0':=cell_allocs e0
        have e1':=cell_allocs e1
        have e2':=cell_allocs e2
        clear zb
        go_region
        all_goals
         have OZ:Hid (Od w (wd.alloc (oQ0 (y.e k (d' k)).k (y.e k (d' k)).q (y.e k (d' k)).v)).drew w.heap.size D ha hc y d'/\D<(wd.alloc (oQ0 (y.e k (d' k)).k (y.e k (d' k)).q (y.e k (d' k)).v)).drew.heap.size/\(t'=true->sumL d y.n<sumL d' y.n)/\(t'=false->d'=d/\∀ p,p<k->¬ y.Can d p)):=⟨OD.out.1.below (zT _ _).drew OD.out.2.1,zL OD.out.2.1 (zT _ _).drew.size,OD.out.2.2⟩
         have z0:(wd.alloc (oQ0 (y.e k (d' k)).k (y.e k (d' k)).q (y.e k (d' k)).v)).drew.cell? ⟨wd.heap.size,0,none⟩=some (.int .i64 (y.e k (d' k)).k):=zW wd _ _ 0 rfl
         have z1:(wd.alloc (oQ0 (y.e k (d' k)).k (y.e k (d' k)).q (y.e k (d' k)).v)).drew.cell? ⟨wd.heap.size,1,none⟩=some (.int .i64 (y.e k (d' k)).q):=zW wd _ _ 1 rfl
         go_wp2_with fail
         clear dk b3 ch e0 e1 e2 dk' b3' ch' e0' e1' e2' n1 n2 n3 OD eh eh' ea
         generalize (wd.alloc (oQ0 (y.e k (d' k)).k (y.e k (d' k)).q (y.e k (d' k)).v)).drew=wz at *
         generalize wd.heap.size=M at *
         rcases zK ((y.e k (d' k)).k == 3) with t3 | t3
         case inr=>
          have HK3:Hid (¬ (y.e k (d' k)).k=3):=by
           show ¬ (y.e k (d' k)).k=3
           simpa using t3
          go_quiet (fail)
          have OQ:Hid (Od w (wz.drewN nq) w.heap.size D ha hc y d'/\D<(wz.drewN nq).heap.size/\(t'=true->sumL d y.n<sumL d' y.n)/\(t'=false->d'=d/\∀ p,p<k->¬ y.Can d p)):=⟨OZ.out.1.below (yC (Below.refl _ _) _) OZ.out.2.1,OZ.out.2.1,OZ.out.2.2⟩
          clear z0 z1 OZ
          generalize wz.drewN nq=wq at *
          have HCn:Hid (y.Can d' k):=⟨hkl,fun h=>absurd h HK3.out⟩
          have HPu:Hid (y.Put (up d' k)):=.next OQ.out.1.pu hlt HCn.out
          have hsu:=sumL_up (d:=d') hlt
          have hsl:=sumL_le HPu.out.le y.n
          have HLE:Hid (((sumL y.l y.n - sumL d' y.n:Nat):Int) - 1=((sumL y.l y.n - sumL (up d' k) y.n:Nat):Int)):=by
           show ((sumL y.l y.n - sumL d' y.n:Nat):Int) - 1=((sumL y.l y.n - sumL (up d' k) y.n:Nat):Int)
           omega
          have hA1:((sumL y.l y.n - sumL d' y.n:Nat):Int)<=1000:=by have:=HSM.out;omega
          have hA0:(1:Int)<=((sumL y.l y.n - sumL d' y.n:Nat):Int):=by omega
          have HNx : Hid (Od w (wq.setCell ⟨D, k, none⟩ (.int .i64 ((d' k : Int) + 1))) w.heap.size D ha hc y (up d' k) ∧ D < (wq.setCell ⟨D, k, none⟩ (.int .i64 ((d' k : Int) + 1))).heap.size ∧ (true = true → sumL d y.n < sumL (up d' k) y.n) ∧ (true = false → up d' k = d ∧ ∀ p, p < k + 1 → ¬ y.Can d p)) := ⟨OQ.out.1.set hlt HCn.out (by have := HDW.out; omega) (by have := HDW.out; omega), by simpa [World.setCell] using OQ.out.2.1, (fun _ => by
           rcases zK t' with h5 | h5
           ·have:=OQ.out.2.2.1 h5
            omega
           ·have:=(OQ.out.2.2.2 h5).1
            rw [this] at hsu ⊢
            omega),(fun h=>by cases h)⟩
          have dkq:=OQ.out.1.od.c k hlt
          have frq:=OQ.out.1.od.fr
          clear hsu hsl OQ
          generalize hAA:((sumL y.l y.n - sumL d' y.n:Nat):Int)=AA at *
          clear hAA
          go_wp2
          go_roundw
          case rel=>exact ⟨k+1,true,up d' k,by omega,by go_num,rfl,by rw [HLE.out],HNx.out⟩
          case measure=>simp [intOf];omega
         case inl=>
          have hk3:(y.e k (d' k)).k=3:=by simpa using t3
          have HK3:Hid ((y.e k (d' k)).k=3):=hk3
          have hq:=HH.out.1 k hlt (d' k) hkl
          obtain ⟨q,hqe⟩:∃ q:Nat,(y.e k (d' k)).q=(q:Int):=⟨(y.e k (d' k)).q.toNat,by omega⟩
          have HQE:Hid ((y.e k (d' k)).q=(q:Int)):=hqe
          have hqn:q<y.n:=by omega
          have hqn':(q:Int)<(y.n:Int):=by omega
          rw [hk3] at z0
          rw [hqe] at z1
          have dk:=OZ.out.1.od.c k hlt
          have dq:=OZ.out.1.od.c q hqn
          have b3:=OZ.out.1.bx
          obtain ⟨bz,oz,ez,ch⟩:=(HE.out.below OZ.out.1.be).row.at hlt
          obtain ⟨bz',oz',ez',cq⟩:=(HE.out.below OZ.out.1.be).row.at hqn
          rw [ez] at b3 ez'
          simp only [Option.some.injEq,Addr.mk.injEq] at ez'
          obtain ⟨rfl,rfl,-⟩:=ez'
          have ks:=slice_to (hA k) (y.l k) (hC k) (d' k) (by have:=HH.out.2.2 k hlt;omega)
          have qs:=slice_to (hA q) (y.l q) (hC q) (d' q) (by have:=HH.out.2.2 q hqn;have:=OZ.out.1.pu.le q;omega)
          have HCk:Hid (∀ dd os,Calls Tryz.prog 105 #[.slice (hA k) (d' k) (hC k),.int .i64 3,.int .i64 q] (grow (redrawn wz dd) os) fun e w'=>e=.returned (.int .i64 (cnt (y.e k) 3 q (d' k):Nat))/\Below (grow (redrawn wz dd) os).heap.size (grow (redrawn wz dd) os) w'):=fun dd os=>specCount_l (hA k) (d' k) (hC k) (y.e k) 3 q _ (by have:=HH.out.2.1 k hlt;omega) (((HE.out.below OZ.out.1.be).below (below_regrown wz dd os)).ev k hlt |>.take (by omega))
          have HCq:Hid (∀ dd os,Calls Tryz.prog 105 #[.slice (hA q) (d' q) (hC q),.int .i64 2,.int .i64 k] (grow (redrawn wz dd) os) fun e w'=>e=.returned (.int .i64 (cnt (y.e q) 2 k (d' q):Nat))/\Below (grow (redrawn wz dd) os).heap.size (grow (redrawn wz dd) os) w'):=fun dd os=>specCount_l (hA q) (d' q) (hC q) (y.e q) 2 k _ (by have:=HH.out.2.1 q hqn;have:=OZ.out.1.pu.le q;omega) (((HE.out.below OZ.out.1.be).below (below_regrown wz dd os)).ev q hqn |>.take (OZ.out.1.pu.le q))
          have z0':=cell_regrown z0
          have z1':=cell_regrown z1
          have dk':=cell_regrown dk
          have dq':=cell_regrown dq
          have b3':=cell_regrown b3
          have ch':=cell_regrown ch
          have cq':=cell_regrown cq
          clear ez hq hqe hk3 t3
          refine wp_region_quiet_below (by kernel_rfl) (by kernel_rfl) ?_
          repeat (quiet_step (first|(go_at_call_of 105 (hA k);exact Calls.regrown_of (HCk.out _ _))|(go_at_call_of 105 (hA q);exact Calls.regrown_of (HCq.out _ _))))
          refine wpQuiet_nil ?_
          intro _ hw'
          obtain ⟨⟨dd,os⟩,hw''⟩:=hw'
          subst hw''
          have OQ:Hid (Od w (grow (redrawn wz dd) os) w.heap.size D ha hc y d'/\D<(grow (redrawn wz dd) os).heap.size/\(t'=true->sumL d y.n<sumL d' y.n)/\(t'=false->d'=d/\∀ p,p<k->¬ y.Can d p)):=⟨OZ.out.1.below (below_regrown wz dd os) OZ.out.2.1,zL OZ.out.2.1 (below_regrown wz dd os).size,OZ.out.2.2⟩
          clear z0' z1' dk' dq' b3' ch' cq' z0 z1 dk dq b3 ch cq ks qs HCk HCq OZ
          generalize grow (redrawn wz dd) os=wq at *
          have HCan:Hid (y.Can d' k ↔ cnt (y.e k) 3 q (d' k)<cnt (y.e q) 2 k (d' q)):=by
           show y.Can d' k ↔ _
           unfold Hs.Can
           rw [HQE.out]
           rw [show ((q:Int)).toNat=q by omega]
           exact ⟨fun h=>h.2 HK3.out,fun h=>⟨hkl,fun _=>h⟩⟩
          generalize cnt (y.e k) 3 q (d' k)=c1 at *
          generalize cnt (y.e q) 2 k (d' q)=c2 at *
          by_cases hcc:(c2:Int)<=(c1:Int)
          ·have HNo:Hid (¬ y.Can d' k):=fun h=>by have:=HCan.out.1 h;omega
           have HJ2 : Hid (Od w wq w.heap.size D ha hc y d' ∧ D < wq.heap.size ∧ (t' = true → sumL d y.n < sumL d' y.n) ∧ (t' = false → d' = d ∧ ∀ p, p < k + 1 → ¬ y.Can d p)) := ⟨OQ.out.1, OQ.out.2.1, OQ.out.2.2.1, fun h => ⟨(OQ.out.2.2.2 h).1, fun p hp => by
            have h5:=OQ.out.2.2.2 h
            by_cases e:p=k
            ·subst e
             rw [<- h5.1]
             exact HNo.out
            ·exact h5.2 p (by omega)⟩⟩
           clear OQ HCan
           go_wp2
           go_roundw
           case rel=>exact ⟨k+1,t',d',by omega,by go_num,rfl,rfl,HJ2.out⟩
           case measure=>simp [intOf];omega
          ·have HCx:Hid (y.Can d' k):=HCan.out.2 (by omega)
           clear HCan
           have HCn:Hid (y.Can d' k):=HCx.out
           have HPu:Hid (y.Put (up d' k)):=.next OQ.out.1.pu hlt HCn.out
           have hsu:=sumL_up (d:=d') hlt
           have hsl:=sumL_le HPu.out.le y.n
           have HLE:Hid (((sumL y.l y.n - sumL d' y.n:Nat):Int) - 1=((sumL y.l y.n - sumL (up d' k) y.n:Nat):Int)):=by
            show ((sumL y.l y.n - sumL d' y.n:Nat):Int) - 1=((sumL y.l y.n - sumL (up d' k) y.n:Nat):Int)
            omega
           have hA1:((sumL y.l y.n - sumL d' y.n:Nat):Int)<=1000:=by have:=HSM.out;omega
           have hA0:(1:Int)<=((sumL y.l y.n - sumL d' y.n:Nat):Int):=by omega
           have HNx : Hid (Od w (wq.setCell ⟨D, k, none⟩ (.int .i64 ((d' k : Int) + 1))) w.heap.size D ha hc y (up d' k) ∧ D < (wq.setCell ⟨D, k, none⟩ (.int .i64 ((d' k : Int) + 1))).heap.size ∧ (true = true → sumL d y.n < sumL (up d' k) y.n) ∧ (true = false → up d' k = d ∧ ∀ p, p < k + 1 → ¬ y.Can d p)) := ⟨OQ.out.1.set hlt HCn.out (by have := HDW.out; omega) (by have := HDW.out; omega), by simpa [World.setCell] using OQ.out.2.1, (fun _ => by
            rcases zK t' with h5 | h5
            ·have:=OQ.out.2.2.1 h5
             omega
            ·have:=(OQ.out.2.2.2 h5).1
             rw [this] at hsu ⊢
             omega),(fun h=>by cases h)⟩
           have dkq:=OQ.out.1.od.c k hlt
           have frq:=OQ.out.1.od.fr
           clear hsu hsl OQ
           generalize hAA:((sumL y.l y.n - sumL d' y.n:Nat):Int)=AA at *
           clear hAA
           go_wp2
           go_roundw
           case rel=>exact ⟨k+1,true,up d' k,by omega,by go_num,rfl,by rw [HLE.out],HNx.out⟩
           case measure=>simp [intOf];omega
      ·have hkn:k=y.n:=by omega
       subst hkn
       have HF:Hid (2*(sumL y.l y.n - sumL d' y.n)+(if t'=true then 1 else 0)<gk):=by
        have h2:=HGN.out
        have h3:=sumL_le HJ.out.1.pu.le y.n
        show _<gk
        cases t' with
        | true=>
         have h4:=HJ.out.2.2.1 rfl
         simp only [if_true]
         omega
        | false=>
         have h4:=(HJ.out.2.2.2 rfl).1
         rw [h4]
         simp only [Bool.false_eq_true,if_false]
         omega
       have HG2 : Hid (Od w wr w.heap.size D ha hc y d' ∧ D < wr.heap.size ∧ (t' = false → ∀ p, p < y.n → ¬ y.Can d' p)) := ⟨HJ.out.1, HJ.out.2.1, fun h p hp => by
        have:=HJ.out.2.2.2 h
        rw [this.1]
        exact this.2 p hp⟩
       clear HJ
       go_wp2
       go_roundg (2*(sumL y.l y.n - sumL d' y.n)+(if t'=true then 1 else 0))
       case measure=>exact HF.out
       case rel=>exact ⟨t',d',rfl,rfl,rfl,HG2.out⟩
    ·have HR:Hid ((((sumL y.l y.n - sumL d y.n:Nat):Int) == 0)=qB y.Row):=by
      show (((sumL y.l y.n - sumL d y.n:Nat):Int) == 0)=qB y.Row
      have hi:=Hs.row_iff HI.out.1.pu HH.out.1 (HI.out.2.2 rfl)
      have hle:=HI.out.1.pu.le
      by_cases hr:y.Row
      ·have:sumL d y.n=sumL y.l y.n:=sumL_same fun i hi'=>hi.1 hr i hi'
       rw [qB_true hr,this]
       simp
      ·rw [qB_false hr]
       have:sumL y.l y.n - sumL d y.n≠0:=fun e=>hr (hi.2 (sumL_all hle _ (by have:=sumL_le hle y.n;omega)))
       have h2:((sumL y.l y.n - sumL d y.n:Nat):Int)≠0:=by omega
       simpa using h2
     have HB:Hid (Below w.heap.size w wr):=HI.out.1.be
     clear HI hgn
     go_wp2
     go_ret
     rw [HR.out]
     exact ⟨rfl,HB.out⟩
theorem zU {w:World} {B:Nat} {e:TypeId} {sz:Nat} {v:Value} {n:Nat} {xs:List Value} (h:w.ownsRow B e sz v n xs):∃ a c,v=.slice a n c:=by
 rcases h.2 with ⟨rfl,rfl⟩ | ⟨g,cap,cur,rfl,_⟩
 ·exact ⟨none,0,rfl⟩
 ·exact ⟨_,_,rfl⟩
theorem l4Ins_any (a0:Option Addr) (n cap:Nat) (A:Nat->Option Addr) (L C:Nat->Nat) (H:Nat->Nat->I5) (w:World) (hn:n<=1048576) (hL:∀ i,i<n->L i<=1048576) (hr:RowS w a0 n fun i=>.slice (A i) (L i) (C i)) (hI:∀ i,i<n->Src w (A i) (fI (H i) (L i))):
  Calls Tryz.prog 122 #[.slice a0 n cap] w fun e w'=>∃ v u,e=.returned v/\LI true w' (fun k=>w.heap.size<=k/\k<w'.heap.size) v n u L H/\Below w.heap.size w w':=by
 have hn':(n:Int)<=1048576:=by omega
 have HR:Hid (RowS w a0 n fun i=>.slice (A i) (L i) (C i)):=hr
 have HI:Hid (∀ i,i<n->Src w (A i) (fI (H i) (L i))):=hI
 have HL:Hid (∀ i,i<n->L i<=1048576):=hL
 clear hr hI hL
 go_enter Tryz.func122,Tryz.ntmps122
 go_wp2_with fail
 go_loopw [3,4] (fun v i wr=>∃ k:Nat,k<=n/\i=.int .i64 k/\Hid ((∃ u,LI true wr (fun b=>w.heap.size<=b/\b<wr.heap.size) v k u L H)/\Below w.heap.size w wr)) (fun _ i _=>n - (intOf i).toNat)
 case atStart=>exact ⟨0,Nat.zero_le _,rfl,⟨fun _=>.slice none 0 0,LL.new _ _ _ w _ (by simp) _ _ _⟩,zQ _ _⟩
 case round=>
  obtain ⟨k,hk,rfl,HZ⟩:=hrel
  by_cases hlt:k<n
  ·have hlt':(k:Int)<(n:Int):=by omega
   obtain ⟨b,off,rfl,ck⟩:=(HR.out.below HZ.out.2).at hlt
   have hbl:b<wr.heap.size:=zJ wr _ ck
   have HS:Hid (Src wr (A k) (fI (H k) (L k))):=(HI.out k hlt).below HZ.out.2
   have HLk:Hid (L k<=1048576):=HL.out k hlt
   have hk2:Hid (k<=2000000):=by show k<=2000000;omega
   obtain ⟨⟨u,oz⟩,bz⟩:=HZ.out
   have OZ:Hid (LI true wr (fun b=>w.heap.size<=b/\b<wr.heap.size) u3 k u L H):=oz
   have BZ:Hid (Below w.heap.size w wr):=bz
   clear oz bz HZ
   go_wp2_with (first
    | (at_builtin;refine step_append_srcN kndI wr rfl rfl _ _ rfl (A k) (L k) (C k) (fI (H k) (L k)) rfl rfl (fI_len _ _) HS.out (fI_one _ _) (zP HLk.out (by omega)) ?_;intro v4 w4 o4 b4 n4;obtain ⟨a4,c4,rfl⟩:=zU o4;have F4:Hid (w4.ownsRow wr.heap.size 142 5 (.slice a4 (L k) c4) (L k) (fI (H k) (L k))/\Below wr.heap.size wr w4/\Value.slice a4 (L k) c4≠.slice none 0 0):=⟨o4,b4,n4⟩;clear o4 b4 n4)
    | (at_builtin;refine step_append_val kndII w4 rfl rfl _ _ rfl 0 u3 k _ rfl (OZ.out.below F4.out.2.1).row #[.slice a4 (L k) c4] rfl rfl (by intro u hu;simp at hu;subst hu;rfl) hk2.out (Nat.zero_le _) ?_;intro v5 w5 o5 g5 q5 n5;have F5:Hid (LI true w5 (fun b=>w.heap.size<=b/\b<w5.heap.size) v5 (k+1) (fun j=>if j=k then .slice a4 (L k) c4 else u j) L H/\Below w.heap.size w w5):=⟨OZ.out.push F4.out.2.1 F4.out.1 (fun _=>F4.out.2.2) o5 g5 q5 (fun j hj _=>⟨hj.1,zL hj.2 (zP F4.out.2.1.size g5.size)⟩) (fun j hj hj'=>⟨zP BZ.out.size hj,hj'⟩),Below.grown (BZ.out.trans (F4.out.2.1.mono BZ.out.size)) g5 (zP BZ.out.size F4.out.2.1.size) (fun j hj=>(OZ.out.rb j hj).1)⟩;clear o5 g5 q5 n5))
   go_roundw
   case rel=>exact ⟨k+1,by omega,by go_num,⟨_,F5.out.1⟩,F5.out.2⟩
   case measure=>simp [intOf];omega
  ·have hkn:k=n:=by omega
   subst hkn
   go_wp2
   go_ret
   obtain ⟨⟨u,oz⟩,bz⟩:=HZ.out
   exact ⟨_,u,rfl,oz,bz⟩
theorem l4Events_any (a0:Option Addr) (n cap:Nat) (A:Nat->Option Addr) (L C:Nat->Nat) (H:Nat->Nat->E3) (w:World) (hn:n<=1048576) (hL:∀ i,i<n->L i<=1048576) (hr:RowS w a0 n fun i=>.slice (A i) (L i) (C i)) (hI:∀ i,i<n->Src w (A i) (fE (H i) (L i))):
  Calls Tryz.prog 123 #[.slice a0 n cap] w fun e w'=>∃ v u,e=.returned v/\LE true w' (fun k=>w.heap.size<=k/\k<w'.heap.size) v n u L H/\Below w.heap.size w w':=by
 have hn':(n:Int)<=1048576:=by omega
 have HR:Hid (RowS w a0 n fun i=>.slice (A i) (L i) (C i)):=hr
 have HI:Hid (∀ i,i<n->Src w (A i) (fE (H i) (L i))):=hI
 have HL:Hid (∀ i,i<n->L i<=1048576):=hL
 clear hr hI hL
 go_enter Tryz.func123,Tryz.ntmps123
 go_wp2_with fail
 go_loopw [3,4] (fun v i wr=>∃ k:Nat,k<=n/\i=.int .i64 k/\Hid ((∃ u,LE true wr (fun b=>w.heap.size<=b/\b<wr.heap.size) v k u L H)/\Below w.heap.size w wr)) (fun _ i _=>n - (intOf i).toNat)
 case atStart=>exact ⟨0,Nat.zero_le _,rfl,⟨fun _=>.slice none 0 0,LL.new _ _ _ w _ (by simp) _ _ _⟩,zQ _ _⟩
 case round=>
  obtain ⟨k,hk,rfl,HZ⟩:=hrel
  by_cases hlt:k<n
  ·have hlt':(k:Int)<(n:Int):=by omega
   obtain ⟨b,off,rfl,ck⟩:=(HR.out.below HZ.out.2).at hlt
   have hbl:b<wr.heap.size:=zJ wr _ ck
   have HS:Hid (Src wr (A k) (fE (H k) (L k))):=(HI.out k hlt).below HZ.out.2
   have HLk:Hid (L k<=1048576):=HL.out k hlt
   have hk2:Hid (k<=2000000):=by show k<=2000000;omega
   obtain ⟨⟨u,oz⟩,bz⟩:=HZ.out
   have OZ:Hid (LE true wr (fun b=>w.heap.size<=b/\b<wr.heap.size) u3 k u L H):=oz
   have BZ:Hid (Below w.heap.size w wr):=bz
   clear oz bz HZ
   go_wp2_with (first
    | (at_builtin;refine step_append_srcN kndE wr rfl rfl _ _ rfl (A k) (L k) (C k) (fE (H k) (L k)) rfl rfl (fE_len _ _) HS.out (fE_one _ _) (zP HLk.out (by omega)) ?_;intro v4 w4 o4 b4 n4;obtain ⟨a4,c4,rfl⟩:=zU o4;have F4:Hid (w4.ownsRow wr.heap.size 85 3 (.slice a4 (L k) c4) (L k) (fE (H k) (L k))/\Below wr.heap.size wr w4/\Value.slice a4 (L k) c4≠.slice none 0 0):=⟨o4,b4,n4⟩;clear o4 b4 n4)
    | (at_builtin;refine step_append_val kndEE w4 rfl rfl _ _ rfl 0 u3 k _ rfl (OZ.out.below F4.out.2.1).row #[.slice a4 (L k) c4] rfl rfl (by intro u hu;simp at hu;subst hu;rfl) hk2.out (Nat.zero_le _) ?_;intro v5 w5 o5 g5 q5 n5;have F5:Hid (LE true w5 (fun b=>w.heap.size<=b/\b<w5.heap.size) v5 (k+1) (fun j=>if j=k then .slice a4 (L k) c4 else u j) L H/\Below w.heap.size w w5):=⟨OZ.out.push F4.out.2.1 F4.out.1 (fun _=>F4.out.2.2) o5 g5 q5 (fun j hj _=>⟨hj.1,zL hj.2 (zP F4.out.2.1.size g5.size)⟩) (fun j hj hj'=>⟨zP BZ.out.size hj,hj'⟩),Below.grown (BZ.out.trans (F4.out.2.1.mono BZ.out.size)) g5 (zP BZ.out.size F4.out.2.1.size) (fun j hj=>(OZ.out.rb j hj).1)⟩;clear o5 g5 q5 n5))
   go_roundw
   case rel=>exact ⟨k+1,by omega,by go_num,⟨_,F5.out.1⟩,F5.out.2⟩
   case measure=>simp [intOf];omega
  ·have hkn:k=n:=by omega
   subst hkn
   go_wp2
   go_ret
   obtain ⟨⟨u,oz⟩,bz⟩:=HZ.out
   exact ⟨_,u,rfl,oz,bz⟩
theorem stepR_append_src {ops:Array Oper} {o:Oper} {a:Act} {K:Act->World->Prop} {Q:Exit->Act->World->Prop} {E:Prop} {t e:TypeId} {size bytes:Nat} (KK:Kind t e size bytes) (w:World) (hg:o.guard=none) (s x:Operand)
  (ho:o.op=.call { callee:=.builtin .append,args:=#[s,x],argTypes:=#[t,t] })
  (B:Nat) (v:Value) (n:Nat) (xs:List Value) (hs:a.eval s=v) (hown:w.ownsRow B e size v n xs) (a0:Option Addr) (m c:Nat) (news:List Value) (hx:a.eval x=.slice a0 m c) (hl:news.length=m*size) (hsrc:Src w a0 news) (h1:∀ u ∈ news,u.oneCell'=true) (hnm:n+m<=4000000) (hB:B<=w.heap.size)
  (h:∀ v' w',w'.ownsRow B e size v' (n+m) (xs ++ news)->w.grownBy w' v.ownBlock->(v'.ownBlock=v.ownBlock\/v'.ownBlock=some w.heap.size)->(v≠.slice none 0 0\/0<m->v'≠.slice none 0 0)->K (a.put o.dst v') w'):
  if Region.wanted o (yielded ops a.tmps)=true then Oper.wp Tryz.prog o a w K Q else E:=by
 obtain ⟨v',w',r1,r2,r3,r4,r5⟩:=run_append_src KK w o.type B v n xs hown a0 m c news hl hsrc h1 hnm hB
 have hw:Region.wanted o (yielded ops a.tmps)=true:=by simp [Region.wanted,hg]
 rw [if_pos hw]
 unfold Oper.wp execOp
 simp only [ho,resolve,invoke,builtin,Sem.run_bind,Sem.run_pure,Result.andThen_ok,List.map_toArray,List.map_cons,List.map_nil,hs,hx,r1]
 exact h v' w' r2 r3 r4 r5
theorem stepR_append_srcN {ops:Array Oper} {o:Oper} {a:Act} {K:Act->World->Prop} {Q:Exit->Act->World->Prop} {E:Prop} {t e:TypeId} {size bytes:Nat} (KK:Kind t e size bytes) (w:World) {N:Nat} (hN:N=w.heap.size) (hg:o.guard=none) (s x:Operand)
  (ho:o.op=.call { callee:=.builtin .append,args:=#[s,x],argTypes:=#[t,t] })
  (a0:Option Addr) (m c:Nat) (news:List Value) (hs:a.eval s=.slice (some ⟨N,0,none⟩) 0 0) (hx:a.eval x=.slice a0 m c) (hl:news.length=m*size) (hsrc:Src w a0 news) (h1:∀ u ∈ news,u.oneCell'=true) (hnm:m<=4000000)
  (h:∀ v' w',w'.ownsRow w.heap.size e size v' m news->Below w.heap.size w w'->v'≠.slice none 0 0->K (a.put o.dst v') w'):
  if Region.wanted o (yielded ops a.tmps)=true then Oper.wp Tryz.prog o a (w.alloc (.cells #[] e)) K Q else E:=by
 subst hN
 have hb:Below w.heap.size w (w.alloc (.cells #[] e)):=zQ _ _
 refine stepR_append_src KK _ hg s x ho w.heap.size (.slice (some ⟨w.heap.size,0,none⟩) 0 0) 0 [] hs (World.ownsRow_made (base:=w.heap.size) (e:=e) (size:=size) w #[] 0 (Nat.le_refl _) (by unfold maxLen;omega) (by simp)) a0 m c news hx hl (hsrc.below hb) h1 (by omega) (by simp) ?_
 intro v' w' o g _ hne
 rw [Nat.zero_add,List.nil_append] at o
 exact h v' w' o (hb.grown g (by simp) (fun k hk=>by cases hk;exact Nat.le_refl _)) (hne (.inl (by simp)))
theorem stepR_append_val {ops:Array Oper} {o:Oper} {a:Act} {K:Act->World->Prop} {Q:Exit->Act->World->Prop} {E:Prop} {t e:TypeId} {size bytes:Nat} (KK:Kind t e size bytes) (w:World) {N:Nat} (hN:N=w.heap.size) (hg:o.guard=none) (s x:Operand)
  (ho:o.op=.call { callee:=.builtin .append,args:=#[s,x],argTypes:=#[t,t] })
  (B:Nat) (v:Value) (n:Nat) (xs:List Value) (hs:a.eval s=v) (hown:w.ownsRow B e size v n xs) (cs:Array Value) (hx:a.eval x=.slice (some ⟨N,0,none⟩) 1 1) (hl:cs.size=size) (h1:∀ u ∈ cs.toList,u.oneCell'=true) (hn:n<=2000000) (hB:B<=w.heap.size)
  (h:∀ v' w',w'.ownsRow B e size v' (n+1) (xs ++ cs.toList)->w.grownBy w' v.ownBlock->(∀ j,v'.ownBlock=some j->v.ownBlock=some j\/w.heap.size<=j)->v'≠.slice none 0 0->K (a.put o.dst v') w'):
  if Region.wanted o (yielded ops a.tmps)=true then Oper.wp Tryz.prog o a (w.alloc (.cells cs e)) K Q else E:=by
 subst hN
 have hb:Below w.heap.size w (w.alloc (.cells cs e)):=zQ _ _
 refine stepR_append_src KK _ hg s x ho B v n xs hs (hown.alloc _) (some ⟨w.heap.size,0,none⟩) 1 1 cs.toList hx (by simp [hl]) (.inr ⟨w.heap.size,0,rfl,by simp,fun j u hj=>?_⟩) h1 (by omega) (by simp;omega) ?_
 ·rw [Nat.zero_add,zW _ _ _ j rfl]
  simpa using hj
 ·intro v' w' o g hbk hne
  refine h v' w' o ⟨g.os,g.tape,g.output,zP hb.size g.size,fun j hj hne=>(g.block j (zL hj hb.size) hne).trans (hb.block j hj)⟩ (fun j hj=>?_) (hne (.inr (by omega)))
  rcases hbk with a | a
  ·exact .inl (a.symm.trans hj)
  ·rw [hj] at a
   simp only [Option.some.injEq] at a
   right
   rw [a]
   simp
theorem stepR_call {ops:Array Oper} {o:Oper} {a:Act} {w:World} {K:Act->World->Prop} {Q:Exit->Act->World->Prop} {E:Prop} (hg:o.guard=none) (f:FuncId) (args:Array Operand) (ts:Array TypeId)
  (ho:o.op=.call { callee:=.value (.func f),args:=args,argTypes:=ts }) (vals:Array Value) (hv:args.map a.eval=vals) (hen:∀ vs wx,(callFunc f vs).run Tryz.prog wx=.ok (.enter f vs) wx) {post:Ending->World->Prop} (hc:Calls Tryz.prog f vals w post)
  (h:∀ e w',post e w'->∃ v,e=.returned v/\K (a.put o.dst v) w'):
  if Region.wanted o (yielded ops a.tmps)=true then Oper.wp Tryz.prog o a w K Q else E:=by
 have hw:Region.wanted o (yielded ops a.tmps)=true:=by simp [Region.wanted,hg]
 rw [if_pos hw]
 have hr:(execOp a.eval o).run Tryz.prog w=.ok (.enter f vals) w:=by
  unfold execOp
  simp [ho,resolve,invoke,hv,hen,Act.eval,Deferred.ofValue]
 unfold Oper.wp
 rw [hr,Oper.upon_enter]
 refine hc.mono fun e w' hp=>?_
 obtain ⟨v,rfl,hk⟩:=h e w' hp
 exact hk
def rcol (c:Nat->Nat) (n q:Nat):Nat->Nat:=fun k=>if k<n then c k else q
theorem rcol_old {c:Nat->Nat} {n q k:Nat} (h:k<n):rcol c n q k=c k:=if_pos h
theorem rcol_new {c:Nat->Nat} {n q k:Nat} (h:n<=k):rcol c n q k=q:=if_neg (by omega)
theorem Cl.old {B:Nat} {c:Nat->Nat} {n q i k:Nat} (h:Cl B c i k) (hk:k<n):Cl B (rcol c n q) i k:=⟨h.1,(rcol_old hk).trans h.2⟩
structure CpB (B N:Nat) (c:Nat->Nat) (y:Sy) (ks kw:Nat) (wx:World) (vp vs vw vh:Value) (up us uw uh:Nat->Value):Prop where
 bx:BoxC wx N vp vs vw vh
 fr:∀ j,wx.frozen? ⟨N,j,none⟩=false
 cN:c N=0
 bN:B<=N
 o:OwnS true wx B c { y with sn:=ks,wn:=kw } vp vs vw vh up us uw uh
section
variable {B N:Nat} {c:Nat->Nat} {y:Sy} {ks kw:Nat} {wr:World} {vp vs vw vh:Value} {up us uw uh:Nat->Value}
theorem CpB.lt (h:CpB B N c y ks kw wr vp vs vw vh up us uw uh):N<wr.heap.size:=zJ wr _ h.bx.1
theorem CpB.state (h:CpB B N c y ks kw wr vp vs vw vh up us uw uh) {w1 w3:World} {u' v':Value} (b1:Below wr.heap.size wr w1) (hu:StOwn w1 wr.heap.size u' (y.sS ks).p (y.sS ks).rs (y.sS ks).os (y.sS ks).c) (hv:w3.ownsRow 0 80 4 v' (ks+1) (flat (fun i=>cellsL (us i)) ks ++ cellsL u')) (g:w1.grownBy w3 vs.ownBlock) (hv':∀ j,v'.ownBlock=some j->vs.ownBlock=some j\/w1.heap.size<=j):
  CpB B N (rcol c wr.heap.size 2) y (ks+1) kw (w3.setCell ⟨N,1,none⟩ v') vp v' vw vh up (fun j=>if j=ks then u' else us j) uw uh:=by
 have hN:=h.lt
 have hkeep:∀ k,k<wr.heap.size->c k≠2->w3.heap[k]? = wr.heap[k]?:=fun k hk hc=>(g.block k (zL hk b1.size) fun e=>hc (h.o.s.rb k e.symm).2).trans (b1.block k hk)
 have hset:∀ k,k≠N->(w3.setCell ⟨N,1,none⟩ v').heap[k]? = w3.heap[k]?:=fun k hk=>zO _ _ _ _ hk
 have hcN:rcol c wr.heap.size 2 N=0:=(rcol_old hN).trans h.cN
 have hBN:w3.heap[N]? = wr.heap[N]?:=hkeep N hN (by rw [h.cN];decide)
 have hkk:∀ i,i≠2->i≠0->∀ k,Cl B (rcol c wr.heap.size 2) i k->k<wr.heap.size->(w3.setCell ⟨N,1,none⟩ v').heap[k]? = wr.heap[k]?:=fun i h2 h0 k hk hl=>by
  have e:c k=i:=(rcol_old hl).symm.trans hk.2
  exact (hset k fun en=>h0 (by rw [<- e,en,h.cN])).trans (hkeep k hl (by rw [e];exact h2))
 have hP:∀ i k,Cl B c i k->k<wr.heap.size->Cl B (rcol c wr.heap.size 2) i k:=fun i k hk hl=>hk.old hl
 have hP':∀ k,wr.heap.size<=k->k<w3.heap.size->Cl B (rcol c wr.heap.size 2) 2 k:=fun k hk _=>⟨zP h.bN (zP (Nat.le_of_lt hN) hk),rcol_new hk⟩
 obtain ⟨x0,x1,x2,x3⟩:=h.bx
 have hc:∀ j,w3.cell? ⟨N,j,none⟩=wr.cell? ⟨N,j,none⟩:=fun j=>zH hBN
 have hnew:∀ k,Cl B (rcol c wr.heap.size 2) 2 k->k<w3.heap.size->(w3.setCell ⟨N,1,none⟩ v').heap[k]? = w3.heap[k]?:=fun k hk _=>hset k fun e=>by
  have e2:=hk.2
  rw [e,hcN] at e2
  cases e2
 refine ⟨⟨?_,?_,?_,?_⟩,fun j=>?_,hcN,h.bN,⟨?_,?_,?_,?_⟩⟩
 ·rw [World.cell?_setCell_other _ _ _ _ (by simp),hc];exact x0
 ·exact World.cell?_setCell_same _ _ _ ((hc 1).trans x1)
 ·rw [World.cell?_setCell_other _ _ _ _ (by simp),hc];exact x2
 ·rw [World.cell?_setCell_other _ _ _ _ (by simp),hc];exact x3
 ·rw [World.frozen?_setCell,zI hBN];exact h.fr j
 ·exact (h.o.p.mono (hP 1)).keep (hkk 1 (by decide) (by decide))
 ·exact (h.o.s.push b1 hu hv g hv' (hP 2) hP').keep hnew
 ·exact (h.o.t.mono (hP 3)).keep (hkk 3 (by decide) (by decide))
 ·exact (h.o.h.mono (hP 4)).keep (hkk 4 (by decide) (by decide))
theorem CpB.way (h:CpB B N c y ks kw wr vp vs vw vh up us uw uh) {w1 w3:World} {u' v':Value} (b1:Below wr.heap.size wr w1) (hu:w1.ownsRow wr.heap.size 131 2 u' (y.wL kw) (fT (y.wH kw) (y.wL kw))) (hne:u'≠.slice none 0 0) (hv:w3.ownsRow 0 88 1 v' (kw+1) ((List.range kw).map uw ++ [u'])) (g:w1.grownBy w3 vw.ownBlock) (hv':∀ j,v'.ownBlock=some j->vw.ownBlock=some j\/w1.heap.size<=j):
  CpB B N (rcol c wr.heap.size 3) y ks (kw+1) (w3.setCell ⟨N,2,none⟩ v') vp vs v' vh up us (fun j=>if j=kw then u' else uw j) uh:=by
 have hN:=h.lt
 have hkeep:∀ k,k<wr.heap.size->c k≠3->w3.heap[k]? = wr.heap[k]?:=fun k hk hc=>(g.block k (zL hk b1.size) fun e=>hc (h.o.t.rb k e.symm).2).trans (b1.block k hk)
 have hset:∀ k,k≠N->(w3.setCell ⟨N,2,none⟩ v').heap[k]? = w3.heap[k]?:=fun k hk=>zO _ _ _ _ hk
 have hcN:rcol c wr.heap.size 3 N=0:=(rcol_old hN).trans h.cN
 have hBN:w3.heap[N]? = wr.heap[N]?:=hkeep N hN (by rw [h.cN];decide)
 have hkk:∀ i,i≠3->i≠0->∀ k,Cl B (rcol c wr.heap.size 3) i k->k<wr.heap.size->(w3.setCell ⟨N,2,none⟩ v').heap[k]? = wr.heap[k]?:=fun i h2 h0 k hk hl=>by
  have e:c k=i:=(rcol_old hl).symm.trans hk.2
  exact (hset k fun en=>h0 (by rw [<- e,en,h.cN])).trans (hkeep k hl (by rw [e];exact h2))
 have hP:∀ i k,Cl B c i k->k<wr.heap.size->Cl B (rcol c wr.heap.size 3) i k:=fun i k hk hl=>hk.old hl
 have hP':∀ k,wr.heap.size<=k->k<w3.heap.size->Cl B (rcol c wr.heap.size 3) 3 k:=fun k hk _=>⟨zP h.bN (zP (Nat.le_of_lt hN) hk),rcol_new hk⟩
 obtain ⟨x0,x1,x2,x3⟩:=h.bx
 have hc:∀ j,w3.cell? ⟨N,j,none⟩=wr.cell? ⟨N,j,none⟩:=fun j=>zH hBN
 have hnew:∀ k,Cl B (rcol c wr.heap.size 3) 3 k->k<w3.heap.size->(w3.setCell ⟨N,2,none⟩ v').heap[k]? = w3.heap[k]?:=fun k hk _=>hset k fun e=>by
  have e2:=hk.2
  rw [e,hcN] at e2
  cases e2
 refine ⟨⟨?_,?_,?_,?_⟩,fun j=>?_,hcN,h.bN,⟨?_,?_,?_,?_⟩⟩
 ·rw [World.cell?_setCell_other _ _ _ _ (by simp),hc];exact x0
 ·rw [World.cell?_setCell_other _ _ _ _ (by simp),hc];exact x1
 ·exact World.cell?_setCell_same _ _ _ ((hc 2).trans x2)
 ·rw [World.cell?_setCell_other _ _ _ _ (by simp),hc];exact x3
 ·rw [World.frozen?_setCell,zI hBN];exact h.fr j
 ·exact (h.o.p.mono (hP 1)).keep (hkk 1 (by decide) (by decide))
 ·exact (h.o.s.mono (hP 2)).keep (hkk 2 (by decide) (by decide))
 ·exact (h.o.t.push b1 hu (fun _=>hne) hv g hv' (hP 3) hP').keep hnew
 ·exact (h.o.h.mono (hP 4)).keep (hkk 4 (by decide) (by decide))
end
theorem CpB.start {B l5 l6 N:Nat} {w5 w6 wf:World} {x:SysIn} {vp vh:Value} {up uh:Nat->Value} (o5:LI true w5 (fun k=>l5<=k/\k<w5.heap.size) vp x.pn up x.pL x.pH) (o6:LE true w6 (fun k=>l6<=k/\k<w6.heap.size) vh x.hn uh x.hL x.hH) (hb:Below w5.heap.size w5 w6) (h5:B<=l5) (h6:w5.heap.size<=l6) (h56:B<=w5.heap.size) (h55:l5<=w5.heap.size)
  (hN:N<l5\/(w5.heap.size<=N/\N<l6)\/w6.heap.size<=N) (hBN:B<=N) (hf:∀ k,k<w6.heap.size->k≠N->wf.heap[k]? = w6.heap[k]?) (hbx:BoxC wf N vp (.slice none 0 0) (.slice none 0 0) vh) (hfr:∀ j,wf.frozen? ⟨N,j,none⟩=false):
  ∃ c vp vh up uh,CpB B N c x.y 0 0 wf vp (.slice none 0 0) (.slice none 0 0) vh up (fun _=>.slice none 0 0) (fun _=>.slice none 0 0) uh:=by
 have hs:=hb.size
 have hc0:∀ k,Cl B (fun k=>if k=N then 0 else if k<w5.heap.size then 1 else 4) 1 k\/Cl B (fun k=>if k=N then 0 else if k<w5.heap.size then 1 else 4) 4 k->k≠N:=fun k hk e=>by
  rcases hk with hk | hk
  ·have e2:(if k=N then 0 else if k<w5.heap.size then 1 else 4)=1:=hk.2
   rw [if_pos e] at e2
   cases e2
  ·have e2:(if k=N then 0 else if k<w5.heap.size then 1 else 4)=4:=hk.2
   rw [if_pos e] at e2
   cases e2
 have g5 : LI true w5 (Cl B (fun k => if k = N then 0 else if k < w5.heap.size then 1 else 4) 1) vp x.pn up x.pL x.pH := o5.mono fun k hk _ => ⟨by omega, by
  show (if k=N then 0 else if k<w5.heap.size then 1 else 4)=1
  rw [if_neg (by omega),if_pos hk.2]⟩
 have g6 : LE true w6 (Cl B (fun k => if k = N then 0 else if k < w5.heap.size then 1 else 4) 4) vh x.hn uh x.hL x.hH := o6.mono fun k hk _ => ⟨by omega, by
  show (if k=N then 0 else if k<w5.heap.size then 1 else 4)=4
  rw [if_neg (by omega),if_neg (by omega)]⟩
 exact ⟨fun k=>if k=N then 0 else if k<w5.heap.size then 1 else 4,vp,vh,up,uh,hbx,hfr,if_pos rfl,hBN,⟨g5.keep fun k hk hl=>(hf k (by omega) (hc0 k (.inl hk))).trans (hb.block k hl),LS.nil _ _ _ _,LL.nil _ _ _ _ _ _ _ _,g6.keep fun k hk hl=>hf k hl (hc0 k (.inr hk))⟩⟩
theorem l4Copy_any (x:SysIn) (w:World) (hG:SysG w x) (hL:x.Len):
  Calls Tryz.prog 74 #[x.v] w fun e w'=>∃ v,e=.returned v/\OwnSys true w' w.heap.size x.y v/\Below w.heap.size w w':=by
 have HG:Hid (SysG w x):=hG
 have HL:Hid x.Len:=hL
 have hsn':(x.sn:Int)<=1048576:=by have:=hL.s.1;omega
 have hwn':(x.wn:Int)<=1048576:=by have:=hL.w.1;omega
 have BW:Hid (Below w.heap.size w ((w.alloc (oQ4 x.pa x.pn x.pc x.sa x.sn x.sc x.wa x.wn x.wc x.ha x.hn x.hc)).alloc (zQ4))):=(zQ _ _).trans ((zQ _ _).mono (by simp))
 have NB:Hid (BoxC ((w.alloc (oQ4 x.pa x.pn x.pc x.sa x.sn x.sc x.wa x.wn x.wc x.ha x.hn x.hc)).alloc (zQ4)) w.heap.size (.slice x.pa x.pn x.pc) (.slice x.sa x.sn x.sc) (.slice x.wa x.wn x.wc) (.slice x.ha x.hn x.hc)):=(BoxC.new w _ _ _ _ _).below (zQ _ _)
 have RB:Hid (BoxC ((w.alloc (oQ4 x.pa x.pn x.pc x.sa x.sn x.sc x.wa x.wn x.wc x.ha x.hn x.hc)).alloc (zQ4)) (w.heap.size+1) (.slice none 0 0) (.slice none 0 0) (.slice none 0 0) (.slice none 0 0)/\∀ j,((w.alloc (oQ4 x.pa x.pn x.pc x.sa x.sn x.sc x.wa x.wn x.wc x.ha x.hn x.hc)).alloc (zQ4)).frozen? ⟨w.heap.size+1,j,none⟩=false):=⟨⟨zW _ _ _ 0 (by simp),zW _ _ _ 1 (by simp),zW _ _ _ 2 (by simp),zW _ _ _ 3 (by simp)⟩,fun j=>yB _ _ _ _ (by simp)⟩
 have hz:((w.alloc (oQ4 x.pa x.pn x.pc x.sa x.sn x.sc x.wa x.wn x.wc x.ha x.hn x.hc)).alloc (zQ4)).heap.size=w.heap.size+2:=by simp
 clear hG hL
 go_enter Tryz.func74,Tryz.ntmps74
 go_wp2_with fail
 generalize (w.alloc (oQ4 x.pa x.pn x.pc x.sa x.sn x.sc x.wa x.wn x.wc x.ha x.hn x.hc)).alloc (zQ4)=W2 at *
 obtain ⟨b0,b1,b2,b3⟩:=NB.out
 have d1:W2.heap.size≠w.heap.size:=by omega
 have hl0:w.heap.size<W2.heap.size:=by omega
 have hl1:w.heap.size+1<W2.heap.size:=by omega
 have hl2:Hid (w.heap.size<=W2.heap.size):=by show w.heap.size<=W2.heap.size;omega
 clear hz
 have HP : Hid (∀ wx, Below W2.heap.size W2 wx → (RowS wx x.pa x.pn fun i => .slice (x.pA i) (x.pL i) (x.pC i)) ∧ ∀ i, i < x.pn → Src wx (x.pA i) (fI (x.pH i) (x.pL i))) := fun wx hb => ⟨(HG.out.below (BW.out.trans (hb.mono BW.out.size))).p, fun i hi => by
  obtain ⟨b,e,hlt,hI⟩:=(HG.out.below (BW.out.trans (hb.mono BW.out.size))).pi i hi
  rw [e]
  exact srcI hlt hI⟩
 have HH:Hid (∀ wx,Below W2.heap.size W2 wx->(RowS wx x.ha x.hn fun i=>.slice (x.hA i) (x.hL i) (x.hC i))/\∀ i,i<x.hn->Src wx (x.hA i) (fE (x.hH i) (x.hL i))):=fun wx hb=>⟨(HG.out.below (BW.out.trans (hb.mono BW.out.size))).h,fun i hi=>srcE ((HG.out.below (BW.out.trans (hb.mono BW.out.size))).hi i hi)⟩
 go_cut [3] from 6 to 12 (fun s wx=>∃ N:Nat,s=.pointer (some ⟨N,0,none⟩)/\Hid ((∃ c vp vh up uh,CpB W2.heap.size N c x.y 0 0 wx vp (.slice none 0 0) (.slice none 0 0) vh up (fun _=>(.slice none 0 0)) (fun _=>(.slice none 0 0)) uh)/\Below W2.heap.size W2 wx))
 case first=>
  refine wp_region_G (fun w'=>w'.cell? ⟨w.heap.size,0,none⟩=some (.slice x.pa x.pn x.pc)/\w'.cell? ⟨w.heap.size,3,none⟩=some (.slice x.ha x.hn x.hc)) (fun i=>i == 8) (by kernel_rfl) ?_
  have hHeld:=And.intro b0 b3
  refine wpGT_of [0,1,3,4] ?_
  iterate 4 (refine wpGT_take rfl hHeld ?_;apply Exists.intro;refine ⟨fun wq hSw=>?_,?_⟩;(· ((try dsimp only at hSw);go_simp;try with_reducible rfl));(try simp only [Act.put,zD,zE,zF]))
  refine wpGT_nil ?_
  refine wpG_two 2 7 rfl rfl (by kernel_rfl) (fun K hK=>?_) (fun K hK=>?_)
  ·refine stepR_call rfl 122 _ _ rfl #[.slice x.pa x.pn x.pc] (by simp [Act.eval]) (yA Tryz.func122 (by kernel_rfl) rfl) (l4Ins_any x.pa x.pn x.pc x.pA x.pL x.pC x.pH (W2.drew) HL.out.p.1 HL.out.p.2 (HP.out _ (Below.refl _ _).drew).1 (HP.out _ (Below.refl _ _).drew).2) ?_
   rintro e w5 ⟨v5,u5,rfl,o5,b5⟩
   obtain ⟨a5,c5,rfl⟩:=zU o5.row
   refine ⟨_,rfl,?_⟩
   have q5:Below W2.heap.size W2 w5:=below_up (Below.refl _ _).drew b5 (by simp)
   have y0:=(q5.cell (p:=⟨w.heap.size,0,none⟩) hl0).trans b0
   have y3:=(q5.cell (p:=⟨w.heap.size,3,none⟩) hl0).trans b3
   have z5:=q5.size
   refine hK.out _ _ (fun _=>⟨y0,y3⟩) ?_
   have hHeld:=And.intro y0 y3
   clear hK K
   (try simp only [Act.put,zD,zE,zF])
   refine wpG_two 5 7 rfl rfl (by kernel_rfl) (fun K hK=>?_) (fun K hK=>?_)
   ·refine stepR_call rfl 123 _ _ rfl #[.slice x.ha x.hn x.hc] (by simp [Act.eval]) (yA Tryz.func123 (by kernel_rfl) rfl) (l4Events_any x.ha x.hn x.hc x.hA x.hL x.hC x.hH (w5) HL.out.h.1 HL.out.h.2 (HH.out _ (q5.trans ((Below.refl w5.heap.size w5).mono q5.size))).1 (HH.out _ (q5.trans ((Below.refl w5.heap.size w5).mono q5.size))).2) ?_
    rintro e w6 ⟨v6,u6,rfl,o6,b6⟩
    obtain ⟨a6,c6,rfl⟩:=zU o6.row
    refine ⟨_,rfl,?_⟩
    have p6:Below w5.heap.size w5 w6:=below_up (Below.refl w5.heap.size w5) b6 (by simp)
    have q6:Below W2.heap.size W2 w6:=q5.trans (p6.mono q5.size)
    have x0:=(q6.cell (p:=⟨w.heap.size,0,none⟩) hl0).trans b0
    have x3:=(q6.cell (p:=⟨w.heap.size,3,none⟩) hl0).trans b3
    have z6:=p6.size
    refine hK.out _ _ (fun _=>⟨x0,x3⟩) ?_
    have hHeld:=And.intro x0 x3
    clear hK K
    (try simp only [Act.put,zD,zE,zF])
    refine wpG_take 6 rfl hHeld ?_
    apply Exists.intro
    refine ⟨fun wq hSw=>?_,?_⟩
    ·(try dsimp only at hSw)
     go_simp
     try with_reducible rfl
    (try simp only [Act.put,zD,zE,zF])
    refine wpG_one 7 rfl (by kernel_rfl) (fun K hK=>?_)
    go_simp
    have t0:(w6.alloc (zQ4)).cell? ⟨w.heap.size,0,none⟩=some (.slice x.pa x.pn x.pc):=((zQ w6 _).cell (p:=⟨w.heap.size,0,none⟩) (zL hl0 q6.size)).trans x0
    have t3:(w6.alloc (zQ4)).cell? ⟨w.heap.size,3,none⟩=some (.slice x.ha x.hn x.hc):=((zQ w6 _).cell (p:=⟨w.heap.size,3,none⟩) (zL hl0 q6.size)).trans x3
    refine hK.out _ _ (fun _=>⟨t0,t3⟩) ?_
    clear hK K
    (try simp only [Act.put,zD,zE,zF])
    refine wpG_one 8 rfl (by kernel_rfl) (fun K hK=>?_)
    go_simp
    refine hK.out _ _ (fun h=>?_) ?_
    ·exact absurd h (by decide)
    clear hK K
    (try simp only [Act.put])
    refine wpG_done (by kernel_rfl) ?_ _
    go_wp2_with fail
    go_meet
    case rel=>
     exact ⟨w6.heap.size,by with_reducible rfl,CpB.start (l5:=W2.heap.size) (by simpa using o5) o6 p6 (by omega) (by omega) (by omega) (by omega) (by omega) (by omega) (fun k hk _=>(zQ w6 _).block k hk) (BoxC.new _ _ _ _ _ _) (fun j=>yB _ _ _ _ rfl),q6.trans ((zQ _ _).mono q6.size)⟩
   ·go_simp
    have t0:(w5.alloc (zQ4)).cell? ⟨w.heap.size,0,none⟩=some (.slice x.pa x.pn x.pc):=((zQ w5 _).cell (p:=⟨w.heap.size,0,none⟩) (zL hl0 q5.size)).trans y0
    have t3:(w5.alloc (zQ4)).cell? ⟨w.heap.size,3,none⟩=some (.slice x.ha x.hn x.hc):=((zQ w5 _).cell (p:=⟨w.heap.size,3,none⟩) (zL hl0 q5.size)).trans y3
    refine hK.out _ _ (fun _=>⟨t0,t3⟩) ?_
    clear hK K
    (try simp only [Act.put,zD,zE,zF])
    refine wpG_one 5 rfl (by kernel_rfl) (fun K hK=>?_)
    refine stepR_call rfl 123 _ _ rfl #[.slice x.ha x.hn x.hc] (by simp [Act.eval]) (yA Tryz.func123 (by kernel_rfl) rfl) (l4Events_any x.ha x.hn x.hc x.hA x.hL x.hC x.hH (w5.alloc (zQ4)) HL.out.h.1 HL.out.h.2 (HH.out _ (q5.trans ((zQ w5 (zQ4)).mono q5.size))).1 (HH.out _ (q5.trans ((zQ w5 (zQ4)).mono q5.size))).2) ?_
    rintro e w6 ⟨v6,u6,rfl,o6,b6⟩
    obtain ⟨a6,c6,rfl⟩:=zU o6.row
    refine ⟨_,rfl,?_⟩
    have p6:Below w5.heap.size w5 w6:=below_up (zQ w5 (zQ4)) b6 (by simp)
    have q6:Below W2.heap.size W2 w6:=q5.trans (p6.mono q5.size)
    have x0:=(q6.cell (p:=⟨w.heap.size,0,none⟩) hl0).trans b0
    have x3:=(q6.cell (p:=⟨w.heap.size,3,none⟩) hl0).trans b3
    have z6:=p6.size
    refine hK.out _ _ (fun _=>⟨x0,x3⟩) ?_
    have hHeld:=And.intro x0 x3
    clear hK K
    (try simp only [Act.put,zD,zE,zF])
    have bx:=(BoxC.new w5 (.slice none 0 0) (.slice none 0 0) (.slice none 0 0) (.slice none 0 0) 29).below b6
    obtain ⟨g0,g1,g2,g3⟩:=bx
    have gf:∀ j,w6.frozen? ⟨w5.heap.size,j,none⟩=false:=fun j=>((bcell b6).2 _ _ (by simp)).trans (yB _ _ _ _ rfl)
    refine wpG_take 6 rfl hHeld ?_
    apply Exists.intro
    refine ⟨fun wq hSw=>?_,?_⟩
    ·(try dsimp only at hSw)
     go_simp
     try with_reducible rfl
    (try simp only [Act.put,zD,zE,zF])
    refine wpG_one 8 rfl (by kernel_rfl) (fun K hK=>?_)
    go_simp
    refine hK.out _ _ (fun h=>?_) ?_
    ·exact absurd h (by decide)
    clear hK K
    (try simp only [Act.put])
    refine wpG_done (by kernel_rfl) ?_ _
    go_wp2_with fail
    go_meet
    case rel=>
     exact ⟨w5.heap.size,by with_reducible rfl,CpB.start (l5:=W2.heap.size) (l6:=w5.heap.size+1) (by simpa using o5) (by simpa using o6) p6 (by omega) (by omega) (by omega) (by omega) (by omega) (by omega) (fun k hk hne=>by repeat (rw [zO _ _ _ _ hne])) (BoxC.set4 ⟨g0,g1,g2,g3⟩ _ _ _ _) (fun j=>by simp only [World.frozen?_setCell];exact gf j),(((q6.setCell q5.size _).setCell q5.size _).setCell q5.size _).setCell q5.size _⟩
  ·go_simp
   have t0:(W2.drew.alloc (zQ4)).cell? ⟨w.heap.size,0,none⟩=some (.slice x.pa x.pn x.pc):=((zQ W2.drew _).cell (p:=⟨w.heap.size,0,none⟩) hl0).trans b0
   have t3:(W2.drew.alloc (zQ4)).cell? ⟨w.heap.size,3,none⟩=some (.slice x.ha x.hn x.hc):=((zQ W2.drew _).cell (p:=⟨w.heap.size,3,none⟩) hl0).trans b3
   refine hK.out _ _ (fun _=>⟨t0,t3⟩) ?_
   clear hK K
   (try simp only [Act.put,zD,zE,zF])
   refine wpG_one 2 rfl (by kernel_rfl) (fun K hK=>?_)
   refine stepR_call rfl 122 _ _ rfl #[.slice x.pa x.pn x.pc] (by simp [Act.eval]) (yA Tryz.func122 (by kernel_rfl) rfl) (l4Ins_any x.pa x.pn x.pc x.pA x.pL x.pC x.pH (W2.drew.alloc (zQ4)) HL.out.p.1 HL.out.p.2 (HP.out _ ((Below.refl W2.heap.size W2).drew.trans (zQ W2.drew (zQ4)))).1 (HP.out _ ((Below.refl W2.heap.size W2).drew.trans (zQ W2.drew (zQ4)))).2) ?_
   rintro e w5 ⟨v5,u5,rfl,o5,b5⟩
   obtain ⟨a5,c5,rfl⟩:=zU o5.row
   refine ⟨_,rfl,?_⟩
   have q5:Below W2.heap.size W2 w5:=below_up ((Below.refl W2.heap.size W2).drew.trans (zQ W2.drew (zQ4))) b5 (by simp)
   have y0:=(q5.cell (p:=⟨w.heap.size,0,none⟩) hl0).trans b0
   have y3:=(q5.cell (p:=⟨w.heap.size,3,none⟩) hl0).trans b3
   have z5:=q5.size
   refine hK.out _ _ (fun _=>⟨y0,y3⟩) ?_
   have hHeld:=And.intro y0 y3
   clear hK K
   (try simp only [Act.put,zD,zE,zF])
   have zc:W2.heap.size+1<=w5.heap.size:=by have:=b5.size;simpa using this
   refine wpG_one 5 rfl (by kernel_rfl) (fun K hK=>?_)
   refine stepR_call rfl 123 _ _ rfl #[.slice x.ha x.hn x.hc] (by simp [Act.eval]) (yA Tryz.func123 (by kernel_rfl) rfl) (l4Events_any x.ha x.hn x.hc x.hA x.hL x.hC x.hH (w5) HL.out.h.1 HL.out.h.2 (HH.out _ (q5.trans ((Below.refl w5.heap.size w5).mono q5.size))).1 (HH.out _ (q5.trans ((Below.refl w5.heap.size w5).mono q5.size))).2) ?_
   rintro e w6 ⟨v6,u6,rfl,o6,b6⟩
   obtain ⟨a6,c6,rfl⟩:=zU o6.row
   refine ⟨_,rfl,?_⟩
   have p6:Below w5.heap.size w5 w6:=below_up (Below.refl w5.heap.size w5) b6 (by simp)
   have q6:Below W2.heap.size W2 w6:=q5.trans (p6.mono q5.size)
   have x0:=(q6.cell (p:=⟨w.heap.size,0,none⟩) hl0).trans b0
   have x3:=(q6.cell (p:=⟨w.heap.size,3,none⟩) hl0).trans b3
   have z6:=p6.size
   refine hK.out _ _ (fun _=>⟨x0,x3⟩) ?_
   have hHeld:=And.intro x0 x3
   clear hK K
   (try simp only [Act.put,zD,zE,zF])
   have bx:BoxC w6 W2.heap.size (.slice none 0 0) (.slice none 0 0) (.slice none 0 0) (.slice none 0 0):=((BoxC.new W2.drew (.slice none 0 0) (.slice none 0 0) (.slice none 0 0) (.slice none 0 0) 29).below b5).below b6
   obtain ⟨g0,g1,g2,g3⟩:=bx
   have gf:∀ j,w6.frozen? ⟨W2.heap.size,j,none⟩=false:=fun j=>((bcell b6).2 _ _ (by omega)).trans (((bcell b5).2 _ _ (by simp)).trans (yB _ _ _ _ rfl))
   refine wpG_take 6 rfl hHeld ?_
   apply Exists.intro
   refine ⟨fun wq hSw=>?_,?_⟩
   ·(try dsimp only at hSw)
    go_simp
    try with_reducible rfl
   (try simp only [Act.put,zD,zE,zF])
   refine wpG_one 8 rfl (by kernel_rfl) (fun K hK=>?_)
   go_simp
   refine hK.out _ _ (fun h=>?_) ?_
   ·exact absurd h (by decide)
   clear hK K
   (try simp only [Act.put])
   refine wpG_done (by kernel_rfl) ?_ _
   go_wp2_with fail
   go_meet
   case rel=>
    exact ⟨W2.heap.size,by with_reducible rfl,CpB.start (l5:=W2.heap.size+1) (by simpa using o5) o6 p6 (by omega) (by omega) (by omega) (by omega) (by omega) (by omega) (fun k hk hne=>by repeat (rw [zO _ _ _ _ hne])) (BoxC.set4 ⟨g0,g1,g2,g3⟩ _ _ _ _) (fun j=>by simp only [World.frozen?_setCell];exact gf j),(((q6.setCell (Nat.le_refl _) _).setCell (Nat.le_refl _) _).setCell (Nat.le_refl _) _).setCell (Nat.le_refl _) _⟩
 case rest=>
  obtain ⟨N,rfl,HC⟩:=hcut
  clear b0 b1 b2 b3 HP HH
  go_wp2_with fail
  go_loopw [4] (fun i wr=>∃ k:Nat,k<=x.sn/\i=.int .i64 k/\Hid ((∃ c vp vs vh up us uh,CpB W2.heap.size N c x.y k 0 wr vp vs (.slice none 0 0) vh up us (fun _=>(.slice none 0 0)) uh)/\Below W2.heap.size W2 wr)) (fun i _=>x.sn - (intOf i).toNat)
  case atStart=>
   obtain ⟨⟨c,vp,vh,up,uh,cp⟩,bz⟩:=HC.out
   exact ⟨0,Nat.zero_le _,rfl,⟨c,vp,_,vh,up,_,uh,cp⟩,bz⟩
  case round=>
   obtain ⟨k,hk,rfl,HZ⟩:=hrel
   clear HC
   by_cases hlt:k<x.sn
   ·have hlt':(k:Int)<(x.sn:Int):=by omega
    obtain ⟨⟨c,vp,vs,vh,up,us,uh,cp⟩,bz⟩:=HZ.out
    obtain ⟨sa',sc',rfl⟩:=zU cp.o.s.row
    obtain ⟨x0,x1,x2,x3⟩:=cp.bx
    have xf:=cp.fr
    have hN:=cp.lt
    obtain ⟨b0,b1,b2,b3⟩:=NB.out.below bz
    obtain ⟨bs,os,es,s0,s1,s2,s3⟩:=(HG.out.below (BW.out.trans (bz.mono BW.out.size))).s.at hlt
    have hbs:bs<w.heap.size:=by
     obtain ⟨bs',os',es',s0',-⟩:=HG.out.s.at hlt
     rw [es] at es'
     cases es'
     exact zJ w _ s0'
    have hls:=(HG.out.below (BW.out.trans (bz.mono BW.out.size))).s.lst k hlt
    have HLk:=HL.out.s.2 k hlt
    rw [es] at b1
    have CP:Hid (CpB W2.heap.size N c x.y k 0 wr vp (.slice sa' k sc') (.slice none 0 0) vh up us (fun _=>(.slice none 0 0)) uh):=cp
    have LSt:Hid (Sl wr (x.sQ k).ra (x.sQ k).rs/\Sl wr (x.sQ k).oa (x.sQ k).os):=hls
    have BZ:Hid (Below W2.heap.size W2 wr):=bz
    have hbw:bs<wr.heap.size:=by have:=bz.size;omega
    have hb0w:w.heap.size<wr.heap.size:=by have:=bz.size;omega
    have hsaN : ∀ j, (Value.slice sa' k sc').ownBlock = some j → W2.heap.size ≤ j ∧ j ≠ N := fun j hj => ⟨(cp.o.s.rb j hj).1, fun e => by
     have h2:=(cp.o.s.rb j hj).2
     rw [e,cp.cN] at h2
     cases h2⟩
    have HSA:Hid (∀ j,(Value.slice sa' k sc').ownBlock=some j->W2.heap.size<=j/\j≠N):=hsaN
    have HE:Hid (x.sa=some ⟨bs,os,none⟩):=es
    clear cp bz hls HZ hsaN es
    go_wp2_with fail
    refine wp_region_G (fun w'=>w'.cell? ⟨N,1,none⟩=some (.slice sa' k sc')/\w'.cell? ⟨w.heap.size,1,none⟩=some (.slice (some ⟨bs,os,none⟩) x.sn x.sc)/\w'.cell? ⟨bs,os+k*4,none⟩=some (.int .i64 (x.sQ k).p)/\w'.cell? ⟨bs,os+k*4+1,none⟩=some (.slice (x.sQ k).ra (x.sQ k).rs.length (x.sQ k).rc)/\w'.cell? ⟨bs,os+k*4+2,none⟩=some (.slice (x.sQ k).oa (x.sQ k).os.length (x.sQ k).oc)/\w'.cell? ⟨bs,os+k*4+3,none⟩=some (.int .i64 (x.sQ k).c)) (fun i=>i == 11) (by kernel_rfl) ?_
    have hHeld:=And.intro x1 (And.intro b1 (And.intro s0 (And.intro s1 (And.intro s2 s3))))
    refine wpGT_of [0,1,2,3,4,5,6] ?_
    iterate 7 (refine wpGT_take rfl hHeld ?_;apply Exists.intro;refine ⟨fun wq hSw=>?_,?_⟩;(· ((try dsimp only at hSw);go_simp;try with_reducible rfl));(try simp only [Act.put,zD,zE,zF]))
    refine wpGT_nil ?_
    refine wpG_one 7 rfl (by kernel_rfl) (fun K hK=>?_)
    refine stepR_call rfl 124 _ _ rfl #[stV (x.sQ k).p (x.sQ k).ra (x.sQ k).rs.length (x.sQ k).rc (x.sQ k).oa (x.sQ k).os.length (x.sQ k).oc (x.sQ k).c] (by simp [Act.eval]) (yA Tryz.func124 (by kernel_rfl) rfl) (l2Copy_any _ _ _ _ _ _ (x.sQ k).rs (x.sQ k).os wr.drew HLk.1 HLk.2 LSt.out.1 LSt.out.2) ?_
    rintro e w1 ⟨v1,rfl,o1,d1'⟩
    refine ⟨_,rfl,?_⟩
    obtain ⟨ra1,rc1,oa1,oc1,rfl,-,-⟩:=o1.read
    have q1:Below wr.heap.size wr w1:=(Below.refl wr.heap.size wr).drew.trans d1'
    have O1:Hid (StOwn w1 wr.heap.size (stV (x.sQ k).p ra1 (x.sQ k).rs.length rc1 oa1 (x.sQ k).os.length oc1 (x.sQ k).c) (x.sQ k).p (x.sQ k).rs (x.sQ k).os (x.sQ k).c):=o1
    have hc1:∀ b o,b<wr.heap.size->w1.cell? ⟨b,o,none⟩=wr.cell? ⟨b,o,none⟩:=fun b o h=>(bcell q1).1 b o h
    have hHeld1:=And.intro ((hc1 _ _ hN).trans x1) (And.intro ((hc1 _ _ hb0w).trans b1) (And.intro ((hc1 _ _ hbw).trans s0) (And.intro ((hc1 _ _ hbw).trans s1) (And.intro ((hc1 _ _ hbw).trans s2) ((hc1 _ _ hbw).trans s3)))))
    have Q1:Hid (Below wr.heap.size wr w1):=q1
    refine hK.out _ _ (fun _=>hHeld1) ?_
    clear hHeld o1 d1' q1 hc1
    clear hK K
    (try simp only [Act.put,zD,zE,zF])
    refine wpG_one 8 rfl (by kernel_rfl) (fun K hK=>?_)
    go_simp
    have ba:=zQ w1 (oQ1 (x.sQ k).p ra1 (x.sQ k).rs.length rc1 oa1 (x.sQ k).os.length oc1 (x.sQ k).c)
    have hca:∀ b o,b<wr.heap.size->(w1.alloc (oQ1 (x.sQ k).p ra1 (x.sQ k).rs.length rc1 oa1 (x.sQ k).os.length oc1 (x.sQ k).c)).cell? ⟨b,o,none⟩=w1.cell? ⟨b,o,none⟩:=fun b o h=>(bcell ba).1 b o (zL h Q1.out.size)
    obtain ⟨e0,e1,e2,e3,e4,e5⟩:=hHeld1
    refine hK.out _ _ (fun _=>⟨(hca _ _ hN).trans e0,(hca _ _ hb0w).trans e1,(hca _ _ hbw).trans e2,(hca _ _ hbw).trans e3,(hca _ _ hbw).trans e4,(hca _ _ hbw).trans e5⟩) ?_
    clear hca ba
    clear hK K
    (try simp only [Act.put,zD,zE,zF])
    refine wpG_one 9 rfl (by kernel_rfl) (fun K hK=>?_)
    refine stepR_append_val kndS w1 rfl rfl _ _ rfl 0 (.slice sa' k sc') k _ rfl (CP.out.o.s.below Q1.out).row #[.int .i64 (x.sQ k).p,.slice ra1 (x.sQ k).rs.length rc1,.slice oa1 (x.sQ k).os.length oc1,.int .i64 (x.sQ k).c] rfl rfl (by intro u hu;simp at hu;rcases hu with rfl | rfl | rfl | rfl <;> rfl) (by omega) (Nat.zero_le _) ?_
    intro v3 w3 o3 g3 q3 n3
    obtain ⟨a3,c3,rfl⟩:=zU o3
    have hk3:∀ b,b<wr.heap.size->(b<W2.heap.size\/b=N)->w3.heap[b]? = w1.heap[b]?:=fun b h1 h2=>g3.block b (zL h1 Q1.out.size) fun e=>by
     have:=HSA.out b e.symm
     omega
    have hc3:∀ b o,b<wr.heap.size->(b<W2.heap.size\/b=N)->w3.cell? ⟨b,o,none⟩=w1.cell? ⟨b,o,none⟩:=fun b o h1 h2=>zH (hk3 b h1 h2)
    have hHeld:=And.intro ((hc3 _ _ hN (.inr rfl)).trans e0) (And.intro ((hc3 _ _ hb0w (.inl hl0)).trans e1) (And.intro ((hc3 _ _ hbw (.inl (by omega))).trans e2) (And.intro ((hc3 _ _ hbw (.inl (by omega))).trans e3) (And.intro ((hc3 _ _ hbw (.inl (by omega))).trans e4) ((hc3 _ _ hbw (.inl (by omega))).trans e5)))))
    have hfN:∀ j,w3.frozen? ⟨N,j,none⟩=false:=fun j=>(zI (hk3 N hN (.inr rfl))).trans (((bcell Q1.out).2 N j hN).trans (xf j))
    have CN:Hid (CpB W2.heap.size N (rcol c wr.heap.size 2) x.y (k+1) 0 (w3.setCell ⟨N,1,none⟩ (.slice a3 (k+1) c3)) vp (.slice a3 (k+1) c3) (.slice none 0 0) vh up (fun j=>if j=k then stV (x.sQ k).p ra1 (x.sQ k).rs.length rc1 oa1 (x.sQ k).os.length oc1 (x.sQ k).c else us j) (fun _=>(.slice none 0 0)) uh):=CP.out.state Q1.out O1.out o3 g3 q3
    have BN:Hid (Below W2.heap.size W2 (w3.setCell ⟨N,1,none⟩ (.slice a3 (k+1) c3))):=(Below.grown (BZ.out.trans (Q1.out.mono BZ.out.size)) g3 (zP BZ.out.size Q1.out.size) (fun j hj=>(HSA.out j hj).1)).setCell CP.out.bN _
    refine hK.out _ _ (fun _=>hHeld) ?_
    clear o3 g3 q3 n3 hk3 hc3
    clear hK K
    (try simp only [Act.put,zD,zE,zF])
    refine wpG_take 10 rfl hHeld ?_
    apply Exists.intro
    refine ⟨fun wq hSw=>?_,?_⟩
    ·(try dsimp only at hSw)
     go_simp
     try with_reducible rfl
    (try simp only [Act.put,zD,zE,zF])
    refine wpG_one 11 rfl (by kernel_rfl) (fun K hK=>?_)
    have hcN:=hHeld.1
    have hfN1:=hfN 1
    go_simp
    refine hK.out _ _ (fun h=>?_) ?_
    ·exact absurd h (by decide)
    clear hK K
    (try simp only [Act.put])
    refine wpG_done (by kernel_rfl) ?_ _
    go_wp2
    go_roundw
    case rel=>exact ⟨k+1,by omega,by go_num,⟨_,_,_,_,_,_,_,CN.out⟩,BN.out⟩
    case measure=>simp [intOf];omega
   ·have hkn:k=x.sn:=by omega
    subst hkn
    have hsb:∀ wx,Below W2.heap.size W2 wx->wx.cell? ⟨w.heap.size,1,none⟩=some (.slice x.sa x.sn x.sc):=fun wx hb=>(NB.out.below hb).2.1
    have b1:=hsb wr HZ.out.2
    clear hsb
    go_wp2_with fail
    clear b1
    go_loopw [5] (fun i wr=>∃ k:Nat,k<=x.wn/\i=.int .i64 k/\Hid ((∃ c vp vs vw vh up us uw uh,CpB W2.heap.size N c x.y x.sn k wr vp vs vw vh up us uw uh)/\Below W2.heap.size W2 wr)) (fun i _=>x.wn - (intOf i).toNat)
    case atStart=>
     obtain ⟨⟨c,vp,vs,vh,up,us,uh,cp⟩,bz⟩:=HZ.out
     exact ⟨0,Nat.zero_le _,rfl,⟨c,vp,vs,_,vh,up,us,_,uh,cp⟩,bz⟩
    case round=>
     clear HZ hlt hk
     obtain ⟨k,hk,rfl,HZ⟩:=hrel
     by_cases hlt:k<x.wn
     ·have hlt':(k:Int)<(x.wn:Int):=by omega
      obtain ⟨⟨c,vp,vs,vw,vh,up,us,uw,uh,cp⟩,bz⟩:=HZ.out
      obtain ⟨wa',wc',rfl⟩:=zU cp.o.t.row
      obtain ⟨x0,x1,x2,x3⟩:=cp.bx
      have xf:=cp.fr
      have hN:=cp.lt
      obtain ⟨b0,b1,b2,b3⟩:=NB.out.below bz
      obtain ⟨bq,oq,es,s0⟩:=(HG.out.below (BW.out.trans (bz.mono BW.out.size))).w.at hlt
      have hbs:bq<w.heap.size:=by
       obtain ⟨bs',os',es',s0'⟩:=HG.out.w.at hlt
       rw [es] at es'
       cases es'
       exact zJ w _ s0'
      have hsr:=srcT ((HG.out.below (BW.out.trans (bz.mono BW.out.size))).wi k hlt)
      have HLk:=HL.out.w.2 k hlt
      rw [es] at b2
      have CP:Hid (CpB W2.heap.size N c x.y x.sn k wr vp vs (.slice wa' k wc') vh up us uw uh):=cp
      have LSt:Hid (Src wr (x.wA k) (fT (x.wH k) (x.wL k))):=hsr
      have BZ:Hid (Below W2.heap.size W2 wr):=bz
      have hbw:bq<wr.heap.size:=by have:=bz.size;omega
      have hb0w:w.heap.size<wr.heap.size:=by have:=bz.size;omega
      have HSA : Hid (∀ j, (Value.slice wa' k wc').ownBlock = some j → W2.heap.size ≤ j ∧ j ≠ N) := fun j hj => ⟨(cp.o.t.rb j hj).1, fun e => by
       have h2:=(cp.o.t.rb j hj).2
       rw [e,cp.cN] at h2
       cases h2⟩
      clear cp bz hsr HZ es
      go_wp2_with fail
      refine wp_region_G (fun w'=>w'.cell? ⟨N,2,none⟩=some (.slice wa' k wc')/\w'.cell? ⟨w.heap.size,2,none⟩=some (.slice (some ⟨bq,oq,none⟩) x.wn x.wc)/\w'.cell? ⟨bq,oq+k,none⟩=some (.slice (x.wA k) (x.wL k) (x.wC k))) (fun i=>i == 12) (by kernel_rfl) ?_
      have hHeld:=And.intro x2 (And.intro b2 s0)
      refine wpGT_of [0,1,3,4,5,6,7] ?_
      iterate 7 (refine wpGT_take rfl hHeld ?_;apply Exists.intro;refine ⟨fun wq hSw=>?_,?_⟩;(· ((try dsimp only at hSw);go_simp;try with_reducible rfl));(try simp only [Act.put,zD,zE,zF]))
      refine wpGT_nil ?_
      refine wpG_one 2 rfl (by kernel_rfl) (fun K hK=>?_)
      go_simp
      have ba:Below wr.drew.heap.size wr.drew (wr.drew.alloc (.cells #[] 131)):=zQ wr.drew _
      have hHeld1:(fun w'=>w'.cell? ⟨N,2,none⟩=some (.slice wa' k wc')/\w'.cell? ⟨w.heap.size,2,none⟩=some (.slice (some ⟨bq,oq,none⟩) x.wn x.wc)/\w'.cell? ⟨bq,oq+k,none⟩=some (.slice (x.wA k) (x.wL k) (x.wC k))) (wr.drew.alloc (.cells #[] 131)):=⟨((bcell ba).1 _ _ hN).trans x2,((bcell ba).1 _ _ hb0w).trans b2,((bcell ba).1 _ _ hbw).trans s0⟩
      refine hK.out _ _ (fun _=>hHeld1) ?_
      clear hHeld ba
      clear hK K
      (try simp only [Act.put,zD,zE,zF])
      refine wpG_one 8 rfl (by kernel_rfl) (fun K hK=>?_)
      refine stepR_append_srcN kndT wr.drew rfl rfl _ _ rfl (x.wA k) (x.wL k) (x.wC k) (fT (x.wH k) (x.wL k)) rfl rfl (fT_len _ _) LSt.out (fT_one _ _) (zP HLk (by omega)) ?_
      intro v1 w1 o1 d1' n1
      obtain ⟨a1,c1,rfl⟩:=zU o1
      have q1:Below wr.heap.size wr w1:=(Below.refl wr.heap.size wr).drew.trans d1'
      have O1:Hid (w1.ownsRow wr.heap.size 131 2 (.slice a1 (x.wL k) c1) (x.wL k) (fT (x.wH k) (x.wL k))/\Value.slice a1 (x.wL k) c1≠.slice none 0 0):=⟨o1,n1⟩
      have hc1:∀ b o,b<wr.heap.size->w1.cell? ⟨b,o,none⟩=wr.cell? ⟨b,o,none⟩:=fun b o h=>(bcell q1).1 b o h
      have hHeld2:=And.intro ((hc1 _ _ hN).trans x2) (And.intro ((hc1 _ _ hb0w).trans b2) ((hc1 _ _ hbw).trans s0))
      have Q1:Hid (Below wr.heap.size wr w1):=q1
      refine hK.out _ _ (fun _=>hHeld2) ?_
      clear hHeld1 o1 d1' q1 hc1 n1
      clear hK K
      (try simp only [Act.put,zD,zE,zF])
      refine wpG_one 9 rfl (by kernel_rfl) (fun K hK=>?_)
      go_simp
      have ba:=zQ w1 (.cells #[.slice a1 (x.wL k) c1] 88)
      have hca:∀ b o,b<wr.heap.size->(w1.alloc (.cells #[.slice a1 (x.wL k) c1] 88)).cell? ⟨b,o,none⟩=w1.cell? ⟨b,o,none⟩:=fun b o h=>(bcell ba).1 b o (zL h Q1.out.size)
      obtain ⟨e0,e1,e2⟩:=hHeld2
      refine hK.out _ _ (fun _=>⟨(hca _ _ hN).trans e0,(hca _ _ hb0w).trans e1,(hca _ _ hbw).trans e2⟩) ?_
      clear hca ba
      clear hK K
      (try simp only [Act.put,zD,zE,zF])
      refine wpG_one 10 rfl (by kernel_rfl) (fun K hK=>?_)
      refine stepR_append_val kndTT w1 rfl rfl _ _ rfl 0 (.slice wa' k wc') k _ rfl (CP.out.o.t.below Q1.out).row #[.slice a1 (x.wL k) c1] rfl rfl (by intro u hu;simp at hu;subst hu;rfl) (by omega) (Nat.zero_le _) ?_
      intro v3 w3 o3 g3 q3 n3
      obtain ⟨a3,c3,rfl⟩:=zU o3
      have hk3:∀ b,b<wr.heap.size->(b<W2.heap.size\/b=N)->w3.heap[b]? = w1.heap[b]?:=fun b h1 h2=>g3.block b (zL h1 Q1.out.size) fun e=>by
       have:=HSA.out b e.symm
       omega
      have hc3:∀ b o,b<wr.heap.size->(b<W2.heap.size\/b=N)->w3.cell? ⟨b,o,none⟩=w1.cell? ⟨b,o,none⟩:=fun b o h1 h2=>zH (hk3 b h1 h2)
      have hHeld:=And.intro ((hc3 _ _ hN (.inr rfl)).trans e0) (And.intro ((hc3 _ _ hb0w (.inl hl0)).trans e1) ((hc3 _ _ hbw (.inl (by omega))).trans e2))
      have hfN:∀ j,w3.frozen? ⟨N,j,none⟩=false:=fun j=>(zI (hk3 N hN (.inr rfl))).trans (((bcell Q1.out).2 N j hN).trans (xf j))
      have CN:Hid (CpB W2.heap.size N (rcol c wr.heap.size 3) x.y x.sn (k+1) (w3.setCell ⟨N,2,none⟩ (.slice a3 (k+1) c3)) vp vs (.slice a3 (k+1) c3) vh up us (fun j=>if j=k then .slice a1 (x.wL k) c1 else uw j) uh):=CP.out.way Q1.out O1.out.1 O1.out.2 o3 g3 q3
      have BN:Hid (Below W2.heap.size W2 (w3.setCell ⟨N,2,none⟩ (.slice a3 (k+1) c3))):=(Below.grown (BZ.out.trans (Q1.out.mono BZ.out.size)) g3 (zP BZ.out.size Q1.out.size) (fun j hj=>(HSA.out j hj).1)).setCell CP.out.bN _
      refine hK.out _ _ (fun _=>hHeld) ?_
      clear o3 g3 q3 n3 hk3 hc3
      clear hK K
      (try simp only [Act.put,zD,zE,zF])
      refine wpG_take 11 rfl hHeld ?_
      apply Exists.intro
      refine ⟨fun wq hSw=>?_,?_⟩
      ·(try dsimp only at hSw)
       go_simp
       try with_reducible rfl
      (try simp only [Act.put,zD,zE,zF])
      refine wpG_one 12 rfl (by kernel_rfl) (fun K hK=>?_)
      have hcN:=hHeld.1
      have hfN1:=hfN 2
      go_simp
      refine hK.out _ _ (fun h=>?_) ?_
      ·exact absurd h (by decide)
      clear hK K
      (try simp only [Act.put])
      refine wpG_done (by kernel_rfl) ?_ _
      go_wp2
      go_roundw
      case rel=>exact ⟨k+1,by omega,by go_num,⟨_,_,_,_,_,_,_,_,_,CN.out⟩,BN.out⟩
      case measure=>simp [intOf];omega
     ·have hkn:k=x.wn:=by omega
      subst hkn
      obtain ⟨⟨c,vp,vs,vw,vh,up,us,uw,uh,cp⟩,bz⟩:=HZ.out
      obtain ⟨pa',pc',rfl⟩:=zU cp.o.p.row
      obtain ⟨sa',sc',rfl⟩:=zU cp.o.s.row
      obtain ⟨wa',wc',rfl⟩:=zU cp.o.t.row
      obtain ⟨ha',hc',rfl⟩:=zU cp.o.h.row
      obtain ⟨x0,x1,x2,x3⟩:=cp.bx
      replace x0:wr.cell? ⟨N,0,none⟩=some (.slice pa' x.pn pc'):=x0
      replace x3:wr.cell? ⟨N,3,none⟩=some (.slice ha' x.hn hc'):=x3
      obtain ⟨r0,r1,r2,r3⟩:=RB.out.1.below bz
      obtain ⟨-,-,b2,-⟩:=NB.out.below bz
      have rf:∀ j,wr.frozen? ⟨w.heap.size+1,j,none⟩=false:=fun j=>((bcell bz).2 _ _ hl1).trans (RB.out.2 j)
      have HO:Hid (OwnS true wr W2.heap.size c x.y (.slice pa' x.pn pc') (.slice sa' x.sn sc') (.slice wa' x.wn wc') (.slice ha' x.hn hc') up us uw uh):=cp.o
      have BE:Hid (Below w.heap.size w wr):=BW.out.trans (bz.mono BW.out.size)
      have HO2:Hid (∀ W9:World,(∀ k,w.heap.size+1<k->W9.heap[k]? = wr.heap[k]?)->OwnSys true W9 w.heap.size x.y (sysV pa' x.pn pc' sa' x.sn sc' wa' x.wn wc' ha' x.hn hc')):=fun W9 hk9=>by
       have hm:∀ i k,Cl W2.heap.size c i k->k<wr.heap.size->Cl w.heap.size c i k:=fun i k h _=>⟨by have:=h.1;omega,h.2⟩
       have hq:∀ i k,Cl W2.heap.size c i k->k<wr.heap.size->W9.heap[k]? = wr.heap[k]?:=fun i k h _=>hk9 k (by have:=h.1;omega)
       have hm9:∀ i k,Cl W2.heap.size c i k->k<W9.heap.size->Cl w.heap.size c i k:=fun i k h _=>⟨by have:=h.1;omega,h.2⟩
       exact ⟨c,_,_,_,_,up,us,uw,uh,rfl,⟨(HO.out.p.keep (hq 1)).mono (hm9 1),(HO.out.s.keep (hq 2)).mono (hm9 2),(HO.out.t.keep (hq 3)).mono (hm9 3),(HO.out.h.keep (hq 4)).mono (hm9 4)⟩⟩
      clear HZ cp bz HO RB NB HG
      go_wp2
      refine bodyPost_ret (v:=sysV pa' x.pn pc' sa' x.sn sc' wa' x.wn wc' ha' x.hn hc') (by simp [results,Tryz.results74,go_sem,r0,r1,r2,r3]) rfl ⟨_,rfl,HO2.out _ ?_,?_⟩
      ·intro k hk
       repeat (rw [zO _ _ _ _ (by simp;omega)])
      ·have:=BE.out
       go_grown
structure EvK (w:World) (N:Nat) (k q v:Int):Prop where
 c0:w.cell? ⟨N,0,none⟩=some (.int .i64 k)
 c1:w.cell? ⟨N,1,none⟩=some (.int .i64 q)
 c2:w.cell? ⟨N,2,none⟩=some (.int .i64 v)
 fr:∀ j,w.frozen? ⟨N,j,none⟩=false
theorem EvK.below {w w':World} {N:Nat} {k q v:Int} (h:EvK w N k q v) (hb:Below w.heap.size w w'):EvK w' N k q v:=by
 have hN:=hb.block N (zJ w _ h.c0)
 exact ⟨(zH hN).trans h.c0,(zH hN).trans h.c1,(zH hN).trans h.c2,fun j=>(zI hN).trans (h.fr j)⟩
theorem EvK.new (w:World) (k q v:Int) (t:TypeId):EvK (w.alloc (.cells #[.int .i64 k,.int .i64 q,.int .i64 v] t)) w.heap.size k q v:=
 ⟨zW _ _ _ 0 (by simp),zW _ _ _ 1 (by simp),zW _ _ _ 2 (by simp),fun j=>yB _ _ _ _ (by simp)⟩
theorem EvK.put {w:World} {N:Nat} {k q v:Int} (h:EvK w N k q v) (k' q' v':Int):EvK (((w.setCell ⟨N,0,none⟩ (.int .i64 k')).setCell ⟨N,1,none⟩ (.int .i64 q')).setCell ⟨N,2,none⟩ (.int .i64 v')) N k' q' v':=by
 obtain ⟨h0,h1,h2,hf⟩:=h
 exact ⟨by go_cell,by go_cell,by go_cell,fun j=>by simpa using hf j⟩
def Sy.nk (y:Sy) (p:Nat):Int:=nxK (y.pH p) (y.pL p) (y.sS p).p (y.sS p).rs (y.sS p).os (y.sS p).c
def Sy.nq (y:Sy) (p:Nat):Int:=nxP (y.pH p) (y.pL p) (y.sS p).p (y.sS p).rs (y.sS p).os (y.sS p).c
def Sy.nv (y:Sy) (p:Nat):Int:=nxW (y.pH p) (y.pL p) (y.sS p).p (y.sS p).rs (y.sS p).os (y.sS p).c
def tkS (y:Sy) (p:Nat) (f:Int):Int:=if belB f y.pn=true then (if y.wL (f.toNat*y.pn+p)=0 then 3 else if (y.wH (f.toNat*y.pn+p) 0).m=true then 5 else 0) else 2
def fuS (y:Sy) (p:Nat) (k q:Int):Bool:=decide (200<=y.hL p) || (k == 2 && decide (12<=y.wL (p*y.pn+q.toNat)))
def cmS (y:Sy) (p:Nat) (f:Int):Int:=if (y.sS p).c≠0 then 6 else if fuS y p (y.nk p) (y.nq p)=true then 4 else if y.nk p=3 then tkS y p (if y.nq p=9 then f else y.nq p) else 0
theorem rp_okS {g:Nat->I5} {n:Nat} {eh:Nat->E3} (hp:progOkB g n 4=true):∀ k S,rp g n eh k=some S->OkS n S
 | 0,S,h=>by
  simp only [rp,Option.some.injEq] at h
  subst h
  exact newS_ok hp
 | k+1,S,h=>by
  simp only [rp] at h
  cases hr:rp g n eh k with
  | none=>rw [hr] at h;cases h
  | some S0=>
   rw [hr] at h
   simp only [Option.bind_some,rpStep] at h
   split at h
   ·rename_i hd
    simp only [Option.some.injEq] at h
    subst h
    exact doS_ok hd
   ·cases h
theorem Sy.Ok.four {y:Sy} (h:y.Ok) {p:Nat} (hp:p<y.pn):progOkB (y.pH p) (y.pL p) 4=true:=(repO_some (h.rp p hp)).1
theorem Sy.Ok.le200 {y:Sy} (h:y.Ok) {p:Nat} (hp:p<y.pn):y.hL p<=200:=(repO_some (h.rp p hp)).2.1
theorem Sy.Ok.st {y:Sy} (h:y.Ok) {p:Nat} (hp:p<y.pn):OkS (y.pL p) (y.sS p):=rp_okS (h.four hp) _ _ (repO_some (h.rp p hp)).2.2
theorem Sy.Ok.right {y:Sy} (h:y.Ok) {p:Nat} (hp:p<y.pn) (hc:(y.sS p).c=0):rightB (y.pH p) (y.pL p) (y.sS p).p (y.sS p).rs (y.sS p).os 0=true:=by
 have:=right_of (h.four hp) (h.st hp) hc
 rwa [hc] at this
theorem Sy.Ok.peer {y:Sy} (h:y.Ok) {p:Nat} (hp:p<y.pn) (hk:y.nk p=2):0<=y.nq p/\y.nq p<y.pn:=by
 unfold Sy.nk nxK at hk
 unfold Sy.nq nxP
 by_cases hr:rightB (y.pH p) (y.pL p) (y.sS p).p (y.sS p).rs (y.sS p).os (y.sS p).c=true
 ·rw [if_pos hr] at hk ⊢
  obtain ⟨-,h4,-⟩:=right_parts hr
  obtain ⟨-,⟨k,ek,hkl⟩,-⟩:=st_parts h4
  have e:(y.sS p).p.toNat=k:=by omega
  rw [e] at hk ⊢
  have h5:=right_ins (h.pr p hp) hkl
  simp only [insOkB,Bool.and_eq_true] at h5
  have h6:=h5.2
  have e6:(y.pH p k).o=6:=by
   unfold evK at hk
   by_cases e6:(y.pH p k).o=6
   ·exact e6
   ·rw [if_neg e6] at hk
    split at hk
    ·cases hk
    ·split at hk <;> cases hk
  rw [evP,if_pos e6]
  simp [opOkB,e6,inB] at h6
  omega
 ·rw [if_neg hr] at hk
  cases hk
theorem Sy.Ok.way {y:Sy} (h:y.Ok) {a b:Nat} (ha:a<y.pn) (hb:b<y.pn):y.wL (a*y.pn+b)<=12:=(h.wa a ha b hb).le
theorem way_lt {a b n:Nat} (ha:a<n) (hb:b<n):a*n+b<n*n:=by
 have:=Nat.mul_le_mul_right n (show a+1<=n by omega)
 rw [Nat.add_mul,Nat.one_mul] at this
 omega
