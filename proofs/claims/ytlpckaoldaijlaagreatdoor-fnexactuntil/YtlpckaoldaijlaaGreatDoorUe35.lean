import Derived.Test.YtlpckaoldaijlaaGreatDoorUe0
import Derived.Test.YtlpckaoldaijlaaGreatDoorUe16
import Derived.Test.YtlpckaoldaijlaaGreatDoorUe20
import Derived.Test.YtlpckaoldaijlaaGreatDoorUe15
import Derived.Test.YtlpckaoldaijlaaGreatDoorUe31
namespace Go.Proofs.YtlpckaoldaijlaaGreatDoor
set_option maxRecDepth 100000
set_option maxHeartbeats 4000000
open Go.RowKit Go.Deep
theorem valL_length (eh:Nat->E3) (kd pr:Int) (n:Nat):(valL eh kd pr n).length=(plN eh kd pr n).length:=by simp [valL]
theorem plI_length (eh:Nat->E3) (kd pr:Int) (n:Nat):(plI eh kd pr n).length=(plN eh kd pr n).length:=by simp [plI]
theorem plN_mem (eh:Nat->E3) (kd pr:Int):∀ n,∀ q ∈ plN eh kd pr n,q<n
 | 0,q,h=>by simp [plN] at h
 | n+1,q,h=>by
  unfold plN at h
  split at h
  ·simp at h
   rcases h with h | h
   ·have:=plN_mem eh kd pr n q h
    omega
   ·omega
  ·have:=plN_mem eh kd pr n q h
   omega
theorem plI_place (eh:Nat->E3) (kd pr:Int) (len j:Nat) (hj:j<(plI eh kd pr len).length):∃ q:Nat,zi (plI eh kd pr len) j=(q:Int)/\q<len/\(plN eh kd pr len)[j]? = some q:=by
 have hj':j<(plN eh kd pr len).length:=by rw [plI_length] at hj;exact hj
 refine ⟨(plN eh kd pr len)[j],?_,plN_mem eh kd pr len _ (List.getElem_mem hj'),List.getElem?_eq_getElem hj'⟩
 unfold zi plI
 rw [List.getD_eq_getElem?_getD,List.getElem?_map,List.getElem?_eq_getElem hj']
 rfl
theorem append_far {ops:Array Oper} {rest:List Oper} {op:Oper} {act:Act} {Q:Exit->Act->World->Prop} (w:World) (hgd:op.guard=none) (s x:Operand)
  (ho:op.op=.call { callee:=.builtin .append,args:=#[s,x],argTypes:=#[30,30] })
  (B:Nat) (v:Value) (xs:List Int) (hs:act.eval s=v) (hv:OwnI w B v xs) (y:Int) (hx:act.eval x=.slice (some ⟨w.heap.size,0,none⟩) 1 1) (hn:xs.length<=1048576) (hB:B<=w.heap.size)
  (h:∀ v' w',OwnI w' B v' (xs ++ [y])->w.grownBy w' v.ownBlock->(∀ j,v'.ownBlock=some j->v.ownBlock=some j\/w.heap.size<=j)->wpList Tryz.prog ops Q rest (act.put op.dst v') w'):
  wpList Tryz.prog ops Q (op :: rest) act (w.alloc (.cells #[.int .i64 y] 3)):=by
 have hb:Below w.heap.size w (w.alloc (.cells #[.int .i64 y] 3)):=(Below.refl _ _).alloc (Nat.le_refl _) _
 refine wpList_append_ints _ hgd s x ho B 1 v (some ⟨w.heap.size,0,none⟩) xs [y] hs hx (hv.below hb) (.inr ⟨w.heap.size,0,rfl,by simp,fun i hi=>?_⟩) (by simp;omega) (by simp;omega) ?_
 ·have:i=0:=by simp at hi;omega
  subst this
  exact zZ _ _ _ 0 rfl
 ·intro v' w' o g a
  refine h v' w' o ⟨g.os,g.tape,g.output,zS hb.size g.size,fun k hk hne=>(g.block k (zP hk hb.size) hne).trans (hb.block k hk)⟩ fun j hj=>?_
  rcases a with a | a
  ·exact .inl (a.symm.trans hj)
  ·rw [hj] at a
   simp only [Option.some.injEq] at a
   right
   rw [a]
   simp
def Away (w w1 wr:World) (o:Value):Prop:=(∀ j,o.ownBlock=some j->j=w.heap.size\/w1.heap.size<=j)/\(∀ j,w.heap.size<j->j<w1.heap.size->wr.heap[j]? = w1.heap[j]?)/\w1.heap.size<=wr.heap.size
theorem Away.step {w w1 wr w4:World} {o v':Value} (h:Away w w1 wr o) (g:wr.grownBy w4 o.ownBlock) (a:∀ j,v'.ownBlock=some j->o.ownBlock=some j\/wr.heap.size<=j):Away w w1 w4 v':=by
 obtain ⟨h1,h2,h3⟩:=h
 refine ⟨fun j hj=>?_,fun j p1 p2=>?_,zS h3 g.size⟩
 ·rcases a j hj with a | a
  ·exact h1 j a
  ·right;omega
 ·rw [g.block j (by omega) (fun e=>?_),h2 j p1 p2]
  rcases h1 j e.symm with e | e <;> omega
theorem Away.sl {w w1 wr:World} {o:Value} (h:Away w w1 wr o) {B cp:Nat} {a0:Option Addr} {xs:List Int} (hB:w.heap.size<B) (hO:OwnI w1 B (.slice a0 xs.length cp) xs):Sl wr a0 xs:=by
 by_cases hx:0<xs.length
 ·obtain ⟨g,cap,e,hg,hl⟩:=hO.block hx
  simp only [Value.slice.injEq] at e
  obtain ⟨rfl,-,rfl⟩:=e
  refine .inr ⟨g,0,rfl,zP hl h.2.2,fun i hi=>?_⟩
  rw [Nat.zero_add,zI (h.2.1 g (by omega) hl)]
  exact hO.cell hi
 ·exact .inl (List.eq_nil_of_length_eq_zero (by omega))
def valT (eh:Nat->E3) (kd pr:Int) (len j:Nat):List Int:=((plN eh kd pr len).take j).map fun i=>(eh i).v
theorem valT_le (eh:Nat->E3) (kd pr:Int) (len j:Nat):(valT eh kd pr len j).length<=j:=by simp [valT];omega
theorem valT_all (eh:Nat->E3) (kd pr:Int) (len:Nat):valT eh kd pr len (plI eh kd pr len).length=valL eh kd pr len:=by
 unfold valT valL
 rw [plI_length,List.take_length]
theorem valT_next {eh:Nat->E3} {kd pr:Int} {len j q:Nat} (h:(plN eh kd pr len)[j]? = some q):valT eh kd pr len (j+1)=valT eh kd pr len j ++ [(eh q).v]:=by
 unfold valT
 rw [List.take_add_one,h,List.map_append]
 rfl
theorem specValues_l (ea:Option Addr) (len cap:Nat) (eh:Nat->E3) (kd pr:Int) (w:World) (hlen:len<=1048576) (hc:EvL w ea len eh):
  Calls Tryz.prog 54 #[.slice ea len cap,.int .i64 kd,.int .i64 pr] w fun e w'=>∃ v,e=.returned v/\OwnI w' w.heap.size v (valL eh kd pr len)/\Below w.heap.size w w':=by
 have hl':(len:Int)<=1048576:=by omega
 have HC:Hid (EvL w ea len eh):=hc
 clear hc
 go_enter Tryz.func54,Tryz.ntmps54
 go_wp2_with fail
 go_loopw [7,8] (fun o i wr=>∃ k:Nat,k<=len/\i=.int .i64 k/\Hid (OwnI wr w.heap.size o (valL eh kd pr k))/\Below w.heap.size w wr) (fun _ i _=>len - (intOf i).toNat)
 case atStart=>exact ⟨0,Nat.zero_le _,rfl,own_empty w,(Below.refl _ _).alloc (Nat.le_refl _) _⟩
 case round=>
  obtain ⟨k,hk,rfl,HO,hbw⟩:=hrel
  have hs:=hbw.size
  by_cases hlt:k<len
  ·have hlt':(k:Int)<(len:Int):=by omega
   have hvl:=valL_le eh kd pr k
   obtain ⟨b,off,rfl,-,c0,c1,c2⟩:=(HC.out.below hbw).at hlt
   rcases zO ((eh k).k == kd) with t1 | t1
   ·rcases zO ((eh k).q == pr) with t2 | t2
    ·have HH : Hid (valL eh kd pr (k + 1) = valL eh kd pr k ++ [(eh k).v]) := valL_hit (by
      unfold hitB
      rw [t1,t2]
      rfl)
     go_wp2_with (at_builtin;refine append_one wr rfl _ _ rfl w.heap.size u7 (valL eh kd pr k) rfl HO.out (eh k).v rfl (by omega) hs ?_;intro v' w4 o4 b4;have H4:Hid (OwnI w4 w.heap.size v' (valL eh kd pr (k+1))):=o4.to HH.out;clear o4)
     go_roundw
     case rel=>exact ⟨k+1,by omega,by go_num,H4.out,hbw.trans b4⟩
     case measure=>simp [intOf];omega
    ·have HH : Hid (valL eh kd pr (k + 1) = valL eh kd pr k) := valL_not (by
      unfold hitB
      rw [t1,t2]
      rfl)
     go_wp2
     go_roundw
     case rel=>exact ⟨k+1,by omega,by go_num,HO.out.to HH.out,hbw⟩
     case measure=>simp [intOf];omega
   ·have HH : Hid (valL eh kd pr (k + 1) = valL eh kd pr k) := valL_not (by
     unfold hitB
     rw [t1]
     rfl)
    go_wp2
    go_roundw
    case rel=>exact ⟨k+1,by omega,by go_num,HO.out.to HH.out,hbw⟩
    case measure=>simp [intOf];omega
  ·have hkl:k=len:=by omega
   have H4:Hid (OwnI wr w.heap.size u7 (valL eh kd pr len)):=by
    have:=HO.out
    rw [hkl] at this
    exact this
   clear HO hkl
   go_wp2
   go_ret
   exact ⟨_,rfl,H4.out,hbw⟩
theorem placesOf_l (ea:Option Addr) (len cap:Nat) (eh:Nat->E3) (kd pr:Int) (w:World) (hlen:len<=1048576) (hc:EvL w ea len eh):
  Calls Tryz.prog 161 #[.slice ea len cap,.int .i64 kd,.int .i64 pr] w fun e w'=>∃ v,e=.returned v/\OwnI w' w.heap.size v (plI eh kd pr len)/\Below w.heap.size w w':=by
 have hl':(len:Int)<=1048576:=by omega
 have HC:Hid (EvL w ea len eh):=hc
 clear hc
 go_enter Tryz.func161,Tryz.ntmps161
 go_wp2_with fail
 go_loopw [7,13] (fun o i wr=>∃ k:Nat,k<=len/\i=.int .i64 k/\Hid (OwnI wr w.heap.size o (plI eh kd pr k))/\Below w.heap.size w wr) (fun _ i _=>len - (intOf i).toNat)
 case atStart=>exact ⟨0,Nat.zero_le _,rfl,own_empty w,(Below.refl _ _).alloc (Nat.le_refl _) _⟩
 case round=>
  obtain ⟨k,hk,rfl,HO,hbw⟩:=hrel
  have hs:=hbw.size
  by_cases hlt:k<len
  ·have hlt':(k:Int)<(len:Int):=by omega
   have hvl:=plI_le eh kd pr k
   obtain ⟨b,off,rfl,-,c0,c1,c2⟩:=(HC.out.below hbw).at hlt
   rcases zO ((eh k).k == kd) with t1 | t1
   ·rcases zO ((eh k).q == pr) with t2 | t2
    ·have HH : Hid (plI eh kd pr (k + 1) = plI eh kd pr k ++ [(k : Int)]) := plI_hit (by
      unfold hitB
      rw [t1,t2]
      rfl)
     go_wp2_with (at_builtin;refine append_oneN _ (N:=wr.heap.size+1) (by simp) rfl _ _ rfl w.heap.size u7 (plI eh kd pr k) rfl (HO.out.below (by go_grown)) k rfl (by omega) (by simp;omega) ?_;intro v' w4 o4 b4;have H4:Hid (OwnI w4 w.heap.size v' (plI eh kd pr (k+1))):=o4.to HH.out;clear o4)
     go_roundw
     case rel=>exact ⟨k+1,by omega,by go_num,H4.out,Below.trans (by go_grown) b4⟩
     case measure=>simp [intOf];omega
    ·have HH : Hid (plI eh kd pr (k + 1) = plI eh kd pr k) := plI_not (by
      unfold hitB
      rw [t1,t2]
      rfl)
     go_wp2
     go_roundw
     case rel=>exact ⟨k+1,by omega,by go_num,(HO.out.below (by go_grown)).to HH.out,by go_grown⟩
     case measure=>simp [intOf];omega
   ·have HH : Hid (plI eh kd pr (k + 1) = plI eh kd pr k) := plI_not (by
     unfold hitB
     rw [t1]
     rfl)
    go_wp2
    go_roundw
    case rel=>exact ⟨k+1,by omega,by go_num,(HO.out.below (by go_grown)).to HH.out,by go_grown⟩
    case measure=>simp [intOf];omega
  ·have hkl:k=len:=by omega
   have H4:Hid (OwnI wr w.heap.size u7 (plI eh kd pr len)):=by
    have:=HO.out
    rw [hkl] at this
    exact this
   clear HO hkl
   go_wp2
   go_ret
   exact ⟨_,rfl,H4.out,hbw⟩
theorem specCount_l (ea:Option Addr) (len cap:Nat) (eh:Nat->E3) (kd pr:Int) (w:World) (hlen:len<=1048576) (hc:EvL w ea len eh):
  Calls Tryz.prog 105 #[.slice ea len cap,.int .i64 kd,.int .i64 pr] w fun e w'=>e=.returned (.int .i64 ((plN eh kd pr len).length:Nat))/\Below w.heap.size w w':=by
 have HC:Hid (EvL w ea len eh):=hc
 clear hc
 go_enter Tryz.func105,Tryz.ntmps105
 go_wp2_with fail
 refine (specValues_l ea len cap eh kd pr w hlen HC.out).mono ?_
 rintro e w1 ⟨v,rfl,o1,b1⟩
 obtain ⟨a0,cp,rfl,-⟩:=o1.form
 rw [valL_length]
 go_wp2
 go_ret
 exact ⟨rfl,b1⟩
theorem implValues_l (ea:Option Addr) (len cap:Nat) (eh:Nat->E3) (kd pr:Int) (w:World) (hlen:len<=1048576) (hc:EvL w ea len eh):
  Calls Tryz.prog 162 #[.slice ea len cap,.int .i64 kd,.int .i64 pr] w fun e w'=>∃ v,e=.returned v/\OwnI w' w.heap.size v (valL eh kd pr len)/\Below w.heap.size w w':=by
 have hl':(len:Int)<=1048576:=by omega
 have HC:Hid (EvL w ea len eh):=hc
 clear hc
 have hpl:=plI_le eh kd pr len
 go_enter Tryz.func162,Tryz.ntmps162
 go_wp2_with fail
 refine (placesOf_l ea len cap eh kd pr _ hlen (HC.out.below (by go_grown))).mono ?_
 rintro e w1 ⟨v,rfl,o1,b1⟩
 have B1:Hid (Below w.heap.size w w1):=below_up (by go_grown) b1 (by simp)
 obtain ⟨a0,cp,rfl,-⟩:=o1.form
 have HS:Hid (OwnI w1 (w.heap.size+1) (.slice a0 (plI eh kd pr len).length cp) (plI eh kd pr len)):=by
  rw [World.size_alloc] at o1
  exact o1
 clear o1
 go_wp2_with fail
 have HO:Hid (OwnI w1 w.heap.size (.slice (some ⟨w.heap.size,0,none⟩) 0 0) []):=(own_empty w).below b1
 clear b1
 go_loopw [7,16] (fun o i wr=>∃ k:Nat,k<=(plI eh kd pr len).length/\i=.int .i64 k/\Hid (OwnI wr w.heap.size o (valT eh kd pr len k))/\Below w.heap.size w wr/\Hid (Away w w1 wr o)) (fun _ i _=>(plI eh kd pr len).length - (intOf i).toNat)
 case atStart=>exact ⟨0,Nat.zero_le _,rfl,HO.out,B1.out,⟨fun j hj=>by simp [Value.ownBlock] at hj;exact .inl hj.symm,fun _ _ _=>rfl,Nat.le_refl _⟩⟩
 case round=>
  clear HO B1
  obtain ⟨k,hk,rfl,HO,hbw,HA⟩:=hrel
  have hs:=hbw.size
  by_cases hlt:k<(plI eh kd pr len).length
  ·have hlt':(k:Int)<((plI eh kd pr len).length:Int):=by omega
   obtain ⟨b0,o0,e0,hb0,hcell⟩:=(HA.out.sl (Nat.lt_succ_self _) HS.out).at hlt
   obtain ⟨q,hq,hql,hqe⟩:=plI_place eh kd pr len k hlt
   have hql':(q:Int)<(len:Int):=by omega
   rw [hq] at hcell
   subst e0
   have hvl:=valT_le eh kd pr len k
   have HH:Hid (valT eh kd pr len (k+1)=valT eh kd pr len k ++ [(eh q).v]):=valT_next hqe
   obtain ⟨b,off,rfl,-,c0,c1,c2⟩:=(HC.out.below hbw).at hql
   clear hq hqe
   go_wp2_with (at_builtin;refine append_far wr rfl _ _ rfl w.heap.size u7 (valT eh kd pr len k) rfl HO.out (eh q).v rfl (by omega) hs ?_;intro v' w4 o4 g4 a4;have A4:Hid (Away w w1 w4 v'):=HA.out.step g4 a4;have b4:Below w.heap.size wr w4:=⟨g4.os,g4.tape,g4.output,g4.size,fun j hj=>g4.block j (zP hj hs) (fun e=>Nat.not_le_of_lt hj (HO.out.lt j e.symm).1)⟩;have H4:Hid (OwnI w4 w.heap.size v' (valT eh kd pr len (k+1))):=o4.to HH.out;clear o4 g4 a4)
   go_roundw
   case rel=>exact ⟨k+1,by omega,by go_num,H4.out,hbw.trans b4,A4.out⟩
   case measure=>simp [intOf];omega
  ·have hkl:k=(plI eh kd pr len).length:=by omega
   have H4:Hid (OwnI wr w.heap.size u7 (valL eh kd pr len)):=by
    have:=HO.out
    rw [hkl,valT_all] at this
    exact this
   clear HO hkl
   go_wp2
   go_ret
   exact ⟨_,rfl,H4.out,hbw⟩
theorem specNumbers_l (ea:Option Addr) (len cap:Nat) (h:Nat->I2) (w:World) (hlen:len<=1048576) (hc:ItL w ea len h):
  Calls Tryz.prog 104 #[.slice ea len cap] w fun e w'=>∃ v,e=.returned v/\OwnI w' w.heap.size v (numL h len)/\Below w.heap.size w w':=by
 have hl':(len:Int)<=1048576:=by omega
 have HC:Hid (ItL w ea len h):=hc
 clear hc
 go_enter Tryz.func104,Tryz.ntmps104
 go_wp2_with fail
 go_loopw [3,4] (fun o i wr=>∃ k:Nat,k<=len/\i=.int .i64 k/\Hid (OwnI wr w.heap.size o (numL h k))/\Below w.heap.size w wr) (fun _ i _=>len - (intOf i).toNat)
 case atStart=>exact ⟨0,Nat.zero_le _,rfl,own_empty w,(Below.refl _ _).alloc (Nat.le_refl _) _⟩
 case round=>
  obtain ⟨k,hk,rfl,HO,hbw⟩:=hrel
  have hs:=hbw.size
  by_cases hlt:k<len
  ·have hlt':(k:Int)<(len:Int):=by omega
   have hvl:=numL_le h k
   obtain ⟨b,off,rfl,-,c0,c1⟩:=(HC.out.below hbw).at hlt
   rcases zO (h k).m with t1 | t1
   ·have HH:Hid (numL h (k+1)=numL h k):=numL_not t1
    rw [t1] at c0
    go_wp2
    go_roundw
    case rel=>exact ⟨k+1,by omega,by go_num,HO.out.to HH.out,hbw⟩
    case measure=>simp [intOf];omega
   ·have HH:Hid (numL h (k+1)=numL h k ++ [(h k).v]):=numL_hit t1
    rw [t1] at c0
    go_wp2_with (at_builtin;refine append_one wr rfl _ _ rfl w.heap.size u3 (numL h k) rfl HO.out (h k).v rfl (by omega) hs ?_;intro v' w4 o4 b4;have H4:Hid (OwnI w4 w.heap.size v' (numL h (k+1))):=o4.to HH.out;clear o4)
    go_roundw
    case rel=>exact ⟨k+1,by omega,by go_num,H4.out,hbw.trans b4⟩
    case measure=>simp [intOf];omega
  ·have hkl:k=len:=by omega
   have H4:Hid (OwnI wr w.heap.size u3 (numL h len)):=by
    have:=HO.out
    rw [hkl] at this
    exact this
   clear HO hkl
   go_wp2
   go_ret
   exact ⟨_,rfl,H4.out,hbw⟩
theorem implNumbers_l (ea:Option Addr) (len cap:Nat) (h:Nat->I2) (w:World) (hlen:len<=1048576) (hc:ItL w ea len h):
  Calls Tryz.prog 154 #[.slice ea len cap] w fun e w'=>∃ v,e=.returned v/\OwnI w' w.heap.size v (numL h len)/\Below w.heap.size w w':=by
 have hl':(len:Int)<=1048576:=by omega
 have HC:Hid (ItL w ea len h):=hc
 clear hc
 go_enter Tryz.func154,Tryz.ntmps154
 go_wp2_with fail
 go_loopw [3,9] (fun o i wr=>∃ k:Nat,k<=len/\i=.int .i64 k/\Hid (OwnI wr w.heap.size o (numL h k))/\Below w.heap.size w wr) (fun _ i _=>len - (intOf i).toNat)
 case atStart=>exact ⟨0,Nat.zero_le _,rfl,own_empty w,(Below.refl _ _).alloc (Nat.le_refl _) _⟩
 case round=>
  obtain ⟨k,hk,rfl,HO,hbw⟩:=hrel
  have hs:=hbw.size
  by_cases hlt:k<len
  ·have hlt':(k:Int)<(len:Int):=by omega
   have hvl:=numL_le h k
   obtain ⟨b,off,rfl,-,c0,c1⟩:=(HC.out.below hbw).at hlt
   rcases zO (h k).m with t1 | t1
   ·have HH:Hid (numL h (k+1)=numL h k):=numL_not t1
    rw [t1] at c0
    go_wp2
    go_roundw
    case rel=>exact ⟨k+1,by omega,by go_num,(HO.out.below (by go_grown)).to HH.out,by go_grown⟩
    case measure=>simp [intOf];omega
   ·have HH:Hid (numL h (k+1)=numL h k ++ [(h k).v]):=numL_hit t1
    rw [t1] at c0
    go_wp2_with (at_builtin;refine append_oneN _ (N:=wr.heap.size+1) (by simp) rfl _ _ rfl w.heap.size u3 (numL h k) rfl (HO.out.below (by go_grown)) (h k).v rfl (by omega) (by simp;omega) ?_;intro v' w4 o4 b4;have H4:Hid (OwnI w4 w.heap.size v' (numL h (k+1))):=o4.to HH.out;clear o4)
    go_roundw
    case rel=>exact ⟨k+1,by omega,by go_num,H4.out,Below.trans (by go_grown) b4⟩
    case measure=>simp [intOf];omega
  ·have hkl:k=len:=by omega
   have H4:Hid (OwnI wr w.heap.size u3 (numL h len)):=by
    have:=HO.out
    rw [hkl] at this
    exact this
   clear HO hkl
   go_wp2
   go_ret
   exact ⟨_,rfl,H4.out,hbw⟩
open Go.Sort
theorem implStateNew_any (w:World):
  Calls Tryz.prog 141 #[] w fun e w'=>∃ v,e=.returned v/\StOwn w' w.heap.size v 0 [0,0,0,0] [] 0/\Below w.heap.size w w':=by
 have hmk:∀ w:World,(Instr.makeSlice 30 (.int .i64 4) (.int .i64 4)).run Tryz.prog w=.ok (.slice (some ⟨w.heap.size,0,none⟩) 4 4) (w.alloc (.cells (madeCells #[.int .i64 0] 4) 3)):=fun w=>run_make_int 4 (by omega) w
 have HM:Hid (∀ w:World,OwnI (w.alloc (.cells (madeCells #[.int .i64 0] 4) 3)) w.heap.size (.slice (some ⟨w.heap.size,0,none⟩) 4 4) [0,0,0,0]):=fun w=>made_own w 4 (by omega)
 go_enter Tryz.func141,Tryz.ntmps141
 go_wp2
 have hB:w.heap.size<=w.heap.size+1:=by omega
 have hM:=HM.out (w.alloc (oQ1 0 (some ⟨w.heap.size+1,0,none⟩) 4 4 none 0 0 0))
 rw [World.size_alloc] at hM
 refine bodyPost_ret (v:=stV 0 (some ⟨w.heap.size+1,0,none⟩) 4 4 none 0 0 0) (by simp [results,Tryz.results141,go_sem]) rfl ⟨_,rfl,⟨_,_,rfl,hM.mono hB,World.ownsRow_nil _ _ _ _,fun k _=>by simp [Value.ownBlock]⟩,by go_grown⟩
structure Rn (w wr:World) (A B C gb n gc k:Nat) (p code:Int) (ra:Option Addr) (rc:Nat) (oa:Option Addr) (oc:Nat) (rs os:List Int):Prop where
 la:wr.cell? ⟨A,0,none⟩=some (.slice (some ⟨gb,0,none⟩) n gc)
 tl:Tl wr w.heap.size wr.heap.size B p code ra rs.length rc oa os.length oc rs os
 fb:∀ j,wr.frozen? ⟨B,j,none⟩=false
 ck:wr.cell? ⟨C,0,none⟩=some (.int .i64 k)
 fc:wr.frozen? ⟨C,0,none⟩=false
 ne:A≠B/\C≠B/\A≠C/\w.heap.size<=A/\w.heap.size<=C
 nh:¬ hasBlock (stV p ra rs.length rc oa os.length oc code) A/\¬ hasBlock (stV p ra rs.length rc oa os.length oc code) C
 be:Below w.heap.size w wr
theorem runOf_any (gb n gc:Nat) (g:Nat->I5) (w:World) (hn:n<=maxLen) (hg:gb<w.heap.size) (hI:InsAt w gb 0 n g) (hp:progOkB g n 4=true):
  Calls Tryz.prog 140 #[.slice (some ⟨gb,0,none⟩) n gc] w fun e w'=>∃ A B C ra rc oa oc,e=.returned (.tuple #[.func (.func 191) #[] #[.pointer (some ⟨A,0,none⟩),.pointer (some ⟨B,0,none⟩),.pointer (some ⟨C,0,none⟩)],.nilIface])/\Rn w w' A B C gb n gc 0 0 0 ra rc oa oc [0,0,0,0] []:=by
 have HI:Hid (InsAt w gb 0 n g):=hI
 have HL:Hid (n<=maxLen):=hn
 have HP:Hid (progOkB g n 4=true):=hp
 clear hI hn
 go_enter Tryz.func140,Tryz.ntmps140
 go_wp2_with fail
 refine (implProgOk_any gb 0 n gc g 4 _ HL.out (by simp;omega) (HI.out.below (by go_grown) hg)).mono ?_
 rintro e w1 ⟨rfl,b1⟩
 have B1:Hid (Below w.heap.size w w1):=below_up (by go_grown) b1 (by simp)
 have z1:w.heap.size<w1.heap.size:=by have:=b1.size;simp at this;omega
 have l1:w1.cell? ⟨w.heap.size,0,none⟩=some (.slice (some ⟨gb,0,none⟩) n gc):=by rw [(bcell b1).1 _ _ (by simp)];simp
 clear b1
 go_wp2_with fail
 refine (implStateNew_any _).mono ?_
 rintro e w2 ⟨v2,rfl,o2,b2⟩
 obtain ⟨ra2,rc2,oa2,oc2,rfl,-,-⟩:=o2.read
 have z2:=b2.size
 have bz:Below w2.heap.size w2 ((w2.alloc (oQ1 0 ra2 4 rc2 oa2 0 oc2 0)).alloc (.cells #[.int .i64 0] 3)):=by go_grown
 have bq:=zV (w2.alloc (oQ1 0 ra2 4 rc2 oa2 0 oc2 0)) (.cells #[.int .i64 0] 3)
 have b12:=b2.trans (bz.mono b2.size)
 have HR:Hid (Rn w ((w2.alloc (oQ1 0 ra2 4 rc2 oa2 0 oc2 0)).alloc (.cells #[.int .i64 0] 3)) w.heap.size w2.heap.size (w2.heap.size+1) gb n gc 0 0 0 ra2 rc2 oa2 oc2 [0,0,0,0] []):=by
  have o2':StOwn w2 w.heap.size (stV 0 ra2 4 rc2 oa2 0 oc2 0) 0 [0,0,0,0] [] 0:=o2.mono (by omega)
  refine ⟨(zI (b12.block w.heap.size z1)).trans l1,((Tl.of_alloc o2' (by omega) _).below bq).widen (by simp) (Nat.le_refl _),fun j=>?_,?_,?_,⟨by omega,by omega,by omega,by omega,by omega⟩,⟨fun h=>?_,fun h=>?_⟩,B1.out.trans (b12.mono B1.out.size)⟩
  ·rw [zJ (bq.block w2.heap.size (by simp))]
   exact yD _ _ _ j rfl
  ·have:=zZ (w2.alloc (oQ1 0 ra2 4 rc2 oa2 0 oc2 0)) #[.int .i64 0] 3 0 rfl
   rw [World.size_alloc] at this
   exact this
  ·have:=yD (w2.alloc (oQ1 0 ra2 4 rc2 oa2 0 oc2 0)) #[.int .i64 0] 3 0 rfl
   rw [World.size_alloc] at this
   exact this
  ·have:=(o2.lt h).1
   omega
  ·have:=(o2.lt h).2
   omega
 clear o2 b2 bz bq b12 l1
 go_wp2
 exact bodyPost_ret (v:=.tuple #[.func (.func 191) #[] #[.pointer (some ⟨w.heap.size,0,none⟩),.pointer (some ⟨w2.heap.size,0,none⟩),.pointer (some ⟨w2.heap.size+1,0,none⟩)],.nilIface]) (by simp [results,Tryz.results140,go_sem]) rfl ⟨_,_,_,_,_,_,_,rfl,HR.out⟩
