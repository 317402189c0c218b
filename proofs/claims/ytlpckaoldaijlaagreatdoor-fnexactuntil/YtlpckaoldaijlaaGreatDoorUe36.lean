import Derived.Test.YtlpckaoldaijlaaGreatDoorUe0
import Derived.Test.YtlpckaoldaijlaaGreatDoorUe32
import Derived.Test.YtlpckaoldaijlaaGreatDoorUe22
import Derived.Test.YtlpckaoldaijlaaGreatDoorUe35
import Derived.Lib.QuietBelow
import Derived.Deep.RegionHeld3
import Derived.Deep.CutRange
namespace Go.Proofs.YtlpckaoldaijlaaGreatDoor
set_option maxRecDepth 100000
set_option maxHeartbeats 2000000
open Go.ChangeShapes Go.WideShapes Go.ChangeAt Go.RowKit Go.Deep Go.Sort
theorem itemOk_any (m:Bool) (v:Int) (w:World):
  Calls Tryz.prog 198 #[itV m v] w fun e w'=>e=.returned (.bool (itemB ⟨m,v⟩))/\Below w.heap.size w w':=by
 rcases zO m with rfl | rfl
 ·have HE:Hid (itemB ⟨true,v⟩=(v == 0)):=by
   show itemB ⟨true,v⟩=(v == 0)
   simp only [itemB,Bool.not_true,Bool.false_or]
   by_cases e:v=0
   ·subst e
    rfl
   ·have:(v == 0)=false:=by simpa using e
    rw [this,Bool.and_false]
  go_enter Tryz.func198,Tryz.ntmps198
  go_wp2
  go_ret
  rw [HE.out]
  exact ⟨rfl,by go_grown⟩
 ·have HE:Hid (itemB ⟨false,v⟩=inB v (-1000000000) 1000000000):=by
   show itemB ⟨false,v⟩=inB v (-1000000000) 1000000000
   simp [itemB,numB]
  go_enter Tryz.func198,Tryz.ntmps198
  go_wp2_with fail
  refine (isNum_any _ _).mono ?_
  rintro e w1 ⟨rfl,rfl⟩
  go_wp2
  go_ret
  rw [HE.out]
  exact ⟨rfl,by go_grown⟩
def itemsB (h:Nat->I2) (n:Nat):Bool:=(List.range n).all fun i=>itemB (h i)
theorem itemsB_iff {h:Nat->I2} {n:Nat}:itemsB h n=true ↔ ∀ i,i<n->itemB (h i)=true:=by
 simp [itemsB]
theorem itemsB_no {h:Nat->I2} {n k:Nat} (hk:k<n) (hf:itemB (h k)=false):itemsB h n=false:=by
 rcases zO (itemsB h n) with t | t
 ·have:=itemsB_iff.1 t k hk
  rw [hf] at this
  cases this
 ·exact t
theorem wayOk_any (a:Option Addr) (len cap:Nat) (h:Nat->I2) (w:World) (hlen:len<=1048576) (hc:ItL w a len h):
  Calls Tryz.prog 151 #[.slice a len cap] w fun e w'=>e=.returned (.bool (decide (len<=12) && itemsB h len))/\Below w.heap.size w w':=by
 have hl':(len:Int)<=1048576:=by omega
 have HC:Hid (ItL w a len h):=hc
 clear hc
 by_cases h12:len<=12
 case neg=>
  have h12':(12:Int)<(len:Int):=by omega
  have HE:Hid ((decide (len<=12) && itemsB h len)=false):=by
   show (decide (len<=12) && itemsB h len)=false
   simp [h12]
  go_enter Tryz.func151,Tryz.ntmps151
  go_wp2
  go_ret
  rw [HE.out]
  exact ⟨rfl,Below.refl _ _⟩
 have h12':¬ (12:Int)<(len:Int):=by omega
 have HE:Hid ((decide (len<=12) && itemsB h len)=itemsB h len):=by
  show (decide (len<=12) && itemsB h len)=itemsB h len
  simp [h12]
 clear h12
 go_enter Tryz.func151,Tryz.ntmps151
 go_wp2_with fail
 go_loopw [10] (fun i wr=>∃ k:Nat,k<=len/\i=.int .i64 k/\Below w.heap.size w wr/\Hid (∀ j,j<k->itemB (h j)=true)) (fun i _=>len - (intOf i).toNat)
 case atStart=>exact ⟨0,Nat.zero_le _,rfl,Below.refl _ _,fun j hj=>by omega⟩
 case round=>
  obtain ⟨k,hk,rfl,hbw,HZ⟩:=hrel
  by_cases hlt:k<len
  ·have hlt':(k:Int)<(len:Int):=by omega
   obtain ⟨b,off,rfl,-,c0,c1⟩:=(HC.out.below hbw).at hlt
   go_wp2_with fail
   refine (itemOk_any _ _ _).mono ?_
   rintro e w1 ⟨rfl,b1⟩
   have B1:Hid (Below w.heap.size w w1):=hbw.trans (((zV wr _).trans (b1.mono (by simp))).mono hbw.size)
   clear b1
   rcases zO (itemB (h k)) with t | t
   ·have HZ':Hid (∀ j,j<k+1->itemB (h j)=true):=fun j hj=>by
     by_cases e:j=k
     ·subst e
      exact t
     ·exact HZ.out j (by omega)
    rw [show itemB { m:=(h k).m,v:=(h k).v }=true from t]
    clear HZ t
    go_wp2
    go_roundw
    case rel=>exact ⟨k+1,by omega,by go_num,B1.out,HZ'.out⟩
    case measure=>simp [intOf];omega
   ·have HN:Hid (itemsB h len=false):=itemsB_no hlt t
    rw [show itemB { m:=(h k).m,v:=(h k).v }=false from t]
    clear HZ t
    go_wp2
    go_ret
    rw [HE.out,HN.out]
    exact ⟨rfl,B1.out⟩
  ·have HN:Hid (itemsB h len=true):=itemsB_iff.2 fun j hj=>HZ.out j (by omega)
   clear HZ
   go_wp2
   go_ret
   rw [HE.out,HN.out]
   exact ⟨rfl,hbw⟩
theorem StOwn.set1 {w:World} {B N:Nat} {v:Value} {p code:Int} {rs os:List Int} (h:StOwn w B v p rs os code) (hN:N<B) (j:Nat) (u:Value):StOwn (w.setCell ⟨N,j,none⟩ u) B v p rs os code:=by
 obtain ⟨vr,vo,e,o1,o2,ha⟩:=h
 exact ⟨vr,vo,e,o1.setBelow hN _,o2.setBelow hN _,ha⟩
theorem Rn.below {w wr w':World} {A B C gb n gc k:Nat} {p code:Int} {ra:Option Addr} {rc:Nat} {oa:Option Addr} {oc:Nat} {rs os:List Int} (h:Rn w wr A B C gb n gc k p code ra rc oa oc rs os) (hb:Below wr.heap.size wr w'):Rn w w' A B C gb n gc k p code ra rc oa oc rs os:=
 ⟨(zI (hb.block A (zK wr _ h.la))).trans h.la,(h.tl.below hb).widen hb.size (Nat.le_refl _),fun j=>(zJ (hb.block B h.tl.hi)).trans (h.fb j),(zI (hb.block C (zK wr _ h.ck))).trans h.ck,(zJ (hb.block C (zK wr _ h.ck))).trans h.fc,h.ne,h.nh,h.be.trans (hb.mono h.be.size)⟩
theorem Rn.next {w w4:World} {A B C gb n gc k:Nat} {p code:Int} {ra:Option Addr} {rc:Nat} {oa:Option Addr} {oc:Nat} {rs os:List Int} (h:Rn w w4 A B C gb n gc k p code ra rc oa oc rs os) {B7 R1:Nat} {S:S4} {ra7 oa7:Option Addr} {rc7 oc7:Nat} (o:StOwn w4 B7 (stV S.p ra7 S.rs.length rc7 oa7 S.os.length oc7 S.c) S.p S.rs S.os S.c) (hA:A<B7) (hB:B<B7) (hC:C<B7) (hR:R1<B7) (n1:R1≠A) (n2:R1≠B) (n3:R1≠C) (n4:w.heap.size<=R1) (z7:w.heap.size<=B7):
  Rn w (((((((((w4.setCell ⟨B,0,none⟩ (.int .i64 S.p)).setCell ⟨B,1,none⟩ (.slice ra7 S.rs.length rc7)).setCell ⟨B,2,none⟩ (.slice oa7 S.os.length oc7)).setCell ⟨B,3,none⟩ (.int .i64 S.c)).setCell ⟨C,0,none⟩ (.int .i64 ((k+1:Nat):Int))).setCell ⟨R1,0,none⟩ (.int .i64 S.p)).setCell ⟨R1,1,none⟩ (.slice ra7 S.rs.length rc7)).setCell ⟨R1,2,none⟩ (.slice oa7 S.os.length oc7)).setCell ⟨R1,3,none⟩ (.int .i64 S.c)) A B C gb n gc (k+1) S.p S.c ra7 rc7 oa7 oc7 S.rs S.os:=by
 obtain ⟨e1,e2,e3,e4,e5⟩:=h.ne
 have zB:=h.tl.hi
 have lB:=h.tl.lo
 have o7:StOwn (((((((((w4.setCell ⟨B,0,none⟩ (.int .i64 S.p)).setCell ⟨B,1,none⟩ (.slice ra7 S.rs.length rc7)).setCell ⟨B,2,none⟩ (.slice oa7 S.os.length oc7)).setCell ⟨B,3,none⟩ (.int .i64 S.c)).setCell ⟨C,0,none⟩ (.int .i64 ((k+1:Nat):Int))).setCell ⟨R1,0,none⟩ (.int .i64 S.p)).setCell ⟨R1,1,none⟩ (.slice ra7 S.rs.length rc7)).setCell ⟨R1,2,none⟩ (.slice oa7 S.os.length oc7)).setCell ⟨R1,3,none⟩ (.int .i64 S.c)) B7 (stV S.p ra7 S.rs.length rc7 oa7 S.os.length oc7 S.c) S.p S.rs S.os S.c:=((((((((o.set1 hB _ _).set1 hB _ _).set1 hB _ _).set1 hB _ _).set1 hC _ _).set1 hR _ _).set1 hR _ _).set1 hR _ _).set1 hR _ _
 obtain ⟨b0,b1,b2,b3⟩:=h.tl.box
 have la:=h.la
 have ck:=h.ck
 have dAB:(⟨B,0,none⟩:Addr).block≠(⟨A,0,none⟩:Addr).block:=fun e=>e1 e.symm
 refine ⟨?_,⟨lB,by simp;exact zB,Nat.le_refl _,⟨?_,?_,?_,?_⟩,o7.mono z7,fun j hj=>(o7.lt hj).2,fun hj=>?_⟩,fun j=>?_,?_,?_,⟨e1,e2,e3,e4,e5⟩,⟨fun hj=>?_,fun hj=>?_⟩,?_⟩
 ·go_cell
 ·go_cell
 ·go_cell
 ·go_cell
 ·go_cell
 ·have:=(o.lt hj).1
  omega
 ·simp only [World.frozen?_setCell]
  exact h.fb j
 ·go_cell
 ·simp only [World.frozen?_setCell]
  exact h.fc
 ·have:=(o.lt hj).1
  omega
 ·have:=(o.lt hj).1
  omega
 ·exact ((((((((h.be.setCell lB _).setCell lB _).setCell lB _).setCell lB _).setCell e5 _).setCell n4 _).setCell n4 _).setCell n4 _).setCell n4 _
