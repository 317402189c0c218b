import Derived.Test.YthgpldgkabcopaaGreatDoorYh11
namespace Go.Proofs.YthgpldgkabcopaaGreatDoor
set_option maxRecDepth 100000
set_option maxHeartbeats 4000000
open Go.RowKit
def quf (j:Nat):Int:=[(11:Int),9].getD j 0
theorem qug (w:World):qhi (w.alloc (.cells #[.int .i64 11,.int .i64 9] 3)) w.heap.size 2 quf:=by
 intro j hj
 match j,hj with
 | 0,_=>simp [quf]
 | 1,_=>simp [quf]
theorem Lst.own {w:World} {B n:Nat} {v:Value} (h:Lst w B v n):∀ j,v.ownBlock=some j->B<=j:=by
 obtain ⟨xs,ho,hx⟩:=h
 exact fun j hj=>(ho.lt j hj).1
theorem Lst.cur {w w':World} {B W0 c len cap n:Nat} {a0:Option Addr} {v:Value} {o:Obj} (h:Lst w B v n) (hc:Cur w W0 c a0 len cap) (hg:(w.alloc o).grownBy w' v.ownBlock) (hB:c<B) (hW:W0<=c):Cur w' W0 c a0 len cap:=
 (hc.alloc o).kept hg (fun e=>by have:=h.own c e.symm;omega) (fun k hk=>by have:=h.own k hk;omega)
theorem qe4 (W0 c len cap:Nat) (a0:Option Addr) (P me:Int) (w:World) (hc:Cur w W0 c a0 len cap) (m1:0<=me) (m2:me<P) (P4:P<=4):
  Calls Tryz.prog 115 #[.pointer (some (aQ c 0)),.int .i64 P,.int .i64 me] w fun e w'=>∃ (v:Value) (n:Nat),e=.returned v/\(1<=n/\n<=11)/\Lst w' w.heap.size v n/\Cur w' W0 c a0 len cap/\w.grownBy w' (some c):=by
 have HC0:Hid (Cur w W0 c a0 len cap):=hc
 have hcl:=hc.lt
 have hcg:=hc.ge
 clear hc
 have cNone:∀ k:Nat,(none:Option Nat)=some k->W0<=k:=fun k h=>by cases h
 have n3:(P == 0)=false:=by simp;omega
 have n5:(1:Int)<=P:=by omega
 go_enter Tryz.func115,Tryz.ntmps115
 go_wp2_with fail
 refine (zY W0 c len cap a0 _ _ HC0.out (by omega) (by omega)).mono ?_
 rintro e w1 ⟨x,rfl,⟨xL,xH⟩,hc1,hg1⟩
 have HC1:Hid (Cur w1 W0 c a0 len cap):=hc1
 have HG1:Hid (w.grownBy w1 (some c)):=hg1
 have hs1:=hg1.size
 clear hc1 hg1 HC0 cNone
 have hx:x=0\/x=1\/x=2\/x=3:=by omega
 clear xL xH
 rcases hx with rfl | rfl | rfl | rfl
 ·go_wp2
  go_ret
  exact ⟨_,6,rfl,by omega,Lst.lit _ hs1 (by omega) rfl rfl,HC1.out.alloc _,HG1.out.trans (World.grownBy_alloc _ _ _)⟩
 ·go_wp2
  go_ret
  exact ⟨_,6,rfl,by omega,Lst.lit _ hs1 (by omega) rfl rfl,HC1.out.alloc _,HG1.out.trans (World.grownBy_alloc _ _ _)⟩
 ·go_wp2_with fail
  refine (zY W0 c len cap a0 _ _ HC1.out (by omega) (by omega)).mono ?_
  rintro e w2 ⟨y,rfl,⟨yL,yH⟩,hc2,hg2⟩
  have HC2:Hid (Cur w2 W0 c a0 len cap):=hc2
  have HG2:Hid (w.grownBy w2 (some c)):=HG1.out.trans hg2
  have hs2:=HG2.out.size
  clear hc2 hg2 HC1 HG1
  go_wp2
  go_ret
  exact ⟨_,9,rfl,by omega,Lst.lit _ hs2 (by omega) rfl rfl,HC2.out.alloc _,HG2.out.trans (World.grownBy_alloc _ _ _)⟩
 ·go_wp2_with fail
  refine (zY W0 c len cap a0 _ _ HC1.out (by omega) (by omega)).mono ?_
  rintro e w2 ⟨y,rfl,⟨yL,yH⟩,hc2,hg2⟩
  have HC2:Hid (Cur w2 W0 c a0 len cap):=hc2
  have HG2:Hid (w.grownBy w2 (some c)):=HG1.out.trans hg2
  have hs2:=HG2.out.size
  obtain ⟨m,rfl⟩:=Int.eq_ofNat_of_zero_le yL
  have hm:m<8:=by omega
  clear hc2 hg2 HC1 HG1 yL yH
  go_wp2_with fail
  go_loopw [9,10] (fun out i wr=>∃ k:Nat,k<=3+m/\i=.int .i64 k/\Hid (Lst wr w.heap.size out k/\Cur wr W0 c a0 len cap/\w.grownBy wr (some c))) (fun _ i _=>3+m - (intOf i).toNat)
  case atStart=>exact ⟨0,Nat.zero_le _,rfl,Lst.lit #[] hs2 (by omega) rfl rfl,HC2.out.alloc _,HG2.out.trans (World.grownBy_alloc _ _ _)⟩
  case round=>
   obtain ⟨k,hk,rfl,HR⟩:=hrel
   by_cases hlt:k<3+m
   ·have hlt':(k:Int)<3+(m:Int):=by omega
    go_wp2_with fail
    refine (qj3 W0 c len cap a0 _ _ _ HR.out.2.1 (by omega) (by omega) (by omega) (by omega)).mono ?_
    rintro e w3 ⟨o,r,a,b,n,rfl,hc3,hg3⟩
    have HL3:Hid (Lst w3 w.heap.size u9 k):=HR.out.1.kept hg3 (fun j hj=>by cases hj;exact hcl)
    have HC3:Hid (Cur w3 W0 c a0 len cap):=hc3
    have HG3:Hid (w.grownBy w3 (some c)):=HR.out.2.2.trans hg3
    have hs3:=HG3.out.size
    clear hc3 hg3 HR
    go_wp2_with (at_builtin;refine qeu w3 rfl _ _ rfl w.heap.size u9 k rfl HL3.out o r a b n rfl (by omega) hs3 ?_;intro v' w4 hl4 hg4;have HR4:Hid (Lst w4 w.heap.size v' (k+1)/\Cur w4 W0 c a0 len cap/\w.grownBy w4 (some c)):=⟨hl4,Lst.cur HL3.out HC3.out hg4 hcl hcg,(HG3.out.trans (World.grownBy_alloc _ _ _)).andThen hg4 (fun j hj=>.inl (HL3.out.own j hj))⟩;clear hl4 hg4 HL3 HC3 HG3)
    go_roundw
    case rel=>exact ⟨k+1,by omega,by go_num,HR4⟩
    case measure=>simp [intOf];omega
   ·have hlt':¬ (k:Int)<3+(m:Int):=by omega
    have hs3:=HR.out.2.2.size
    have hcw:=HR.out.2.1.lt
    go_wp2_with fail
    refine (qft W0 c len cap wr.heap.size 2 2 a0 quf _ (HR.out.2.1.alloc _) (by omega) (by omega) (by simp) (by omega) (qug wr)).mono ?_
    rintro e w3 ⟨y,rfl,hc3,hg3⟩
    have HL3:Hid (Lst w3 w.heap.size u9 k):=(HR.out.1.kept (World.grownBy_alloc _ _ none) (fun j hj=>by cases hj)).kept hg3 (fun j hj=>by cases hj;exact hcl)
    have HC3:Hid (Cur w3 W0 c a0 len cap):=hc3
    have HG3:Hid (w.grownBy w3 (some c)):=(HR.out.2.2.trans (World.grownBy_alloc _ _ _)).trans hg3
    have hs4:=HG3.out.size
    clear hc3 hg3 HR
    go_wp2_with (at_builtin;refine qeu w3 rfl _ _ rfl w.heap.size u9 k rfl HL3.out y 0 0 0 0 rfl (by omega) hs4 ?_;intro v' w4 hl4 hg4;have HR4:Hid (Lst w4 w.heap.size v' (k+1)/\Cur w4 W0 c a0 len cap/\w.grownBy w4 (some c)):=⟨hl4,Lst.cur HL3.out HC3.out hg4 hcl hcg,(HG3.out.trans (World.grownBy_alloc _ _ _)).andThen hg4 (fun j hj=>.inl (HL3.out.own j hj))⟩;clear hl4 hg4 HL3 HC3 HG3)
    go_ret
    exact ⟨_,k+1,rfl,by omega,HR4.out⟩
theorem qin (W0 c len cap:Nat) (a0:Option Addr) (me:Int) (w:World) (hc:Cur w W0 c a0 len cap) (m1:0<=me) (m2:me<3):
  Calls Tryz.prog 115 #[.pointer (some (aQ c 0)),.int .i64 3,.int .i64 me] w fun e w'=>∃ (v:Value) (n:Nat),e=.returned v/\(1<=n/\n<=11)/\Lst w' w.heap.size v n/\Cur w' W0 c a0 len cap/\w.grownBy w' (some c):=
 qe4 W0 c len cap a0 3 me w hc m1 m2 (by omega)
