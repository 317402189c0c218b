import Derived.Test.YtpehpclhdgpjkaaGreatDoorXe0
import Derived.Test.YtpehpclhdgpjkaaGreatDoorXe18
import Derived.Test.YtpehpclhdgpjkaaGreatDoorXe12
import Derived.Test.YtpehpclhdgpjkaaGreatDoorXe23
import Derived.Test.YtpehpclhdgpjkaaGreatDoorXe21
import Derived.Test.YtpehpclhdgpjkaaGreatDoorXe26
import Derived.Test.YtpehpclhdgpjkaaGreatDoorXe24
import Derived.Deep.Cut
import Derived.Test.YtpehpclhdgpjkaaGreatDoorRows
import Derived.Test.YtpehpclhdgpjkaaGreatDoorTie
import Derived.ChangeSame
import Derived.ChangeVars
import Derived.JoinedOf
import Derived.RowKit
import Derived.RowKitTokens
import Derived.LaidLaws
import Derived.LaidHandle
import Derived.Stop.Joined
namespace Go.Proofs.YtpehpclhdgpjkaaGreatDoor
set_option maxRecDepth 100000
set_option maxHeartbeats 4000000
open Go.ChangeShapes Go.WideShapes Go.ChangeAt Go.RowKit Go.Deep
def mkI (k:Int) (i:Nat):I5:=⟨k+5*i,k+5*i+1,k+5*i+1+1,k+5*i+1+1+1,k+5*i+1+1+1+1⟩
def mkT (k:Int) (i:Nat):I2:=⟨(k+2*i) % 3 == 0,k+2*i+1⟩
def mkEv (k:Int) (i:Nat):E3:=⟨k+3*i,k+3*i+1,k+3*i+1+1⟩
theorem flat_set2_ {f:Nat->List Value} {n i:Nat} (hl:∀ j,j<n->(f j).length=2) (hi:i<n) (a b:Value):
  flat (fun j=>if j=i then [a,b] else f j) n=((flat f n).set (i*2) a).set (i*2+1) b:=by
 have hl':∀ j,j<n->((fun j=>if j=i then [a,b] else f j) j).length=2:=fun j hj=>by
  by_cases e:j=i
  ·simp [e]
  ·simp [e,hl j hj]
 have n1:=flat_len hl
 have n2:=flat_len hl'
 apply List.ext_getElem?
 intro q
 by_cases hq:q<n*2
 ·have hk:q / 2<n:=by omega
  have hr:q % 2<2:=by omega
  have e0:q=q / 2*2+q % 2:=by omega
  have e1:=flat_at hl' hk hr
  have e2:=flat_at hl hk hr
  rw [<- e0] at e1 e2
  rw [e1]
  by_cases ei:q / 2=i
  ·simp only [if_pos ei]
   have hrK:q % 2=0\/q % 2=1:=by omega
   rcases hrK with h | h <;> rw [h] <;>
    (simp only [List.getElem?_set, List.length_set, n1]
     have:i<n:=hi
     repeat (first | rw [if_pos (by omega)] | rw [if_neg (by omega)])
     simp)
  ·simp only [if_neg ei]
   simp only [List.getElem?_set,List.length_set,n1]
   repeat rw [if_neg (by omega)]
   rw [e2]
 ·rw [List.getElem?_eq_none (by omega),List.getElem?_eq_none (by simp only [List.length_set];omega)]
theorem flat_set3_ {f:Nat->List Value} {n i:Nat} (hl:∀ j,j<n->(f j).length=3) (hi:i<n) (a b c:Value):
  flat (fun j=>if j=i then [a,b,c] else f j) n=(((flat f n).set (i*3) a).set (i*3+1) b).set (i*3+2) c:=by
 have hl':∀ j,j<n->((fun j=>if j=i then [a,b,c] else f j) j).length=3:=fun j hj=>by
  by_cases e:j=i
  ·simp [e]
  ·simp [e,hl j hj]
 have n1:=flat_len hl
 have n2:=flat_len hl'
 apply List.ext_getElem?
 intro q
 by_cases hq:q<n*3
 ·have hk:q / 3<n:=by omega
  have hr:q % 3<3:=by omega
  have e0:q=q / 3*3+q % 3:=by omega
  have e1:=flat_at hl' hk hr
  have e2:=flat_at hl hk hr
  rw [<- e0] at e1 e2
  rw [e1]
  by_cases ei:q / 3=i
  ·simp only [if_pos ei]
   have hrK:q % 3=0\/q % 3=1\/q % 3=2:=by omega
   rcases hrK with h | h | h <;> rw [h] <;>
    (simp only [List.getElem?_set, List.length_set, n1]
     have:i<n:=hi
     repeat (first | rw [if_pos (by omega)] | rw [if_neg (by omega)])
     simp)
  ·simp only [if_neg ei]
   simp only [List.getElem?_set,List.length_set,n1]
   repeat rw [if_neg (by omega)]
   rw [e2]
 ·rw [List.getElem?_eq_none (by omega),List.getElem?_eq_none (by simp only [List.length_set];omega)]
theorem flat_set5_ {f:Nat->List Value} {n i:Nat} (hl:∀ j,j<n->(f j).length=5) (hi:i<n) (a b c d e:Value):
  flat (fun j=>if j=i then [a,b,c,d,e] else f j) n=(((((flat f n).set (i*5) a).set (i*5+1) b).set (i*5+2) c).set (i*5+3) d).set (i*5+4) e:=by
 have hl':∀ j,j<n->((fun j=>if j=i then [a,b,c,d,e] else f j) j).length=5:=fun j hj=>by
  by_cases e:j=i
  ·simp [e]
  ·simp [e,hl j hj]
 have n1:=flat_len hl
 have n2:=flat_len hl'
 apply List.ext_getElem?
 intro q
 by_cases hq:q<n*5
 ·have hk:q / 5<n:=by omega
  have hr:q % 5<5:=by omega
  have e0:q=q / 5*5+q % 5:=by omega
  have e1:=flat_at hl' hk hr
  have e2:=flat_at hl hk hr
  rw [<- e0] at e1 e2
  rw [e1]
  by_cases ei:q / 5=i
  ·simp only [if_pos ei]
   have hrK:q % 5=0\/q % 5=1\/q % 5=2\/q % 5=3\/q % 5=4:=by omega
   rcases hrK with h | h | h | h | h <;> rw [h] <;>
    (simp only [List.getElem?_set, List.length_set, n1]
     have:i<n:=hi
     repeat (first | rw [if_pos (by omega)] | rw [if_neg (by omega)])
     simp)
  ·simp only [if_neg ei]
   simp only [List.getElem?_set,List.length_set,n1]
   repeat rw [if_neg (by omega)]
   rw [e2]
 ·rw [List.getElem?_eq_none (by omega),List.getElem?_eq_none (by simp only [List.length_set];omega)]
theorem markInsS_own (b n cap B:Nat) (h:Nat->I5) (k:Int) (w:World) (hlen:n<=1048576) (k0:0<=k) (k1:k<=100000000) (o:w.ownsRow B 43 5 (.slice (some ⟨b,0,none⟩) n cap) n (fI h n)):
  Calls Tryz.prog 60 #[.slice (some ⟨b,0,none⟩) n cap,.int .i64 k] w fun e w'=>e=.returned (.int .i64 (k+5*n))/\w.grownBy w' (some b)/\w'.ownsRow B 43 5 (.slice (some ⟨b,0,none⟩) n cap) n (fI (mkI k) n):=by
 have hl':(n:Int)<=1048576:=by omega
 have HO:Hid (w.ownsRow B 43 5 (.slice (some ⟨b,0,none⟩) n cap) n (fI h n)):=o
 clear o
 go_enter Tryz.func60,Tryz.ntmps60
 go_wp2_with fail
 go_loopw [1,5] (fun q i wr=>∃ j:Nat,j<=n/\i=.int .i64 j/\q=.int .i64 (k+5*j)/\Hid (wr.ownsRow B 43 5 (.slice (some ⟨b,0,none⟩) n cap) n (flat (fun t=>cI (if t<j then mkI k t else h t)) n)/\w.grownBy wr (some b))) (fun _ i _=>n - (intOf i).toNat)
 case atStart=>
  refine ⟨0,Nat.zero_le _,rfl,by simp,?_,World.grownBy.refl _ _⟩
  have e:flat (fun t=>cI (if t<0 then mkI k t else h t)) n=fI h n:=flat_congr fun t _=>by rw [if_neg (by omega)]
  rw [e]
  exact HO.out
 case round=>
  clear HO
  obtain ⟨j,hj,rfl,rfl,HR⟩:=hrel
  by_cases hlt:j<n
  ·have hlt':(j:Int)<(n:Int):=by omega
   have hc:∀ r,r<5->wr.cell? ⟨b,j*5+r,none⟩=(cI (h j))[r]?:=fun r hr=>by
    rw [HR.out.1.cellAt _ (by omega)]
    have e:=flat_at (sz:=5) (f:=(fun t=>cI (if t<j then mkI k t else h t))) (n:=n) (fun _ _=>rfl) hlt hr
    rw [if_neg (by omega)] at e
    exact e
   have c0:=hc 0 (by omega)
   have c1:=hc 1 (by omega)
   have c2:=hc 2 (by omega)
   have c3:=hc 3 (by omega)
   have c4:=hc 4 (by omega)
   simp only [cI,Nat.add_zero,List.getElem?_cons_zero,List.getElem?_cons_succ] at c0 c1 c2 c3 c4
   have fz:∀ o,wr.frozen? ⟨b,o,none⟩=false:=fun o=>HR.out.1.frozenAt o
   clear hc
   go_wp2
   go_roundw
   case rel=>
    refine ⟨j+1,by omega,by go_num,by go_num,?_,?_⟩
    ·have e:flat (fun t=>cI (if t<j+1 then mkI k t else h t)) n=flat (fun t=>if t=j then cI (mkI k j) else (fun t=>cI (if t<j then mkI k t else h t)) t) n:=flat_congr fun t _=>by
      by_cases e:t=j
      ·rw [if_pos e,if_pos (by omega),e]
      ·rw [if_neg e]
       show cI (if t<j+1 then mkI k t else h t)=cI (if t<j then mkI k t else h t)
       by_cases e2:t<j
       ·rw [if_pos e2,if_pos (by omega)]
       ·rw [if_neg e2,if_neg (by omega)]
     have e2:=flat_set5_ (f:=(fun t=>cI (if t<j then mkI k t else h t))) (n:=n) (i:=j) (fun _ _=>rfl) hlt (.int .i64 (k+5*(j:Int))) (.int .i64 (k+5*(j:Int)+1)) (.int .i64 (k+5*(j:Int)+1+1)) (.int .i64 (k+5*(j:Int)+1+1+1)) (.int .i64 (k+5*(j:Int)+1+1+1+1))
     rw [e]
     refine Eq.mpr (congrArg (fun l=>World.ownsRow _ B 43 5 (.slice (some ⟨b,0,none⟩) n cap) n l) e2) ?_
     exact (World.ownsRow.stored (World.ownsRow.stored (World.ownsRow.stored (World.ownsRow.stored (World.ownsRow.stored HR.out.1 (j*5) (.int .i64 (k+5*(j:Int)))).1 (j*5+1) (.int .i64 (k+5*(j:Int)+1))).1 (j*5+2) (.int .i64 (k+5*(j:Int)+1+1))).1 (j*5+3) (.int .i64 (k+5*(j:Int)+1+1+1))).1 (j*5+4) (.int .i64 (k+5*(j:Int)+1+1+1+1))).1
    ·repeat (refine zU ?_ (.inl rfl) _)
     exact HR.out.2
   case measure=>simp [intOf];omega
  ·have hjl:j=n:=by omega
   subst hjl
   have HF:Hid (w.grownBy wr (some b)/\wr.ownsRow B 43 5 (.slice (some ⟨b,0,none⟩) j cap) j (fI (mkI k) j)):=by
    refine ⟨HR.out.2,?_⟩
    have e:flat (fun t=>cI (if t<j then mkI k t else h t)) j=fI (mkI k) j:=flat_congr fun t ht=>by rw [if_pos ht]
    have:=HR.out.1
    rw [e] at this
    exact this
   clear HR
   go_wp2
   go_ret
   exact ⟨rfl,HF.out⟩
theorem heldInsS_own (b n cap:Nat) (k:Int) (w:World) (hlen:n<=1048576) (k0:0<=k) (k1:k<=100000000) (hb:b<w.heap.size) (h:InsAt w b 0 n (mkI k)):
  Calls Tryz.prog 64 #[.slice (some ⟨b,0,none⟩) n cap,.int .i64 k] w fun e w'=>e=.returned (.int .i64 (k+5*n))/\Below w.heap.size w w':=by
 have hl':(n:Int)<=1048576:=by omega
 have HO:Hid (InsAt w b 0 n (mkI k)/\b<w.heap.size):=⟨h,hb⟩
 clear h hb
 go_enter Tryz.func64,Tryz.ntmps64
 go_wp2_with fail
 go_loopw [1,5] (fun q i wr=>∃ j:Nat,j<=n/\i=.int .i64 j/\q=.int .i64 (k+5*j)/\Below w.heap.size w wr) (fun _ i _=>n - (intOf i).toNat)
 case atStart=>exact ⟨0,Nat.zero_le _,rfl,by simp,Below.refl _ _⟩
 case round=>
  obtain ⟨j,hj,rfl,rfl,hbw⟩:=hrel
  by_cases hlt:j<n
  ·have hlt':(j:Int)<(n:Int):=by omega
   obtain ⟨d0,d1,d2,d3,d4⟩:=HO.out.1 j hlt
   have c0:wr.cell? ⟨b,j*5,none⟩=some (.int .i64 (k+5*(j:Int))):=(hbw.cell (p:=⟨b,j*5,none⟩) HO.out.2).trans (by have d:=d0;rw [Nat.zero_add] at d;exact d)
   have c1:wr.cell? ⟨b,j*5+1,none⟩=some (.int .i64 (k+5*(j:Int)+1)):=(hbw.cell (p:=⟨b,j*5+1,none⟩) HO.out.2).trans (by have d:=d1;rw [Nat.zero_add] at d;exact d)
   have c2:wr.cell? ⟨b,j*5+2,none⟩=some (.int .i64 (k+5*(j:Int)+1+1)):=(hbw.cell (p:=⟨b,j*5+2,none⟩) HO.out.2).trans (by have d:=d2;rw [Nat.zero_add] at d;exact d)
   have c3:wr.cell? ⟨b,j*5+3,none⟩=some (.int .i64 (k+5*(j:Int)+1+1+1)):=(hbw.cell (p:=⟨b,j*5+3,none⟩) HO.out.2).trans (by have d:=d3;rw [Nat.zero_add] at d;exact d)
   have c4:wr.cell? ⟨b,j*5+4,none⟩=some (.int .i64 (k+5*(j:Int)+1+1+1+1)):=(hbw.cell (p:=⟨b,j*5+4,none⟩) HO.out.2).trans (by have d:=d4;rw [Nat.zero_add] at d;exact d)
   clear d0 d1 d2 d3 d4
   go_wp2
   go_roundw
   case rel=>exact ⟨j+1,by omega,by go_num,by go_num,hbw⟩
   case measure=>simp [intOf];omega
  ·have hjl:j=n:=by omega
   subst hjl
   go_wp2
   go_ret
   exact ⟨rfl,hbw⟩
theorem markItemS_own (b n cap B:Nat) (h:Nat->I2) (k:Int) (w:World) (hlen:n<=1048576) (k0:0<=k) (k1:k<=100000000) (o:w.ownsRow B 81 2 (.slice (some ⟨b,0,none⟩) n cap) n (fT h n)):
  Calls Tryz.prog 62 #[.slice (some ⟨b,0,none⟩) n cap,.int .i64 k] w fun e w'=>e=.returned (.int .i64 (k+2*n))/\w.grownBy w' (some b)/\w'.ownsRow B 81 2 (.slice (some ⟨b,0,none⟩) n cap) n (fT (mkT k) n):=by
 have hl':(n:Int)<=1048576:=by omega
 have HO:Hid (w.ownsRow B 81 2 (.slice (some ⟨b,0,none⟩) n cap) n (fT h n)):=o
 clear o
 go_enter Tryz.func62,Tryz.ntmps62
 go_wp2_with fail
 go_loopw [1,5] (fun q i wr=>∃ j:Nat,j<=n/\i=.int .i64 j/\q=.int .i64 (k+2*j)/\Hid (wr.ownsRow B 81 2 (.slice (some ⟨b,0,none⟩) n cap) n (flat (fun t=>cT (if t<j then mkT k t else h t)) n)/\w.grownBy wr (some b))) (fun _ i _=>n - (intOf i).toNat)
 case atStart=>
  refine ⟨0,Nat.zero_le _,rfl,by simp,?_,World.grownBy.refl _ _⟩
  have e:flat (fun t=>cT (if t<0 then mkT k t else h t)) n=fT h n:=flat_congr fun t _=>by rw [if_neg (by omega)]
  rw [e]
  exact HO.out
 case round=>
  clear HO
  obtain ⟨j,hj,rfl,rfl,HR⟩:=hrel
  by_cases hlt:j<n
  ·have hlt':(j:Int)<(n:Int):=by omega
   have hc:∀ r,r<2->wr.cell? ⟨b,j*2+r,none⟩=(cT (h j))[r]?:=fun r hr=>by
    rw [HR.out.1.cellAt _ (by omega)]
    have e:=flat_at (sz:=2) (f:=(fun t=>cT (if t<j then mkT k t else h t))) (n:=n) (fun _ _=>rfl) hlt hr
    rw [if_neg (by omega)] at e
    exact e
   have c0:=hc 0 (by omega)
   have c1:=hc 1 (by omega)
   simp only [cT,Nat.add_zero,List.getElem?_cons_zero,List.getElem?_cons_succ] at c0 c1
   have fz:∀ o,wr.frozen? ⟨b,o,none⟩=false:=fun o=>HR.out.1.frozenAt o
   clear hc
   go_wp2
   go_roundw
   case rel=>
    refine ⟨j+1,by omega,by go_num,by go_num,?_,?_⟩
    ·have e:flat (fun t=>cT (if t<j+1 then mkT k t else h t)) n=flat (fun t=>if t=j then cT (mkT k j) else (fun t=>cT (if t<j then mkT k t else h t)) t) n:=flat_congr fun t _=>by
      by_cases e:t=j
      ·rw [if_pos e,if_pos (by omega),e]
      ·rw [if_neg e]
       show cT (if t<j+1 then mkT k t else h t)=cT (if t<j then mkT k t else h t)
       by_cases e2:t<j
       ·rw [if_pos e2,if_pos (by omega)]
       ·rw [if_neg e2,if_neg (by omega)]
     have e2:=flat_set2_ (f:=(fun t=>cT (if t<j then mkT k t else h t))) (n:=n) (i:=j) (fun _ _=>rfl) hlt (.bool ((k+2*(j:Int)) % 3 == 0)) (.int .i64 (k+2*(j:Int)+1))
     rw [e]
     refine Eq.mpr (congrArg (fun l=>World.ownsRow _ B 81 2 (.slice (some ⟨b,0,none⟩) n cap) n l) e2) ?_
     exact (World.ownsRow.stored (World.ownsRow.stored HR.out.1 (j*2) (.bool ((k+2*(j:Int)) % 3 == 0))).1 (j*2+1) (.int .i64 (k+2*(j:Int)+1))).1
    ·repeat (refine zU ?_ (.inl rfl) _)
     exact HR.out.2
   case measure=>simp [intOf];omega
  ·have hjl:j=n:=by omega
   subst hjl
   have HF:Hid (w.grownBy wr (some b)/\wr.ownsRow B 81 2 (.slice (some ⟨b,0,none⟩) j cap) j (fT (mkT k) j)):=by
    refine ⟨HR.out.2,?_⟩
    have e:flat (fun t=>cT (if t<j then mkT k t else h t)) j=fT (mkT k) j:=flat_congr fun t ht=>by rw [if_pos ht]
    have:=HR.out.1
    rw [e] at this
    exact this
   clear HR
   go_wp2
   go_ret
   exact ⟨rfl,HF.out⟩
theorem heldItemS_own (b n cap:Nat) (k:Int) (w:World) (hlen:n<=1048576) (k0:0<=k) (k1:k<=100000000) (hb:b<w.heap.size) (h:ItAt w b 0 n (mkT k)):
  Calls Tryz.prog 66 #[.slice (some ⟨b,0,none⟩) n cap,.int .i64 k] w fun e w'=>e=.returned (.int .i64 (k+2*n))/\Below w.heap.size w w':=by
 have hl':(n:Int)<=1048576:=by omega
 have HO:Hid (ItAt w b 0 n (mkT k)/\b<w.heap.size):=⟨h,hb⟩
 clear h hb
 go_enter Tryz.func66,Tryz.ntmps66
 go_wp2_with fail
 go_loopw [1,5] (fun q i wr=>∃ j:Nat,j<=n/\i=.int .i64 j/\q=.int .i64 (k+2*j)/\Below w.heap.size w wr) (fun _ i _=>n - (intOf i).toNat)
 case atStart=>exact ⟨0,Nat.zero_le _,rfl,by simp,Below.refl _ _⟩
 case round=>
  obtain ⟨j,hj,rfl,rfl,hbw⟩:=hrel
  by_cases hlt:j<n
  ·have hlt':(j:Int)<(n:Int):=by omega
   obtain ⟨d0,d1⟩:=HO.out.1 j hlt
   have c0:wr.cell? ⟨b,j*2,none⟩=some (.bool ((k+2*(j:Int)) % 3 == 0)):=(hbw.cell (p:=⟨b,j*2,none⟩) HO.out.2).trans (by have d:=d0;rw [Nat.zero_add] at d;exact d)
   have c1:wr.cell? ⟨b,j*2+1,none⟩=some (.int .i64 (k+2*(j:Int)+1)):=(hbw.cell (p:=⟨b,j*2+1,none⟩) HO.out.2).trans (by have d:=d1;rw [Nat.zero_add] at d;exact d)
   clear d0 d1
   rcases zK ((k+2*(j:Int)) % 3 == 0) with t | t
   ·rw [t] at c0
    go_wp2_with fail
    exact ⟨⟨j+1,by omega,by go_num,by go_num,hbw⟩,by simp [intOf];omega⟩
   ·rw [t] at c0
    go_wp2_with fail
    exact ⟨⟨j+1,by omega,by go_num,by go_num,hbw⟩,by simp [intOf];omega⟩
  ·have hjl:j=n:=by omega
   subst hjl
   go_wp2
   go_ret
   exact ⟨rfl,hbw⟩
theorem markEventS_own (b n cap B:Nat) (h:Nat->E3) (k:Int) (w:World) (hlen:n<=1048576) (k0:0<=k) (k1:k<=100000000) (o:w.ownsRow B 46 3 (.slice (some ⟨b,0,none⟩) n cap) n (fE h n)):
  Calls Tryz.prog 63 #[.slice (some ⟨b,0,none⟩) n cap,.int .i64 k] w fun e w'=>e=.returned (.int .i64 (k+3*n))/\w.grownBy w' (some b)/\w'.ownsRow B 46 3 (.slice (some ⟨b,0,none⟩) n cap) n (fE (mkEv k) n):=by
 have hl':(n:Int)<=1048576:=by omega
 have HO:Hid (w.ownsRow B 46 3 (.slice (some ⟨b,0,none⟩) n cap) n (fE h n)):=o
 clear o
 go_enter Tryz.func63,Tryz.ntmps63
 go_wp2_with fail
 go_loopw [1,5] (fun q i wr=>∃ j:Nat,j<=n/\i=.int .i64 j/\q=.int .i64 (k+3*j)/\Hid (wr.ownsRow B 46 3 (.slice (some ⟨b,0,none⟩) n cap) n (flat (fun t=>cE (if t<j then mkEv k t else h t)) n)/\w.grownBy wr (some b))) (fun _ i _=>n - (intOf i).toNat)
 case atStart=>
  refine ⟨0,Nat.zero_le _,rfl,by simp,?_,World.grownBy.refl _ _⟩
  have e:flat (fun t=>cE (if t<0 then mkEv k t else h t)) n=fE h n:=flat_congr fun t _=>by rw [if_neg (by omega)]
  rw [e]
  exact HO.out
 case round=>
  clear HO
  obtain ⟨j,hj,rfl,rfl,HR⟩:=hrel
  by_cases hlt:j<n
  ·have hlt':(j:Int)<(n:Int):=by omega
   have hc:∀ r,r<3->wr.cell? ⟨b,j*3+r,none⟩=(cE (h j))[r]?:=fun r hr=>by
    rw [HR.out.1.cellAt _ (by omega)]
    have e:=flat_at (sz:=3) (f:=(fun t=>cE (if t<j then mkEv k t else h t))) (n:=n) (fun _ _=>rfl) hlt hr
    rw [if_neg (by omega)] at e
    exact e
   have c0:=hc 0 (by omega)
   have c1:=hc 1 (by omega)
   have c2:=hc 2 (by omega)
   simp only [cE,Nat.add_zero,List.getElem?_cons_zero,List.getElem?_cons_succ] at c0 c1 c2
   have fz:∀ o,wr.frozen? ⟨b,o,none⟩=false:=fun o=>HR.out.1.frozenAt o
   clear hc
   go_wp2
   go_roundw
   case rel=>
    refine ⟨j+1,by omega,by go_num,by go_num,?_,?_⟩
    ·have e:flat (fun t=>cE (if t<j+1 then mkEv k t else h t)) n=flat (fun t=>if t=j then cE (mkEv k j) else (fun t=>cE (if t<j then mkEv k t else h t)) t) n:=flat_congr fun t _=>by
      by_cases e:t=j
      ·rw [if_pos e,if_pos (by omega),e]
      ·rw [if_neg e]
       show cE (if t<j+1 then mkEv k t else h t)=cE (if t<j then mkEv k t else h t)
       by_cases e2:t<j
       ·rw [if_pos e2,if_pos (by omega)]
       ·rw [if_neg e2,if_neg (by omega)]
     have e2:=flat_set3_ (f:=(fun t=>cE (if t<j then mkEv k t else h t))) (n:=n) (i:=j) (fun _ _=>rfl) hlt (.int .i64 (k+3*(j:Int))) (.int .i64 (k+3*(j:Int)+1)) (.int .i64 (k+3*(j:Int)+1+1))
     rw [e]
     refine Eq.mpr (congrArg (fun l=>World.ownsRow _ B 46 3 (.slice (some ⟨b,0,none⟩) n cap) n l) e2) ?_
     exact (World.ownsRow.stored (World.ownsRow.stored (World.ownsRow.stored HR.out.1 (j*3) (.int .i64 (k+3*(j:Int)))).1 (j*3+1) (.int .i64 (k+3*(j:Int)+1))).1 (j*3+2) (.int .i64 (k+3*(j:Int)+1+1))).1
    ·repeat (refine zU ?_ (.inl rfl) _)
     exact HR.out.2
   case measure=>simp [intOf];omega
  ·have hjl:j=n:=by omega
   subst hjl
   have HF:Hid (w.grownBy wr (some b)/\wr.ownsRow B 46 3 (.slice (some ⟨b,0,none⟩) j cap) j (fE (mkEv k) j)):=by
    refine ⟨HR.out.2,?_⟩
    have e:flat (fun t=>cE (if t<j then mkEv k t else h t)) j=fE (mkEv k) j:=flat_congr fun t ht=>by rw [if_pos ht]
    have:=HR.out.1
    rw [e] at this
    exact this
   clear HR
   go_wp2
   go_ret
   exact ⟨rfl,HF.out⟩
theorem heldEventS_own (b n cap:Nat) (k:Int) (w:World) (hlen:n<=1048576) (k0:0<=k) (k1:k<=100000000) (hb:b<w.heap.size) (h:EvAt w b 0 n (mkEv k)):
  Calls Tryz.prog 67 #[.slice (some ⟨b,0,none⟩) n cap,.int .i64 k] w fun e w'=>e=.returned (.int .i64 (k+3*n))/\Below w.heap.size w w':=by
 have hl':(n:Int)<=1048576:=by omega
 have HO:Hid (EvAt w b 0 n (mkEv k)/\b<w.heap.size):=⟨h,hb⟩
 clear h hb
 go_enter Tryz.func67,Tryz.ntmps67
 go_wp2_with fail
 go_loopw [1,5] (fun q i wr=>∃ j:Nat,j<=n/\i=.int .i64 j/\q=.int .i64 (k+3*j)/\Below w.heap.size w wr) (fun _ i _=>n - (intOf i).toNat)
 case atStart=>exact ⟨0,Nat.zero_le _,rfl,by simp,Below.refl _ _⟩
 case round=>
  obtain ⟨j,hj,rfl,rfl,hbw⟩:=hrel
  by_cases hlt:j<n
  ·have hlt':(j:Int)<(n:Int):=by omega
   obtain ⟨d0,d1,d2⟩:=HO.out.1 j hlt
   have c0:wr.cell? ⟨b,j*3,none⟩=some (.int .i64 (k+3*(j:Int))):=(hbw.cell (p:=⟨b,j*3,none⟩) HO.out.2).trans (by have d:=d0;rw [Nat.zero_add] at d;exact d)
   have c1:wr.cell? ⟨b,j*3+1,none⟩=some (.int .i64 (k+3*(j:Int)+1)):=(hbw.cell (p:=⟨b,j*3+1,none⟩) HO.out.2).trans (by have d:=d1;rw [Nat.zero_add] at d;exact d)
   have c2:wr.cell? ⟨b,j*3+2,none⟩=some (.int .i64 (k+3*(j:Int)+1+1)):=(hbw.cell (p:=⟨b,j*3+2,none⟩) HO.out.2).trans (by have d:=d2;rw [Nat.zero_add] at d;exact d)
   clear d0 d1 d2
   go_wp2
   go_roundw
   case rel=>exact ⟨j+1,by omega,by go_num,by go_num,hbw⟩
   case measure=>simp [intOf];omega
  ·have hjl:j=n:=by omega
   subst hjl
   go_wp2
   go_ret
   exact ⟨rfl,hbw⟩
section
variable {e:TypeId} {sz:Nat} {E:TypeId} {w:World} {P:Nat->Prop} {v:Value} {n:Nat} {u:Nat->Value} {L:Nat->Nat} {c:Nat->List Value}
theorem LL.remark (o:LL true e sz E w P v n u L c) {i:Nat} (hi:i<n) {w1:World} {c':List Value} (hu:w1.ownsRow 0 e sz (u i) (L i) c') (g:∀ k,k<w.heap.size->(u i).ownBlock≠some k->w1.heap[k]? = w.heap[k]?):LL true e sz E w1 P v n u L (fun j=>if j=i then c' else c j):=by
 refine ⟨ownsRow_blkL o.row fun k hk=>g k (o.row.lt k hk).2 fun e=>o.ra i hi k e hk,fun j hj=>?_,o.rb,o.ob,o.ra,o.oa,o.nn⟩
 by_cases ej:j=i
 ·subst ej
  simp only [if_true]
  exact hu
 ·simp only [if_neg ej]
  exact ownsRow_blkL (o.own j hj) fun k hk=>g k ((o.own j hj).lt k hk).2 fun e=>o.oa j i hj hi ej k hk e
theorem LL.cast (o:LL true e sz E w P v n u L c) {c':Nat->List Value} (h:∀ i,i<n->c i=c' i):LL true e sz E w P v n u L c':=
 ⟨o.row,fun i hi=>by rw [<- h i hi];exact o.own i hi,o.rb,o.ob,o.ra,o.oa,o.nn⟩
end
theorem markInsSS_own (v:Value) (P:Nat->Prop) (n:Nat) (u:Nat->Value) (L:Nat->Nat) (H:Nat->Nat->I5) (k:Int) (w:World) (hn:n<=1048576) (hl:sumL L n<=1048576) (k0:0<=k) (k1:k<=50000000) (o:LI true w P v n u L H):
  Calls Tryz.prog 23 #[v,.int .i64 k] w fun e w'=>e=.returned (.int .i64 (k+5*(sumL L n:Nat)))/\LI true w' P v n u L (fun i=>mkI (k+5*(sumL L i:Nat)))/\Touch P w w':=by
 have hl':(n:Int)<=1048576:=by omega
 obtain ⟨a1,c1,rfl⟩:=zT o.row
 have O:Hid (LI true w P (.slice a1 n c1) n u L H):=o
 have HL:Hid (sumL L n<=1048576):=hl
 clear o hl
 go_enter Tryz.func23,Tryz.ntmps23
 go_wp2_with fail
 go_loopw [1,5] (fun q i wr=>∃ j:Nat,j<=n/\i=.int .i64 j/\q=.int .i64 (k+5*(sumL L j:Nat))/\Hid (LL true 43 5 41 wr P (.slice a1 n c1) n u L (fun t=>fI (if t<j then mkI (k+5*(sumL L t:Nat)) else H t) (L t))/\Touch P w wr)) (fun _ i _=>n - (intOf i).toNat)
 case atStart=>exact ⟨0,Nat.zero_le _,rfl,by simp [sumL],O.out.cast fun i _=>by rw [if_neg (by omega)],Touch.refl _ _⟩
 case round=>
  obtain ⟨j,hj,rfl,rfl,HT⟩:=hrel
  by_cases hlt:j<n
  ·have hlt':(j:Int)<(n:Int):=by omega
   obtain ⟨g1,m1,e1,-,-,ck,-⟩:=HT.out.1.cell hlt
   obtain rfl:=slice_form e1
   have how:=HT.out.1.own j hlt
   rw [if_neg (by omega)] at how
   obtain ⟨b,m,f1,lb,-,-⟩:=atI how (HT.out.1.nn (nzT _) j hlt)
   rw [f1] at ck how
   have OW:Hid (wr.ownsRow 0 43 5 (.slice (some ⟨b,0,none⟩) (L j) m) (L j) (fI (H j) (L j))):=how
   have HU:Hid (u j=.slice (some ⟨b,0,none⟩) (L j) m):=f1
   have hsl:=sumL_at L hlt
   have hS:=HL.out
   have e1':k+5*(sumL L j:Nat)+5*(L j:Int)=k+5*(sumL L (j+1):Nat):=by simp only [sumL];omega
   have HE:Hid (k+5*(sumL L j:Nat)+5*(L j:Int)=k+5*(sumL L (j+1):Nat)):=e1'
   have e2:0<=k+5*(sumL L j:Nat):=by omega
   have e3:k+5*(sumL L j:Nat)<=100000000:=by omega
   have e4:L j<=1048576:=by omega
   clear e1' hS hsl how f1 e1
   go_wp2_with fail
   refine (markInsS_own b (L j) m 0 (H j) _ wr e4 e2 e3 OW.out).mono ?_
   rintro e w1 ⟨rfl,g1',o1⟩
   rw [HE.out]
   have HT1:Hid (LL true 43 5 41 w1 P (.slice (some ⟨g1,0,none⟩) n c1) n u L (fun t=>fI (if t<j+1 then mkI (k+5*(sumL L t:Nat)) else H t) (L t))/\Touch P w w1):=by
    refine ⟨(HT.out.1.remark hlt (c':=fI (mkI (k+5*(sumL L j:Nat))) (L j)) (by rw [HU.out];exact o1) fun q hq hne=>g1'.block q hq fun e=>hne (by rw [HU.out,e];rfl)).cast fun t ht=>?_,HT.out.2.trans (Touch.of_grown g1' fun q e=>HT.out.1.ob j hlt q (by rw [HU.out,<- e];rfl))⟩
    by_cases et:t=j
    ·rw [if_pos et,if_pos (by omega),et]
    ·rw [if_neg et]
     by_cases e2:t<j
     ·rw [if_pos e2,if_pos (by omega)]
     ·rw [if_neg e2,if_neg (by omega)]
   clear HT e2 e3 e4 g1' o1 ck
   go_wp2
   go_roundw
   case rel=>exact ⟨j+1,by omega,by go_num,rfl,HT1.out⟩
   case measure=>simp [intOf];omega
  ·have hkl:j=n:=by omega
   subst hkl
   have HT1:Hid (LI true wr P (.slice a1 j c1) j u L (fun i=>mkI (k+5*(sumL L i:Nat)))/\Touch P w wr):=⟨HT.out.1.cast fun t ht=>by rw [if_pos ht],HT.out.2⟩
   clear HT
   go_wp2
   go_ret
   exact ⟨rfl,HT1.out⟩
theorem heldInsSS_own (v:Value) (P:Nat->Prop) (n:Nat) (u:Nat->Value) (L:Nat->Nat) (k:Int) (w:World) (hn:n<=1048576) (hl:sumL L n<=1048576) (k0:0<=k) (k1:k<=50000000) (o:LI true w P v n u L (fun i=>mkI (k+5*(sumL L i:Nat)))):
  Calls Tryz.prog 27 #[v,.int .i64 k] w fun e w'=>e=.returned (.int .i64 (k+5*(sumL L n:Nat)))/\Below w.heap.size w w':=by
 have hl':(n:Int)<=1048576:=by omega
 obtain ⟨a1,c1,rfl⟩:=zT o.row
 have O:Hid (LI true w P (.slice a1 n c1) n u L (fun i=>mkI (k+5*(sumL L i:Nat)))):=o
 have HL:Hid (sumL L n<=1048576):=hl
 clear o hl
 go_enter Tryz.func27,Tryz.ntmps27
 go_wp2_with fail
 go_loopw [1,5] (fun q i wr=>∃ j:Nat,j<=n/\i=.int .i64 j/\q=.int .i64 (k+5*(sumL L j:Nat))/\Below w.heap.size w wr) (fun _ i _=>n - (intOf i).toNat)
 case atStart=>exact ⟨0,Nat.zero_le _,rfl,by simp [sumL],Below.refl _ _⟩
 case round=>
  obtain ⟨j,hj,rfl,rfl,hbw⟩:=hrel
  by_cases hlt:j<n
  ·have hlt':(j:Int)<(n:Int):=by omega
   have Q:=O.out.below hbw
   obtain ⟨g1,m1,e1,-,-,ck,-⟩:=Q.cell hlt
   obtain rfl:=slice_form e1
   obtain ⟨b,m,f1,lb,it,-⟩:=atI (Q.own j hlt) (Q.nn (nzT _) j hlt)
   rw [f1] at ck
   have IT:Hid (InsAt wr b 0 (L j) (mkI (k+5*(sumL L j:Nat)))/\b<wr.heap.size):=⟨it,lb⟩
   have hsl:=sumL_at L hlt
   have hS:=HL.out
   have e1':k+5*(sumL L j:Nat)+5*(L j:Int)=k+5*(sumL L (j+1):Nat):=by simp only [sumL];omega
   have HE:Hid (k+5*(sumL L j:Nat)+5*(L j:Int)=k+5*(sumL L (j+1):Nat)):=e1'
   have e2:0<=k+5*(sumL L j:Nat):=by omega
   have e3:k+5*(sumL L j:Nat)<=100000000:=by omega
   have e4:L j<=1048576:=by omega
   have e5:¬ (k+5*(sumL L (j+1):Nat)<0):=by omega
   clear e1' hS hsl Q f1 it lb e1
   go_wp2_with fail
   refine (heldInsS_own b (L j) m _ wr e4 e2 e3 IT.out.2 IT.out.1).mono ?_
   rintro e w1 ⟨rfl,b1⟩
   rw [HE.out]
   have B1:Hid (Below w.heap.size w w1):=hbw.trans (b1.mono hbw.size)
   clear b1 e2 e3 e4 ck hbw
   go_wp2
   go_roundw
   case rel=>exact ⟨j+1,by omega,by go_num,rfl,B1.out⟩
   case measure=>simp [intOf];omega
  ·have hkl:j=n:=by omega
   subst hkl
   go_wp2
   go_ret
   exact ⟨rfl,hbw⟩
theorem markItemSS_own (v:Value) (P:Nat->Prop) (n:Nat) (u:Nat->Value) (L:Nat->Nat) (H:Nat->Nat->I2) (k:Int) (w:World) (hn:n<=1048576) (hl:sumL L n<=1048576) (k0:0<=k) (k1:k<=50000000) (o:LT true w P v n u L H):
  Calls Tryz.prog 25 #[v,.int .i64 k] w fun e w'=>e=.returned (.int .i64 (k+2*(sumL L n:Nat)))/\LT true w' P v n u L (fun i=>mkT (k+2*(sumL L i:Nat)))/\Touch P w w':=by
 have hl':(n:Int)<=1048576:=by omega
 obtain ⟨a1,c1,rfl⟩:=zT o.row
 have O:Hid (LT true w P (.slice a1 n c1) n u L H):=o
 have HL:Hid (sumL L n<=1048576):=hl
 clear o hl
 go_enter Tryz.func25,Tryz.ntmps25
 go_wp2_with fail
 go_loopw [1,5] (fun q i wr=>∃ j:Nat,j<=n/\i=.int .i64 j/\q=.int .i64 (k+2*(sumL L j:Nat))/\Hid (LL true 81 2 79 wr P (.slice a1 n c1) n u L (fun t=>fT (if t<j then mkT (k+2*(sumL L t:Nat)) else H t) (L t))/\Touch P w wr)) (fun _ i _=>n - (intOf i).toNat)
 case atStart=>exact ⟨0,Nat.zero_le _,rfl,by simp [sumL],O.out.cast fun i _=>by rw [if_neg (by omega)],Touch.refl _ _⟩
 case round=>
  obtain ⟨j,hj,rfl,rfl,HT⟩:=hrel
  by_cases hlt:j<n
  ·have hlt':(j:Int)<(n:Int):=by omega
   obtain ⟨g1,m1,e1,-,-,ck,-⟩:=HT.out.1.cell hlt
   obtain rfl:=slice_form e1
   have how:=HT.out.1.own j hlt
   rw [if_neg (by omega)] at how
   obtain ⟨b,m,f1,lb,-,-⟩:=atT how (HT.out.1.nn (nzT _) j hlt)
   rw [f1] at ck how
   have OW:Hid (wr.ownsRow 0 81 2 (.slice (some ⟨b,0,none⟩) (L j) m) (L j) (fT (H j) (L j))):=how
   have HU:Hid (u j=.slice (some ⟨b,0,none⟩) (L j) m):=f1
   have hsl:=sumL_at L hlt
   have hS:=HL.out
   have e1':k+2*(sumL L j:Nat)+2*(L j:Int)=k+2*(sumL L (j+1):Nat):=by simp only [sumL];omega
   have HE:Hid (k+2*(sumL L j:Nat)+2*(L j:Int)=k+2*(sumL L (j+1):Nat)):=e1'
   have e2:0<=k+2*(sumL L j:Nat):=by omega
   have e3:k+2*(sumL L j:Nat)<=100000000:=by omega
   have e4:L j<=1048576:=by omega
   clear e1' hS hsl how f1 e1
   go_wp2_with fail
   refine (markItemS_own b (L j) m 0 (H j) _ wr e4 e2 e3 OW.out).mono ?_
   rintro e w1 ⟨rfl,g1',o1⟩
   rw [HE.out]
   have HT1:Hid (LL true 81 2 79 w1 P (.slice (some ⟨g1,0,none⟩) n c1) n u L (fun t=>fT (if t<j+1 then mkT (k+2*(sumL L t:Nat)) else H t) (L t))/\Touch P w w1):=by
    refine ⟨(HT.out.1.remark hlt (c':=fT (mkT (k+2*(sumL L j:Nat))) (L j)) (by rw [HU.out];exact o1) fun q hq hne=>g1'.block q hq fun e=>hne (by rw [HU.out,e];rfl)).cast fun t ht=>?_,HT.out.2.trans (Touch.of_grown g1' fun q e=>HT.out.1.ob j hlt q (by rw [HU.out,<- e];rfl))⟩
    by_cases et:t=j
    ·rw [if_pos et,if_pos (by omega),et]
    ·rw [if_neg et]
     by_cases e2:t<j
     ·rw [if_pos e2,if_pos (by omega)]
     ·rw [if_neg e2,if_neg (by omega)]
   clear HT e2 e3 e4 g1' o1 ck
   go_wp2
   go_roundw
   case rel=>exact ⟨j+1,by omega,by go_num,rfl,HT1.out⟩
   case measure=>simp [intOf];omega
  ·have hkl:j=n:=by omega
   subst hkl
   have HT1:Hid (LT true wr P (.slice a1 j c1) j u L (fun i=>mkT (k+2*(sumL L i:Nat)))/\Touch P w wr):=⟨HT.out.1.cast fun t ht=>by rw [if_pos ht],HT.out.2⟩
   clear HT
   go_wp2
   go_ret
   exact ⟨rfl,HT1.out⟩
theorem heldItemSS_own (v:Value) (P:Nat->Prop) (n:Nat) (u:Nat->Value) (L:Nat->Nat) (k:Int) (w:World) (hn:n<=1048576) (hl:sumL L n<=1048576) (k0:0<=k) (k1:k<=50000000) (o:LT true w P v n u L (fun i=>mkT (k+2*(sumL L i:Nat)))):
  Calls Tryz.prog 29 #[v,.int .i64 k] w fun e w'=>e=.returned (.int .i64 (k+2*(sumL L n:Nat)))/\Below w.heap.size w w':=by
 have hl':(n:Int)<=1048576:=by omega
 obtain ⟨a1,c1,rfl⟩:=zT o.row
 have O:Hid (LT true w P (.slice a1 n c1) n u L (fun i=>mkT (k+2*(sumL L i:Nat)))):=o
 have HL:Hid (sumL L n<=1048576):=hl
 clear o hl
 go_enter Tryz.func29,Tryz.ntmps29
 go_wp2_with fail
 go_loopw [1,5] (fun q i wr=>∃ j:Nat,j<=n/\i=.int .i64 j/\q=.int .i64 (k+2*(sumL L j:Nat))/\Below w.heap.size w wr) (fun _ i _=>n - (intOf i).toNat)
 case atStart=>exact ⟨0,Nat.zero_le _,rfl,by simp [sumL],Below.refl _ _⟩
 case round=>
  obtain ⟨j,hj,rfl,rfl,hbw⟩:=hrel
  by_cases hlt:j<n
  ·have hlt':(j:Int)<(n:Int):=by omega
   have Q:=O.out.below hbw
   obtain ⟨g1,m1,e1,-,-,ck,-⟩:=Q.cell hlt
   obtain rfl:=slice_form e1
   obtain ⟨b,m,f1,lb,it,-⟩:=atT (Q.own j hlt) (Q.nn (nzT _) j hlt)
   rw [f1] at ck
   have IT:Hid (ItAt wr b 0 (L j) (mkT (k+2*(sumL L j:Nat)))/\b<wr.heap.size):=⟨it,lb⟩
   have hsl:=sumL_at L hlt
   have hS:=HL.out
   have e1':k+2*(sumL L j:Nat)+2*(L j:Int)=k+2*(sumL L (j+1):Nat):=by simp only [sumL];omega
   have HE:Hid (k+2*(sumL L j:Nat)+2*(L j:Int)=k+2*(sumL L (j+1):Nat)):=e1'
   have e2:0<=k+2*(sumL L j:Nat):=by omega
   have e3:k+2*(sumL L j:Nat)<=100000000:=by omega
   have e4:L j<=1048576:=by omega
   have e5:¬ (k+2*(sumL L (j+1):Nat)<0):=by omega
   clear e1' hS hsl Q f1 it lb e1
   go_wp2_with fail
   refine (heldItemS_own b (L j) m _ wr e4 e2 e3 IT.out.2 IT.out.1).mono ?_
   rintro e w1 ⟨rfl,b1⟩
   rw [HE.out]
   have B1:Hid (Below w.heap.size w w1):=hbw.trans (b1.mono hbw.size)
   clear b1 e2 e3 e4 ck hbw
   go_wp2
   go_roundw
   case rel=>exact ⟨j+1,by omega,by go_num,rfl,B1.out⟩
   case measure=>simp [intOf];omega
  ·have hkl:j=n:=by omega
   subst hkl
   go_wp2
   go_ret
   exact ⟨rfl,hbw⟩
theorem markEventSS_own (v:Value) (P:Nat->Prop) (n:Nat) (u:Nat->Value) (L:Nat->Nat) (H:Nat->Nat->E3) (k:Int) (w:World) (hn:n<=1048576) (hl:sumL L n<=1048576) (k0:0<=k) (k1:k<=50000000) (o:LE true w P v n u L H):
  Calls Tryz.prog 26 #[v,.int .i64 k] w fun e w'=>e=.returned (.int .i64 (k+3*(sumL L n:Nat)))/\LE true w' P v n u L (fun i=>mkEv (k+3*(sumL L i:Nat)))/\Touch P w w':=by
 have hl':(n:Int)<=1048576:=by omega
 obtain ⟨a1,c1,rfl⟩:=zT o.row
 have O:Hid (LE true w P (.slice a1 n c1) n u L H):=o
 have HL:Hid (sumL L n<=1048576):=hl
 clear o hl
 go_enter Tryz.func26,Tryz.ntmps26
 go_wp2_with fail
 go_loopw [1,5] (fun q i wr=>∃ j:Nat,j<=n/\i=.int .i64 j/\q=.int .i64 (k+3*(sumL L j:Nat))/\Hid (LL true 46 3 44 wr P (.slice a1 n c1) n u L (fun t=>fE (if t<j then mkEv (k+3*(sumL L t:Nat)) else H t) (L t))/\Touch P w wr)) (fun _ i _=>n - (intOf i).toNat)
 case atStart=>exact ⟨0,Nat.zero_le _,rfl,by simp [sumL],O.out.cast fun i _=>by rw [if_neg (by omega)],Touch.refl _ _⟩
 case round=>
  obtain ⟨j,hj,rfl,rfl,HT⟩:=hrel
  by_cases hlt:j<n
  ·have hlt':(j:Int)<(n:Int):=by omega
   obtain ⟨g1,m1,e1,-,-,ck,-⟩:=HT.out.1.cell hlt
   obtain rfl:=slice_form e1
   have how:=HT.out.1.own j hlt
   rw [if_neg (by omega)] at how
   obtain ⟨b,m,f1,lb,-,-⟩:=atE how (HT.out.1.nn (nzT _) j hlt)
   rw [f1] at ck how
   have OW:Hid (wr.ownsRow 0 46 3 (.slice (some ⟨b,0,none⟩) (L j) m) (L j) (fE (H j) (L j))):=how
   have HU:Hid (u j=.slice (some ⟨b,0,none⟩) (L j) m):=f1
   have hsl:=sumL_at L hlt
   have hS:=HL.out
   have e1':k+3*(sumL L j:Nat)+3*(L j:Int)=k+3*(sumL L (j+1):Nat):=by simp only [sumL];omega
   have HE:Hid (k+3*(sumL L j:Nat)+3*(L j:Int)=k+3*(sumL L (j+1):Nat)):=e1'
   have e2:0<=k+3*(sumL L j:Nat):=by omega
   have e3:k+3*(sumL L j:Nat)<=100000000:=by omega
   have e4:L j<=1048576:=by omega
   clear e1' hS hsl how f1 e1
   go_wp2_with fail
   refine (markEventS_own b (L j) m 0 (H j) _ wr e4 e2 e3 OW.out).mono ?_
   rintro e w1 ⟨rfl,g1',o1⟩
   rw [HE.out]
   have HT1:Hid (LL true 46 3 44 w1 P (.slice (some ⟨g1,0,none⟩) n c1) n u L (fun t=>fE (if t<j+1 then mkEv (k+3*(sumL L t:Nat)) else H t) (L t))/\Touch P w w1):=by
    refine ⟨(HT.out.1.remark hlt (c':=fE (mkEv (k+3*(sumL L j:Nat))) (L j)) (by rw [HU.out];exact o1) fun q hq hne=>g1'.block q hq fun e=>hne (by rw [HU.out,e];rfl)).cast fun t ht=>?_,HT.out.2.trans (Touch.of_grown g1' fun q e=>HT.out.1.ob j hlt q (by rw [HU.out,<- e];rfl))⟩
    by_cases et:t=j
    ·rw [if_pos et,if_pos (by omega),et]
    ·rw [if_neg et]
     by_cases e2:t<j
     ·rw [if_pos e2,if_pos (by omega)]
     ·rw [if_neg e2,if_neg (by omega)]
   clear HT e2 e3 e4 g1' o1 ck
   go_wp2
   go_roundw
   case rel=>exact ⟨j+1,by omega,by go_num,rfl,HT1.out⟩
   case measure=>simp [intOf];omega
  ·have hkl:j=n:=by omega
   subst hkl
   have HT1:Hid (LE true wr P (.slice a1 j c1) j u L (fun i=>mkEv (k+3*(sumL L i:Nat)))/\Touch P w wr):=⟨HT.out.1.cast fun t ht=>by rw [if_pos ht],HT.out.2⟩
   clear HT
   go_wp2
   go_ret
   exact ⟨rfl,HT1.out⟩
theorem heldEventSS_own (v:Value) (P:Nat->Prop) (n:Nat) (u:Nat->Value) (L:Nat->Nat) (k:Int) (w:World) (hn:n<=1048576) (hl:sumL L n<=1048576) (k0:0<=k) (k1:k<=50000000) (o:LE true w P v n u L (fun i=>mkEv (k+3*(sumL L i:Nat)))):
  Calls Tryz.prog 30 #[v,.int .i64 k] w fun e w'=>e=.returned (.int .i64 (k+3*(sumL L n:Nat)))/\Below w.heap.size w w':=by
 have hl':(n:Int)<=1048576:=by omega
 obtain ⟨a1,c1,rfl⟩:=zT o.row
 have O:Hid (LE true w P (.slice a1 n c1) n u L (fun i=>mkEv (k+3*(sumL L i:Nat)))):=o
 have HL:Hid (sumL L n<=1048576):=hl
 clear o hl
 go_enter Tryz.func30,Tryz.ntmps30
 go_wp2_with fail
 go_loopw [1,5] (fun q i wr=>∃ j:Nat,j<=n/\i=.int .i64 j/\q=.int .i64 (k+3*(sumL L j:Nat))/\Below w.heap.size w wr) (fun _ i _=>n - (intOf i).toNat)
 case atStart=>exact ⟨0,Nat.zero_le _,rfl,by simp [sumL],Below.refl _ _⟩
 case round=>
  obtain ⟨j,hj,rfl,rfl,hbw⟩:=hrel
  by_cases hlt:j<n
  ·have hlt':(j:Int)<(n:Int):=by omega
   have Q:=O.out.below hbw
   obtain ⟨g1,m1,e1,-,-,ck,-⟩:=Q.cell hlt
   obtain rfl:=slice_form e1
   obtain ⟨b,m,f1,lb,it,-⟩:=atE (Q.own j hlt) (Q.nn (nzT _) j hlt)
   rw [f1] at ck
   have IT:Hid (EvAt wr b 0 (L j) (mkEv (k+3*(sumL L j:Nat)))/\b<wr.heap.size):=⟨it,lb⟩
   have hsl:=sumL_at L hlt
   have hS:=HL.out
   have e1':k+3*(sumL L j:Nat)+3*(L j:Int)=k+3*(sumL L (j+1):Nat):=by simp only [sumL];omega
   have HE:Hid (k+3*(sumL L j:Nat)+3*(L j:Int)=k+3*(sumL L (j+1):Nat)):=e1'
   have e2:0<=k+3*(sumL L j:Nat):=by omega
   have e3:k+3*(sumL L j:Nat)<=100000000:=by omega
   have e4:L j<=1048576:=by omega
   have e5:¬ (k+3*(sumL L (j+1):Nat)<0):=by omega
   clear e1' hS hsl Q f1 it lb e1
   go_wp2_with fail
   refine (heldEventS_own b (L j) m _ wr e4 e2 e3 IT.out.2 IT.out.1).mono ?_
   rintro e w1 ⟨rfl,b1⟩
   rw [HE.out]
   have B1:Hid (Below w.heap.size w w1):=hbw.trans (b1.mono hbw.size)
   clear b1 e2 e3 e4 ck hbw
   go_wp2
   go_roundw
   case rel=>exact ⟨j+1,by omega,by go_num,rfl,B1.out⟩
   case measure=>simp [intOf];omega
  ·have hkl:j=n:=by omega
   subst hkl
   go_wp2
   go_ret
   exact ⟨rfl,hbw⟩
def mkS (x:Int) (s:S4):S4:=⟨x,marks (x+1) s.rs.length,marks (x+1+s.rs.length) s.os.length,x+1+s.rs.length+s.os.length⟩
theorem flat_set14 {f:Nat->List Value} {n i:Nat} (hl:∀ j,j<n->(f j).length=4) (_hi:i<n) {a0 d0 b c:Value} (hf:f i=[a0,b,c,d0]) (a d:Value):
  flat (fun j=>if j=i then [a,b,c,d] else f j) n=((flat f n).set (i*4) a).set (i*4+3) d:=by
 have hl':∀ j,j<n->((fun j=>if j=i then [a,b,c,d] else f j) j).length=4:=fun j hj=>by
  by_cases e:j=i
  ·simp [e]
  ·simp [e,hl j hj]
 have n1:=flat_len hl
 have n2:=flat_len hl'
 apply List.ext_getElem?
 intro q
 by_cases hq:q<n*4
 ·have hk:q / 4<n:=by omega
  have hr:q % 4<4:=by omega
  have e0:q=q / 4*4+q % 4:=by omega
  have e1:=flat_at hl' hk hr
  have e2:=flat_at hl hk hr
  rw [<- e0] at e1 e2
  rw [e1]
  simp only [List.getElem?_set,List.length_set,n1]
  by_cases ei:q / 4=i
  ·simp only [if_pos ei]
   rw [ei,hf] at e2
   have hrK:q % 4=0\/q % 4=1\/q % 4=2\/q % 4=3:=by omega
   rcases hrK with h | h | h | h <;> rw [h] at e2 ⊢
   ·rw [if_neg (by omega),if_pos (by omega),if_pos (by omega)]
    simp
   ·rw [if_neg (by omega),if_neg (by omega),e2]
    simp
   ·rw [if_neg (by omega),if_neg (by omega),e2]
    simp
   ·rw [if_pos (by omega),if_pos (by omega)]
    simp
  ·simp only [if_neg ei]
   rw [if_neg (by omega),if_neg (by omega),e2]
 ·rw [List.getElem?_eq_none (by omega),List.getElem?_eq_none (by simp only [List.length_set];omega)]
theorem LS.mark {w:World} {P:Nat->Prop} {n:Nat} {vs:Nat->Value} {S:Nat->S4} {g cap j:Nat} (o:LS w P (.slice (some ⟨g,0,none⟩) n cap) n vs S) (hj:j<n) {p code:Int} {ra oa:Option Addr} {rn rc on oc:Nat} (hv:vs j=stV p ra rn rc oa on oc code) (X C:Int) {w1 w2:World} {rs' os':List Int}
  (g1:(w.setCell ⟨g,j*4,none⟩ (.int .i64 X)).grownBy w1 (Value.slice ra rn rc).ownBlock) (g2:w1.grownBy w2 (Value.slice oa on oc).ownBlock) (r1:OwnI w2 0 (.slice ra rn rc) rs') (r2:OwnI w2 0 (.slice oa on oc) os'):
  LS (w2.setCell ⟨g,j*4+3,none⟩ (.int .i64 C)) P (.slice (some ⟨g,0,none⟩) n cap) n (fun t=>if t=j then stV X ra rn rc oa on oc C else vs t) (fun t=>if t=j then ⟨X,rs',os',C⟩ else S t)/\Touch P w (w2.setCell ⟨g,j*4+3,none⟩ (.int .i64 C)):=by
 have hg:g<w.heap.size:=(o.row.lt g rfl).2
 have hRb:∀ k,(Value.slice ra rn rc).ownBlock=some k->hasBlock (vs j) k:=fun k hk=>by rw [hv];exact (hasBlock_iff _ _ _ _ _).2 (.inl hk)
 have hOb:∀ k,(Value.slice oa on oc).ownBlock=some k->hasBlock (vs j) k:=fun k hk=>by rw [hv];exact (hasBlock_iff _ _ _ _ _).2 (.inr hk)
 have ng:¬ hasBlock (vs j) g:=fun h=>o.ra j hj g h rfl
 have z1:w.heap.size<=w1.heap.size:=by have:=g1.size;simpa using this
 have hkeep:∀ k,k<w.heap.size->k≠g->¬ hasBlock (vs j) k->w2.heap[k]? = w.heap[k]?:=fun k hk hne hnb=>(g2.block k (by omega) fun e=>hnb (hOb k e.symm)).trans ((g1.block k (by simpa using hk) fun e=>hnb (hRb k e.symm)).trans (zN _ _ _ _ hne))
 have hgk:w2.heap[g]? = (w.setCell ⟨g,j*4,none⟩ (.int .i64 X)).heap[g]?:=(g2.block g (by omega) fun e=>ng (hOb g e.symm)).trans (g1.block g (by simpa using hg) fun e=>ng (hRb g e.symm))
 have lts:∀ t,t<n->∀ k,hasBlock (vs t) k->k<w.heap.size:=fun t ht k hk=>((o.own t ht).lt hk).2
 have hl:∀ t,t<n->(cellsL (vs t)).length=4:=fun t ht=>(o.own t ht).cellsL.1
 have hhb:∀ k,hasBlock (stV X ra rn rc oa on oc C) k->hasBlock (vs j) k:=fun k hk=>by
  rcases (hasBlock_iff _ _ _ _ _).1 hk with h | h
  ·exact hRb k h
  ·exact hOb k h
 refine ⟨⟨?_,fun t ht=>?_,o.rb,fun t ht k hk=>?_,fun t ht k hk=>?_,fun a b ha hb hab k hk=>?_⟩,?_⟩
 ·have e:flat (fun t=>cellsL (if t=j then stV X ra rn rc oa on oc C else vs t)) n=flat (fun t=>if t=j then [.int .i64 X,.slice ra rn rc,.slice oa on oc,.int .i64 C] else cellsL (vs t)) n:=flat_congr fun t _=>by
   by_cases et:t=j
   ·rw [if_pos et,if_pos et];rfl
   ·rw [if_neg et,if_neg et]
  rw [e,flat_set14 hl hj (by rw [hv];rfl)]
  exact (World.ownsRow.stored (ownsRow_blkL (World.ownsRow.stored o.row (j*4) (.int .i64 X)).1 fun k hk=>by cases hk;exact hgk) _ _).1
 ·by_cases et:t=j
  ·subst et
   simp only [if_true]
   obtain ⟨vr,vo,ee,-,-,hap⟩:=o.own t hj
   rw [hv] at ee
   simp only [stV,Value.agg.injEq,Array.mk.injEq,List.cons.injEq,and_true] at ee
   obtain ⟨-,rfl,rfl,-⟩:=ee
   refine ⟨.slice ra rn rc,.slice oa on oc,rfl,r1.blk fun k hk=>zN _ _ _ _ fun (e:k=g)=>ng (by rw [<- e];exact hRb k hk),r2.blk fun k hk=>zN _ _ _ _ fun (e:k=g)=>ng (by rw [<- e];exact hOb k hk),hap⟩
  ·simp only [if_neg et]
   exact (o.own t ht).blk fun k hk=>(zN _ _ _ _ fun e=>o.ra t ht k hk (by rw [e];rfl)).trans (hkeep k (lts t ht k hk) (fun e=>o.ra t ht k hk (by rw [e];rfl)) fun h=>o.oa t j ht hj et k hk h)
 ·by_cases et:t=j
  ·simp only [if_pos et] at hk
   exact o.ob j hj k (hhb k hk)
  ·simp only [if_neg et] at hk
   exact o.ob t ht k hk
 ·by_cases et:t=j
  ·simp only [if_pos et] at hk
   exact o.ra j hj k (hhb k hk)
  ·simp only [if_neg et] at hk
   exact o.ra t ht k hk
 ·intro hbk
  by_cases ea:a=j
  ·have eb:b≠j:=fun e=>hab (by omega)
   simp only [if_pos ea] at hk
   simp only [if_neg eb] at hbk
   exact o.oa j b hj hb (Ne.symm eb) k (hhb k hk) hbk
  ·simp only [if_neg ea] at hk
   by_cases eb:b=j
   ·simp only [if_pos eb] at hbk
    exact o.oa a j ha hj ea k hk (hhb k hbk)
   ·simp only [if_neg eb] at hbk
    exact o.oa a b ha hb hab k hk hbk
 ·have t1:Touch P w (w.setCell ⟨g,j*4,none⟩ (.int .i64 X)):=Touch.of_set _ (o.rb g rfl) _
  have t2:Touch P (w.setCell ⟨g,j*4,none⟩ (.int .i64 X)) w1:=Touch.of_grown g1 fun k e=>o.ob j hj k (hRb k e)
  have t3:Touch P w1 w2:=Touch.of_grown g2 fun k e=>o.ob j hj k (hOb k e)
  exact ((t1.trans t2).trans t3).trans (Touch.of_set _ (o.rb g rfl) _)
theorem LS.cast {w:World} {P:Nat->Prop} {v:Value} {n:Nat} {vs:Nat->Value} {S S':Nat->S4} (o:LS w P v n vs S) (h:∀ i,i<n->S i=S' i):LS w P v n vs S':=
 ⟨o.row,fun i hi=>by rw [<- h i hi];exact o.own i hi,o.rb,o.ob,o.ra,o.oa⟩
theorem markStateS_own (v:Value) (P:Nat->Prop) (n:Nat) (vs:Nat->Value) (S:Nat->S4) (k:Int) (w:World) (hn:n<=1048576) (hl:sumL (lenS S) n<=1048576) (k0:0<=k) (k1:k<=50000000) (o:LS w P v n vs S):
  Calls Tryz.prog 24 #[v,.int .i64 k] w fun e w'=>e=.returned (.int .i64 (k+(2*n+sumL (lenS S) n:Nat)))/\(∃ us,LS w' P v n us (fun i=>mkS (k+(2*i+sumL (lenS S) i:Nat)) (S i)))/\Touch P w w':=by
 have hl':(n:Int)<=1048576:=by omega
 obtain ⟨a1,c1,rfl⟩:=zT o.row
 have O:Hid (LS w P (.slice a1 n c1) n vs S):=o
 have HL:Hid (sumL (lenS S) n<=1048576):=hl
 clear o hl
 go_enter Tryz.func24,Tryz.ntmps24
 go_wp2_with fail
 go_loopw [1,5] (fun q i wr=>∃ j:Nat,j<=n/\i=.int .i64 j/\q=.int .i64 (k+(2*j+sumL (lenS S) j:Nat))/\Hid ((∃ us,LS wr P (.slice a1 n c1) n us (fun t=>if t<j then mkS (k+(2*t+sumL (lenS S) t:Nat)) (S t) else S t))/\Touch P w wr)) (fun _ i _=>n - (intOf i).toNat)
 case atStart=>exact ⟨0,Nat.zero_le _,rfl,by simp [sumL],⟨vs,O.out.cast fun i _=>by rw [if_neg (by omega)]⟩,Touch.refl _ _⟩
 case round=>
  obtain ⟨j,hj,rfl,rfl,HT⟩:=hrel
  by_cases hlt:j<n
  ·have hlt':(j:Int)<(n:Int):=by omega
   obtain ⟨⟨us,ol⟩,tw⟩:=HT.out
   obtain ⟨D,m1,e1,Pg,hD,cel,fz⟩:=ol.cell hlt
   obtain rfl:=slice_form e1
   rw [if_neg (by omega)] at cel
   obtain ⟨ra,rc,oa,oc,ev,c0,c1',c2,c3⟩:=cel
   have how:=ol.own j hlt
   rw [if_neg (by omega),ev] at how
   obtain ⟨w1r,w1o,wap⟩:=how.parts
   have OL:Hid (LS wr P (.slice (some ⟨D,0,none⟩) n c1) n us (fun t=>if t<j then mkS (k+(2*t+sumL (lenS S) t:Nat)) (S t) else S t)):=ol
   have TW:Hid (Touch P w wr):=tw
   have OR:Hid (OwnI wr 0 (.slice ra (S j).rs.length rc) (S j).rs):=w1r
   have OO:Hid (OwnI wr 0 (.slice oa (S j).os.length oc) (S j).os):=w1o
   have AP:Hid (∀ b,(Value.slice ra (S j).rs.length rc).ownBlock=some b->(Value.slice oa (S j).os.length oc).ownBlock≠some b):=wap
   have HV:Hid (us j=stV (S j).p ra (S j).rs.length rc oa (S j).os.length oc (S j).c):=ev
   have nR:some D≠(Value.slice ra (S j).rs.length rc).ownBlock:=fun e=>ol.ra j hlt D (by rw [ev];exact (hasBlock_iff _ _ _ _ _).2 (.inl e.symm)) rfl
   have nO:some D≠(Value.slice oa (S j).os.length oc).ownBlock:=fun e=>ol.ra j hlt D (by rw [ev];exact (hasBlock_iff _ _ _ _ _).2 (.inr e.symm)) rfl
   have hsl:=sumL_at (lenS S) hlt
   have hS:=HL.out
   have hlk:lenS S j=(S j).rs.length+(S j).os.length:=rfl
   have r1:(S j).rs.length<=1048576:=by omega
   have r2:(S j).os.length<=1048576:=by omega
   have HX:Hid (mkS (k+(2*j+sumL (lenS S) j:Nat)) (S j)=mkS (k+(2*j+sumL (lenS S) j:Nat)) (S j)):=rfl
   generalize hx:k+(2*j+sumL (lenS S) j:Nat)=X at *
   have x0:0<=X:=by omega
   have x1:X<=60000000:=by omega
   have HN:Hid (X+1+(S j).rs.length+(S j).os.length+1=k+(2*(j+1)+sumL (lenS S) (j+1):Nat)):=by
    show X+1+(S j).rs.length+(S j).os.length+1=k+(2*(j+1)+sumL (lenS S) (j+1):Nat)
    simp only [sumL]
    omega
   have HJ:Hid (k+(2*j+sumL (lenS S) j:Nat)=X):=hx
   have rI:((S j).rs.length:Int)<=1048576:=by omega
   have oI:((S j).os.length:Int)<=1048576:=by omega
   clear ev wap w1r w1o how hsl hS hlk hx ol tw e1 HT HX
   go_wp2_with fail
   refine (markIntS_any ra rc 0 (S j).rs _ _ r1 (by omega) (by omega) (OR.out.blk fun b hb=>zN _ _ _ _ fun e=>nR (by rw [hb,e]))).mono ?_
   rintro e w1 ⟨rfl,q1,g1⟩
   obtain ⟨d1,f1⟩:=gcell g1 (b:=D) (by simpa using hD) nR
   have OO1:Hid (OwnI w1 0 (.slice oa (S j).os.length oc) (S j).os):=own_apart (OO.out.blk fun b hb=>zN _ _ _ _ fun e=>nO (by rw [hb,e])) g1 AP.out
   have hD1:D<w1.heap.size:=by have:=g1.size;simp at this;omega
   have G1:Hid (World.grownBy (wr.setCell ⟨D,j*4,none⟩ (.int .i64 X)) w1 (Value.slice ra (S j).rs.length rc).ownBlock):=g1
   have R1:Hid (OwnI w1 0 (.slice ra (S j).rs.length rc) (marks (X+1) (S j).rs.length)):=q1
   clear g1 q1
   go_wp2_with fail
   refine (markIntS_any oa oc 0 (S j).os _ _ r2 (by omega) (by omega) OO1.out).mono ?_
   rintro e w2 ⟨rfl,q2,g2⟩
   obtain ⟨d2,f2⟩:=gcell g2 (b:=D) hD1 nO
   have R2:OwnI w2 0 (.slice ra (S j).rs.length rc) (marks (X+1) (S j).rs.length):=own_apart R1.out g2 fun b hb e=>AP.out b e hb
   have HM:=OL.out.mark hlt HV.out X (X+1+(S j).rs.length+(S j).os.length) G1.out g2 R2 q2
   have HT2:Hid ((∃ us,LS (w2.setCell ⟨D,j*4+3,none⟩ (.int .i64 (X+1+(S j).rs.length+(S j).os.length))) P (.slice (some ⟨D,0,none⟩) n c1) n us (fun t=>if t<j+1 then mkS (k+(2*t+sumL (lenS S) t:Nat)) (S t) else S t))/\Touch P w (w2.setCell ⟨D,j*4+3,none⟩ (.int .i64 (X+1+(S j).rs.length+(S j).os.length)))):=by
    refine ⟨⟨_,HM.1.cast fun t ht=>?_⟩,TW.out.trans HM.2⟩
    by_cases et:t=j
    ·rw [if_pos et,if_pos (by omega),et,HJ.out]
     rfl
    ·rw [if_neg et]
     by_cases e2:t<j
     ·rw [if_pos e2,if_pos (by omega)]
     ·rw [if_neg e2,if_neg (by omega)]
   clear g2 G1 OO1 OO OR AP HV R1 R2 HM q2 OL TW
   go_wp2
   go_roundw
   case rel=>exact ⟨j+1,by omega,by go_num,by rw [HN.out],HT2.out⟩
   case measure=>simp [intOf];omega
  ·have hkl:j=n:=by omega
   subst hkl
   have HT1:Hid ((∃ us,LS wr P (.slice a1 j c1) j us (fun i=>mkS (k+(2*i+sumL (lenS S) i:Nat)) (S i)))/\Touch P w wr):=by
    obtain ⟨⟨us,ol⟩,tw⟩:=HT.out
    exact ⟨⟨us,ol.cast fun t ht=>by rw [if_pos ht]⟩,tw⟩
   clear HT
   go_wp2
   go_ret
   exact ⟨rfl,HT1.out⟩
theorem heldStateS_own (v:Value) (P:Nat->Prop) (n:Nat) (us:Nat->Value) (S:Nat->S4) (k:Int) (w:World) (hn:n<=1048576) (hl:sumL (lenS S) n<=1048576) (k0:0<=k) (k1:k<=50000000) (o:LS w P v n us (fun i=>mkS (k+(2*i+sumL (lenS S) i:Nat)) (S i))):
  Calls Tryz.prog 28 #[v,.int .i64 k] w fun e w'=>e=.returned (.int .i64 (k+(2*n+sumL (lenS S) n:Nat)))/\Below w.heap.size w w':=by
 have hl':(n:Int)<=1048576:=by omega
 obtain ⟨a1,c1,rfl⟩:=zT o.row
 have O:Hid (LS w P (.slice a1 n c1) n us (fun i=>mkS (k+(2*i+sumL (lenS S) i:Nat)) (S i))):=o
 have HL:Hid (sumL (lenS S) n<=1048576):=hl
 clear o hl
 go_enter Tryz.func28,Tryz.ntmps28
 go_wp2_with fail
 go_loopw [1,5] (fun q i wr=>∃ j:Nat,j<=n/\i=.int .i64 j/\q=.int .i64 (k+(2*j+sumL (lenS S) j:Nat))/\Below w.heap.size w wr) (fun _ i _=>n - (intOf i).toNat)
 case atStart=>exact ⟨0,Nat.zero_le _,rfl,by simp [sumL],Below.refl _ _⟩
 case round=>
  obtain ⟨j,hj,rfl,rfl,hbw⟩:=hrel
  by_cases hlt:j<n
  ·have hlt':(j:Int)<(n:Int):=by omega
   have Q:=O.out.below hbw
   obtain ⟨D,m1,e1,-,hD,⟨ra,rc,oa,oc,ev,c0,c1',c2,c3⟩,-⟩:=Q.cell hlt
   obtain rfl:=slice_form e1
   have how:=Q.own j hlt
   rw [ev] at how
   have hs1:=how.parts.1.slOf
   have hs2:=how.parts.2.1.slOf
   simp only [mkS,marks_length] at c0 c1' c2 c3 hs1 hs2
   have hsl:=sumL_at (lenS S) hlt
   have hS:=HL.out
   have hlk:lenS S j=(S j).rs.length+(S j).os.length:=rfl
   have r1:(S j).rs.length<=1048576:=by omega
   have r2:(S j).os.length<=1048576:=by omega
   generalize hx:k+(2*j+sumL (lenS S) j:Nat)=X at *
   have x0:0<=X:=by omega
   have x1:X<=60000000:=by omega
   have HN:Hid (X+1+(S j).rs.length+(S j).os.length+1=k+(2*(j+1)+sumL (lenS S) (j+1):Nat)):=by
    show X+1+(S j).rs.length+(S j).os.length+1=k+(2*(j+1)+sumL (lenS S) (j+1):Nat)
    simp only [sumL]
    omega
   have SA:Hid (Sl wr ra (marks (X+1) (S j).rs.length)/\Sl wr oa (marks (X+1+(S j).rs.length) (S j).os.length)):=⟨hs1,hs2⟩
   have rI:((S j).rs.length:Int)<=1048576:=by omega
   have oI:((S j).os.length:Int)<=1048576:=by omega
   have n1:¬ (X+1+((S j).rs.length:Int)<0):=by omega
   have n2:¬ (X+1+((S j).rs.length:Int)+((S j).os.length:Int)<0):=by omega
   clear hs1 hs2 how Q ev hsl hS hlk hx e1
   go_wp2_with fail
   refine (heldIntS_marks ra rc (S j).rs.length (X+1) wr r1 (by omega) (by omega) SA.out.1).mono ?_
   rintro e w1 ⟨rfl,hw1⟩
   rw [hw1]
   clear hw1 w1
   go_wp2_with fail
   refine (heldIntS_marks oa oc (S j).os.length (X+1+(S j).rs.length) wr r2 (by omega) (by omega) SA.out.2).mono ?_
   rintro e w1 ⟨rfl,hw1⟩
   rw [hw1]
   clear hw1 w1
   go_wp2
   go_roundw
   case rel=>exact ⟨j+1,by omega,by go_num,by rw [HN.out],hbw⟩
   case measure=>simp [intOf];omega
  ·have hkl:j=n:=by omega
   subst hkl
   go_wp2
   go_ret
   exact ⟨rfl,hbw⟩
open Go.Sort
def hcL (ha:Option Addr) (hn hc:Nat):List Value:=[.slice ha hn hc,.int .i64 0,.int .i64 0,.int .i64 0,.int .i64 0,.int .i64 0,.int .i64 0,.int .i64 0,.int .i64 0,.int .i64 0,.int .i64 0,.int .i64 0,.int .i64 0,.int .i64 0,.int .i64 0,.int .i64 0,.int .i64 0,.int .i64 0,.int .i64 0,.int .i64 0,.int .i64 0]
theorem hcL_len (ha:Option Addr) (hn hc:Nat):(hcL ha hn hc).length=21:=rfl
theorem hcL_one (ha:Option Addr) (hn hc:Nat):∀ v ∈ hcL ha hn hc,v.oneCell'=true:=by
 intro v hv
 simp only [hcL,List.mem_cons,List.not_mem_nil,or_false] at hv
 rcases hv with rfl | rfl | rfl | rfl | rfl | rfl | rfl | rfl | rfl | rfl | rfl | rfl | rfl | rfl | rfl | rfl | rfl | rfl | rfl | rfl | rfl <;> rfl
theorem infoHistory:(Tryz.prog.info? 59).map (·.size)=some 21:=by kernel_rfl
theorem sentH_any (X hc:Nat) (ha:Option Addr) (hA:Nat->Option Addr) (hC:Nat->Nat) (y:Hs) (a b:Nat) (w:World) (c0:w.cell? ⟨X,0,none⟩=some (.slice ha y.n hc)) (hE:HisE w ha hA hC y) (hl:∀ i,i<y.n->y.l i<=200) (han:a<y.n):
  Calls Tryz.prog 91 #[.pointer (some ⟨X,0,none⟩),.int .i64 a,.int .i64 b] w fun e w'=>∃ a1 c1,e=.returned (.slice a1 (valL (y.e a) 2 b (y.l a)).length c1)/\OwnI w' w.heap.size (.slice a1 (valL (y.e a) 2 b (y.l a)).length c1) (valL (y.e a) 2 b (y.l a))/\Below w.heap.size w w':=by
 have HE:Hid (EvL w (hA a) (y.l a) (y.e a)):=hE.ev a han
 have HLb:Hid (y.l a<=1048576):=by have:=hl a han;show _<=_;omega
 have ha':(a:Int)<(y.n:Int):=by omega
 obtain ⟨bh,oh,eh,ch⟩:=hE.row.at han
 rw [eh] at c0
 clear hE hl eh
 go_enter Tryz.func91,Tryz.ntmps91
 go_wp2_with fail
 refine (implValues_l (hA a) (y.l a) _ (y.e a) 2 b w HLb.out HE.out).mono ?_
 rintro e w1 ⟨v,rfl,o1,b1⟩
 obtain ⟨a1,c1,rfl,-⟩:=o1.form
 have O1:Hid (OwnI w1 w.heap.size (.slice a1 (valL (y.e a) 2 b (y.l a)).length c1) (valL (y.e a) 2 b (y.l a))/\Below w.heap.size w w1):=⟨o1,b1⟩
 clear o1 b1 c0 ch
 go_wp2
 go_ret
 exact ⟨_,_,rfl,O1.out⟩
theorem unsentH_any (X hc:Nat) (ha:Option Addr) (hA:Nat->Option Addr) (hC:Nat->Nat) (y:Hs) (a b:Nat) (w:World) (c0:w.cell? ⟨X,0,none⟩=some (.slice ha y.n hc)) (hE:HisE w ha hA hC y) (hl:∀ i,i<y.n->y.l i<=200) (han:a<y.n) (hbn:b<y.n):
  Calls Tryz.prog 79 #[.pointer (some ⟨X,0,none⟩),.int .i64 a,.int .i64 b] w fun e w'=>e=.returned (.int .i64 (nthV (y.e b) 3 a (y.l b) (cnt (y.e a) 2 b (y.l a):Nat)))/\Below w.heap.size w w':=by
 have HS:Hid (∀ wx,Below w.heap.size w wx->Calls Tryz.prog 91 #[.pointer (some ⟨X,0,none⟩),.int .i64 a,.int .i64 b] wx fun e w'=>∃ a1 c1,e=.returned (.slice a1 (cnt (y.e a) 2 b (y.l a)) c1)/\Below wx.heap.size wx w'):=fun wx hb=>by
  refine (sentH_any X hc ha hA hC y a b wx ((hb.cell (p:=⟨X,0,none⟩) (zJ w _ c0)).trans c0) (hE.below hb) hl han).mono ?_
  rintro e w1 ⟨a1,c1,rfl,-,q⟩
  exact ⟨a1,c1,by rw [valL_length];rfl,q⟩
 have HN:Hid (∀ wx,Below w.heap.size w wx->Calls Tryz.prog 109 #[.slice (hA b) (y.l b) (hC b),.int .i64 3,.int .i64 a,.int .i64 (cnt (y.e a) 2 b (y.l a):Nat)] wx fun e w'=>e=.returned (.int .i64 (nthV (y.e b) 3 a (y.l b) (cnt (y.e a) 2 b (y.l a):Nat)))/\Below wx.heap.size wx w'):=fun wx hb=>implNth_l (hA b) (y.l b) (hC b) (y.e b) 3 a _ wx (by have:=hl b hbn;omega) ((hE.below hb).ev b hbn)
 have hcn:cnt (y.e a) 2 b (y.l a)<=200:=zO (cnt_le _ _ _ _) (hl a han)
 have hbn':(b:Int)<(y.n:Int):=by omega
 obtain ⟨bh,oh,eh,ch⟩:=hE.row.at hbn
 rw [eh] at c0
 clear hE hl eh
 generalize nthV (y.e b) 3 a (y.l b) (cnt (y.e a) 2 b (y.l a):Nat)=V at *
 generalize cnt (y.e a) 2 b (y.l a)=cn at *
 have hcn':(cn:Int)<=200:=by omega
 have HC0:Hid (w.cell? ⟨X,0,none⟩=some (.slice (some ⟨bh,oh,none⟩) y.n hc)):=c0
 have HC1:Hid (w.cell? ⟨bh,oh+b,none⟩=some (.slice (hA b) (y.l b) (hC b))):=ch
 go_enter Tryz.func79,Tryz.ntmps79
 go_wp2_with fail
 go_region_law (first
  | (refine step_call rfl 91 _ _ rfl #[.pointer (some ⟨X,0,none⟩),.int .i64 a,.int .i64 b] (by simp [Act.eval,Act.put]) (zZ Tryz.func91 (by kernel_rfl) rfl) (HS.out w.drew (Below.refl _ _).drew) ?_;rintro e w1 ⟨a1,c1,rfl,b1⟩;refine ⟨_,rfl,?_⟩;have q1:Below w.heap.size w w1:=(Below.refl w.heap.size w).drew.trans b1;have c2:=(q1.cell (p:=⟨X,0,none⟩) (zJ w _ HC0.out)).trans HC0.out;have c3:=(q1.cell (p:=⟨bh,oh+b,none⟩) (zJ w _ HC1.out)).trans HC1.out;have Q1:Hid (Below w.heap.size w w1):=q1;clear b1 q1)
  | (refine step_call rfl 109 _ _ rfl #[.slice (hA b) (y.l b) (hC b),.int .i64 3,.int .i64 a,.int .i64 (cn:Nat)] (by simp [Act.eval,Act.put]) (zZ Tryz.func109 (by kernel_rfl) rfl) (HN.out w1 Q1.out) ?_;rintro e w2 ⟨rfl,b2⟩;refine ⟨_,rfl,?_⟩;have Q2:Hid (Below w.heap.size w w2):=Q1.out.trans (b2.mono Q1.out.size);clear b2))
 all_goals
  clear Q1
  go_wp2
  go_ret
  exact ⟨rfl,Q2.out⟩
theorem isWholeH_any (X hc:Nat) (ha:Option Addr) (hA:Nat->Option Addr) (hC:Nat->Nat) (y:Hs) (w:World) (c0:w.cell? ⟨X,0,none⟩=some (.slice ha y.n hc)) (hE:HisE w ha hA hC y) (hl:∀ i,i<y.n->y.l i<=200) (h4:y.n<=4):
  Calls Tryz.prog 45 #[.pointer (some ⟨X,0,none⟩)] w fun e w'=>e=.returned (.bool (qB (∀ a,a<y.n->∀ b,b<y.n->nthV (y.e b) 3 a (y.l b) (cnt (y.e a) 2 b (y.l a):Nat)<0)))/\Below w.heap.size w w':=by
 have HOv:Hid (∀ wx,Below w.heap.size w wx->∀ a b,a<y.n->b<y.n->Calls Tryz.prog 79 #[.pointer (some ⟨X,0,none⟩),.int .i64 (a:Nat),.int .i64 (b:Nat)] wx fun e w'=>e=.returned (.int .i64 (nthV (y.e b) 3 a (y.l b) (cnt (y.e a) 2 b (y.l a):Nat)))/\Below wx.heap.size wx w'):=fun wx hb a b ha' hb'=>unsentH_any X hc ha hA hC y a b wx ((hb.cell (p:=⟨X,0,none⟩) (zJ w _ c0)).trans c0) (hE.below hb) hl ha' hb'
 have HC0:Hid (∀ wx,Below w.heap.size w wx->wx.cell? ⟨X,0,none⟩=some (.slice ha y.n hc)):=fun wx hb=>(hb.cell (p:=⟨X,0,none⟩) (zJ w _ c0)).trans c0
 have hl':(y.n:Int)<=4:=by omega
 clear hE hl
 generalize hov:(fun a b:Nat=>nthV (y.e b) 3 a (y.l b) (cnt (y.e a) 2 b (y.l a):Nat))=ov
 have e1:∀ a b:Nat,nthV (y.e b) 3 a (y.l b) (cnt (y.e a) 2 b (y.l a):Nat)=ov a b:=fun a b=>by rw [<- hov]
 simp only [e1] at HOv ⊢
 clear e1 hov
 go_enter Tryz.func45,Tryz.ntmps45
 go_wp2_with fail
 clear c0
 go_loopw [10] (fun i wr=>∃ k:Nat,k<=y.n/\i=.int .i64 k/\Hid (Below w.heap.size w wr)/\Hid (∀ a,a<k->∀ b,b<y.n->ov a b<0)) (fun i _=>y.n - (intOf i).toNat)
 case atStart=>exact ⟨0,Nat.zero_le _,rfl,Below.refl _ _,fun j hj=>by omega⟩
 case round=>
  obtain ⟨k,hk,rfl,HB,HK⟩:=hrel
  by_cases hlt:k<y.n
  ·have hlt':(k:Int)<(y.n:Int):=by omega
   have c1:=HC0.out wr HB.out
   go_wp2_with fail
   clear c1
   go_loopw [18] (fun i wr=>∃ j:Nat,j<=y.n/\i=.int .i64 j/\Hid (Below w.heap.size w wr)/\Hid (∀ b,b<j->ov k b<0)) (fun i _=>y.n - (intOf i).toNat)
   case atStart=>exact ⟨0,Nat.zero_le _,rfl,HB.out,fun j hj=>by omega⟩
   case round=>
    clear HB
    obtain ⟨j,hj,rfl,HB,HJ⟩:=hrel
    by_cases hjt:j<y.n
    ·have hjt':(j:Int)<(y.n:Int):=by omega
     go_wp2_with fail
     refine (HOv.out _ HB.out k j hlt hjt).mono ?_
     rintro e w3 ⟨rfl,q3⟩
     have B3:Hid (Below w.heap.size w w3):=HB.out.trans (q3.mono HB.out.size)
     clear q3 HB
     by_cases ho:0<=ov k j
     ·have HV:Hid (qB (∀ a,a<y.n->∀ b,b<y.n->ov a b<0)=false):=qB_false fun h=>by
       have h1:=h k hlt j hjt
       omega
      go_wp2
      go_ret
      rw [HV.out]
      exact ⟨rfl,B3.out⟩
     ·have HJ':Hid (∀ b,b<j+1->ov k b<0):=fun b hb=>by
       by_cases e:b=j
       ·subst e
        omega
       ·exact HJ.out b (by omega)
      clear HJ
      go_wp2
      go_roundw
      case rel=>exact ⟨j+1,by omega,by go_num,B3.out,HJ'.out⟩
      case measure=>simp [intOf];omega
    ·have HK':Hid (∀ a,a<k+1->∀ b,b<y.n->ov a b<0):=fun a ha b hb=>by
      by_cases e:a=k
      ·subst e
       exact HJ.out b (by omega)
      ·exact HK.out a (by omega) b hb
     clear HK HJ
     go_wp2
     go_roundw
     case rel=>exact ⟨k+1,by omega,by go_num,HB.out,HK'.out⟩
     case measure=>simp [intOf];omega
  ·have HV:Hid (qB (∀ a,a<y.n->∀ b,b<y.n->ov a b<0)=true):=qB_true fun a ha b hb=>HK.out a (by omega) b hb
   have B3:=HB.out
   clear HK HB
   go_wp2
   go_ret
   rw [HV.out]
   exact ⟨rfl,B3⟩
def Sy.at (y:Sy) (c:List Int):Hs:=⟨c.length,cN c,y.hH⟩
theorem his_cell {w:World} {X hc n:Nat} {ha:Option Addr} {cs:List Value} (h:w.rangeAt X 0 cs) (e:hcL ha n hc=cs):w.cell? ⟨X,0,none⟩=some (.slice ha n hc):=by
 subst e
 have:=h 0 (.slice ha n hc) rfl
 simpa using this
theorem slice_from {w:World} {B:Nat} {a:Option Addr} {cap lo:Nat} {xs:List Int} (h:OwnI w B (.slice a xs.length cap) xs) (hl:lo<=xs.length):
  ∃ a',(∀ w',(Instr.slice 48 (.slice a xs.length cap) (some (.int .i64 (lo:Int))) none none).run Tryz.prog w'=.ok (.slice a' (xs.drop lo).length (cap - lo)) w')/\∀ k,k<(xs.drop lo).length->∃ g o,a'=some ⟨g,o,none⟩/\B<=g/\g<w.heap.size/\w.cell? ⟨g,o+k,none⟩=some (.int .i64 (zi (xs.drop lo) k)):=by
 have hl':(lo:Int)<=(xs.length:Int):=by omega
 rcases h.2 with ⟨e,h0⟩ | ⟨g,cp,cur,e,hb,hg,hnc,-⟩
 ·simp only [Value.slice.injEq] at e
  obtain ⟨rfl,-,rfl⟩:=e
  have h00:lo=0:=by omega
  subst h00
  refine ⟨none,fun w'=>?_,fun k hk=>?_⟩
  ·rw [h0]
   simp [go_sem,h0]
  ·simp at hk
   omega
 ·simp only [Value.slice.injEq] at e
  obtain ⟨rfl,-,rfl⟩:=e
  by_cases hc:cap=lo
  ·refine ⟨some ⟨g,0,none⟩,fun w'=>?_,fun k hk=>?_⟩
   ·have e1:xs.length=lo:=by omega
    subst hc
    simp [go_sem,e1]
   ·simp at hk
    omega
  ·refine ⟨some ⟨g,lo,none⟩,fun w'=>?_,fun k hk=>⟨g,lo,rfl,hb,(h.lt g rfl).2,?_⟩⟩
   ·simp [go_sem,hl',hc,Addr.add]
    exact fun h=>h.symm
   ·rw [zi_drop]
    exact h.cell (by simp at hk;omega)
theorem takenH_any (X hc:Nat) (ha:Option Addr) (hA:Nat->Option Addr) (hC:Nat->Nat) (y:Hs) (a b:Nat) (w:World) (c0:w.cell? ⟨X,0,none⟩=some (.slice ha y.n hc)) (hE:HisE w ha hA hC y) (hl:∀ i,i<y.n->y.l i<=200) (hbn:b<y.n):
  Calls Tryz.prog 89 #[.pointer (some ⟨X,0,none⟩),.int .i64 a,.int .i64 b] w fun e w'=>∃ a1 c1,e=.returned (.slice a1 (cnt (y.e b) 3 a (y.l b)) c1)/\Below w.heap.size w w':=by
 have HE:Hid (EvL w (hA b) (y.l b) (y.e b)):=hE.ev b hbn
 have HLb:Hid (y.l b<=1048576):=by have:=hl b hbn;show _<=_;omega
 have hb':(b:Int)<(y.n:Int):=by omega
 obtain ⟨bh,oh,eh,ch⟩:=hE.row.at hbn
 rw [eh] at c0
 clear hE hl eh
 go_enter Tryz.func89,Tryz.ntmps89
 go_wp2_with fail
 refine (implValues_l (hA b) (y.l b) _ (y.e b) 3 a w HLb.out HE.out).mono ?_
 rintro e w1 ⟨v,rfl,o1,b1⟩
 obtain ⟨a1,c1,rfl,-⟩:=o1.form
 have O1:Hid (Below w.heap.size w w1):=b1
 clear o1 b1 c0 ch
 go_wp2
 go_ret
 exact ⟨_,_,by rw [valL_length];rfl,O1.out⟩
theorem underWay_any (X hc:Nat) (ha:Option Addr) (hA:Nat->Option Addr) (hC:Nat->Nat) (y:Hs) (a b:Nat) (w:World) (c0:w.cell? ⟨X,0,none⟩=some (.slice ha y.n hc)) (hE:HisE w ha hA hC y) (hl:∀ i,i<y.n->y.l i<=200) (han:a<y.n) (hbn:b<y.n) (hle:cnt (y.e b) 3 a (y.l b)<=cnt (y.e a) 2 b (y.l a)):
  Calls Tryz.prog 80 #[.pointer (some ⟨X,0,none⟩),.int .i64 a,.int .i64 b] w fun e w'=>∃ a1 c1,e=.returned (.slice a1 (wyL y a b).length c1)/\w'.ownsRow w.heap.size 81 2 (.slice a1 (wyL y a b).length c1) (wyL y a b).length (fT (itL (wyL y a b)) (wyL y a b).length)/\Value.slice a1 (wyL y a b).length c1≠.slice none 0 0/\Below w.heap.size w w':=by
 have HS:Hid (∀ wx,Below w.heap.size w wx->Calls Tryz.prog 91 #[.pointer (some ⟨X,0,none⟩),.int .i64 a,.int .i64 b] wx fun e w'=>∃ a1 c1,e=.returned (.slice a1 (valL (y.e a) 2 b (y.l a)).length c1)/\OwnI w' wx.heap.size (.slice a1 (valL (y.e a) 2 b (y.l a)).length c1) (valL (y.e a) 2 b (y.l a))/\Below wx.heap.size wx w'):=fun wx hb=>sentH_any X hc ha hA hC y a b wx ((hb.cell (p:=⟨X,0,none⟩) (zJ w _ c0)).trans c0) (hE.below hb) hl han
 have HT:Hid (∀ wx,Below w.heap.size w wx->Calls Tryz.prog 89 #[.pointer (some ⟨X,0,none⟩),.int .i64 a,.int .i64 b] wx fun e w'=>∃ a1 c1,e=.returned (.slice a1 (cnt (y.e b) 3 a (y.l b)) c1)/\Below wx.heap.size wx w'):=fun wx hb=>takenH_any X hc ha hA hC y a b wx ((hb.cell (p:=⟨X,0,none⟩) (zJ w _ c0)).trans c0) (hE.below hb) hl hbn
 have hlv:(valL (y.e a) 2 b (y.l a)).length<=200:=by
  rw [valL_length]
  exact zO (plN_le _ _ _ _) (hl a han)
 have hle':cnt (y.e b) 3 a (y.l b)<=(valL (y.e a) 2 b (y.l a)).length:=by
  rw [valL_length]
  exact hle
 have hzs:wyL y a b=(valL (y.e a) 2 b (y.l a)).drop (cnt (y.e b) 3 a (y.l b)):=rfl
 rw [hzs]
 clear hzs c0 hE hl hle
 generalize cnt (y.e b) 3 a (y.l b)=tn at *
 generalize valL (y.e a) 2 b (y.l a)=xs at *
 have HO0:Hid ((w.alloc (.cells #[] 81)).ownsRow w.heap.size 81 2 (.slice (some ⟨w.heap.size,0,none⟩) 0 0) 0 []):=World.ownsRow_made (base:=w.heap.size) (e:=81) (size:=2) w #[] 0 (Nat.le_refl _) (by unfold maxLen;omega) (by simp)
 have BW:Hid (Below w.heap.size w (w.alloc (.cells #[] 81))/\(w.alloc (.cells #[] 81)).heap.size=w.heap.size+1):=⟨zS _ _,by simp⟩
 have HLE:Hid (tn<=xs.length/\xs.length<=200):=⟨hle',hlv⟩
 clear hle'
 go_enter Tryz.func80,Tryz.ntmps80
 go_wp2_with fail
 generalize w.alloc (.cells #[] 81)=W1 at *
 refine (HS.out W1 BW.out.1).mono ?_
 rintro e w1 ⟨a1,c1,rfl,o1,q1⟩
 have O1:Hid (OwnI w1 W1.heap.size (.slice a1 xs.length c1) xs/\Below W1.heap.size W1 w1):=⟨o1,q1⟩
 clear o1 q1 HS
 go_wp2_with fail
 refine (HT.out w1 (BW.out.1.trans (O1.out.2.mono BW.out.1.size))).mono ?_
 rintro e w2 ⟨a2,c2,rfl,q2⟩
 obtain ⟨a3,ks,hcell⟩:=slice_from (O1.out.1.below q2) HLE.out.1
 have HC:Hid (∀ k,k<(xs.drop tn).length->∃ g o,a3=some ⟨g,o,none⟩/\W1.heap.size<=g/\g<w2.heap.size/\w2.cell? ⟨g,o+k,none⟩=some (.int .i64 (zi (xs.drop tn) k))):=hcell
 have hzl:(xs.drop tn).length<=200:=by rw [List.length_drop];omega
 have hzl':((xs.drop tn).length:Int)<=200:=by omega
 have O2:Hid (w2.ownsRow w.heap.size 81 2 (.slice (some ⟨w.heap.size,0,none⟩) 0 0) 0 []/\Below W1.heap.size W1 w2):=⟨ownsRow_blkL HO0.out fun k hk=>(O1.out.2.trans (q2.mono O1.out.2.size)).block k (HO0.out.lt k hk).2,O1.out.2.trans (q2.mono O1.out.2.size)⟩
 generalize hzs:xs.drop tn=zs at *
 have HZS:Hid (xs.drop tn=zs):=hzs
 clear hcell q2 O1 HT HO0 hlv HLE hzs
 go_wp2_with fail
 clear ks
 go_loopw [7,22] (fun o i wr=>∃ k:Nat,k<=zs.length/\i=.int .i64 k/\Hid (wr.ownsRow w.heap.size 81 2 o k (fT (itL zs) k)/\o≠.slice none 0 0/\(∀ j,o.ownBlock=some j->j=w.heap.size\/w2.heap.size<=j)/\Below w.heap.size w wr/\w2.heap.size<=wr.heap.size/\∀ g,W1.heap.size<=g->g<w2.heap.size->wr.heap[g]? = w2.heap[g]?)) (fun _ i _=>zs.length - (intOf i).toNat)
 case atStart=>exact ⟨0,Nat.zero_le _,rfl,O2.out.1,by simp,fun j hj=>by cases hj;exact .inl rfl,BW.out.1.trans (O2.out.2.mono BW.out.1.size),Nat.le_refl _,fun _ _ _=>rfl⟩
 case round=>
  clear O2
  obtain ⟨k,hk,rfl,HB⟩:=hrel
  by_cases hlt:k<zs.length
  ·have hlt':(k:Int)<(zs.length:Int):=by omega
   obtain ⟨g,o,rfl,hg1,hg2,ck⟩:=HC.out k hlt
   have ck:wr.cell? ⟨g,o+k,none⟩=some (.int .i64 (zi zs k)):=(zH (HB.out.2.2.2.2.2 g hg1 hg2)).trans ck
   have HK2:Hid (k<=2000000):=by show _<=_;omega
   have hgl:g<wr.heap.size:=by have:=HB.out.2.2.2.2.1;omega
   go_wp2_with (at_builtin; refine step_append_val kndT wr rfl rfl _ _ rfl w.heap.size u7 k _ rfl HB.out.1 #[.bool false, .int .i64 (zi zs k)] rfl rfl (by intro u hu; simp at hu; rcases hu with rfl | rfl <;> rfl) HK2.out HB.out.2.2.2.1.size ?_; intro v5 w5 o5 g5 q5 n5; have F5 : Hid (w5.ownsRow w.heap.size 81 2 v5 (k + 1) (fT (itL zs) (k + 1)) ∧ v5 ≠ .slice none 0 0 ∧ (∀ j, v5.ownBlock = some j → j = w.heap.size ∨ w2.heap.size ≤ j) ∧ Below w.heap.size w w5 ∧ w2.heap.size ≤ w5.heap.size ∧ ∀ g, W1.heap.size ≤ g → g < w2.heap.size → w5.heap[g]? = w2.heap[g]?) := ⟨o5, n5, fun j hj => by
     rcases q5 j hj with h | h
     ·exact HB.out.2.2.1 j h
     ·exact .inr (Nat.le_trans HB.out.2.2.2.2.1 h), Below.grown HB.out.2.2.2.1 g5 HB.out.2.2.2.1.size (fun j hj => (HB.out.1.lt j hj).1), Nat.le_trans HB.out.2.2.2.2.1 g5.size, fun b h1 h2 => (g5.block b (Nat.lt_of_lt_of_le h2 HB.out.2.2.2.2.1) (fun hj => by
      have e1:=BW.out.2
      rcases HB.out.2.2.1 b hj.symm with h | h <;> omega)).trans (HB.out.2.2.2.2.2 b h1 h2)⟩;clear o5 g5 q5 n5)
   go_roundw
   case rel=>exact ⟨k+1,by omega,by go_num,F5.out⟩
   case measure=>simp [intOf];omega
  ·have hkn:k=zs.length:=by omega
   subst hkn
   obtain ⟨a4,c4,rfl⟩:=zT HB.out.1
   go_wp2
   go_ret
   rw [HZS.out]
   exact ⟨a4,c4,rfl,HB.out.1,HB.out.2.1,HB.out.2.2.2.1⟩
theorem waysAt_any (X hc:Nat) (ha:Option Addr) (hA:Nat->Option Addr) (hC:Nat->Nat) (y:Hs) (w:World) (c0:w.cell? ⟨X,0,none⟩=some (.slice ha y.n hc)) (hE:HisE w ha hA hC y) (hl:∀ i,i<y.n->y.l i<=200) (h4:y.n<=4) (hle:∀ a,a<y.n->∀ b,b<y.n->cnt (y.e b) 3 a (y.l b)<=cnt (y.e a) 2 b (y.l a)):
  Calls Tryz.prog 46 #[.pointer (some ⟨X,0,none⟩)] w fun e w'=>∃ v u,e=.returned (.tuple #[v,.bool (wfB y)])/\(wfB y=true->LT true w' (fun k=>w.heap.size<=k/\k<w'.heap.size) v (y.n*y.n) u (fun i=>(wyL y (i / y.n) (i % y.n)).length) (fun i=>itL (wyL y (i / y.n) (i % y.n))))/\Below w.heap.size w w':=by
 have HU:Hid (∀ wx,Below w.heap.size w wx->∀ a b,a<y.n->b<y.n->Calls Tryz.prog 80 #[.pointer (some ⟨X,0,none⟩),.int .i64 (a:Nat),.int .i64 (b:Nat)] wx fun e w'=>∃ a1 c1,e=.returned (.slice a1 (wyL y a b).length c1)/\w'.ownsRow wx.heap.size 81 2 (.slice a1 (wyL y a b).length c1) (wyL y a b).length (fT (itL (wyL y a b)) (wyL y a b).length)/\Value.slice a1 (wyL y a b).length c1≠.slice none 0 0/\Below wx.heap.size wx w'):=fun wx hb a b ha' hb'=>underWay_any X hc ha hA hC y a b wx ((hb.cell (p:=⟨X,0,none⟩) (zJ w _ c0)).trans c0) (hE.below hb) hl ha' hb' (hle a ha' b hb')
 have HC0:Hid (∀ wx,Below w.heap.size w wx->wx.cell? ⟨X,0,none⟩=some (.slice ha y.n hc)):=fun wx hb=>(hb.cell (p:=⟨X,0,none⟩) (zJ w _ c0)).trans c0
 have hl':(y.n:Int)<=4:=by omega
 have HW:Hid (∀ a b,a<y.n->(wyL y a b).length<=200):=fun a b ha'=>by
  unfold wyL
  rw [List.length_drop,valL_length]
  have h1:=plN_le (y.e a) 2 b (y.l a)
  have h2:=hl a ha'
  omega
 have HF:Hid (wfB y=qB (∀ a,a<y.n->∀ b,b<y.n->(wyL y a b).length<=12)):=rfl
 clear hE hl hle c0
 generalize wfB y=R at *
 obtain ⟨L,hLe⟩:∃ L:Nat->Nat,(fun i=>(wyL y (i / y.n) (i % y.n)).length)=L:=⟨_,rfl⟩
 obtain ⟨H,hHe⟩:∃ H:Nat->Nat->I2,(fun i=>itL (wyL y (i / y.n) (i % y.n)))=H:=⟨_,rfl⟩
 rw [hLe,hHe]
 have HLH:Hid (∀ k j,j<y.n->(wyL y k j).length=L (k*y.n+j)/\itL (wyL y k j)=H (k*y.n+j)):=fun k j hj=>by
  obtain ⟨e1,e2⟩:=wy_at (a:=k) hj
  rw [<- hLe,<- hHe]
  dsimp only
  rw [e1,e2]
  exact ⟨rfl,rfl⟩
 clear hLe hHe
 go_enter Tryz.func46,Tryz.ntmps46
 have c1:=HC0.out (w.alloc (.cells #[] 79)) (zS _ _)
 go_wp2_with fail
 clear c1
 go_loopw [4,14] (fun v i wr=>∃ k:Nat,k<=y.n/\i=.int .i64 k/\Hid ((∃ u,LT true wr (fun b=>w.heap.size<=b/\b<wr.heap.size) v (k*y.n) u L H)/\Below w.heap.size w wr)/\Hid (∀ a,a<k->∀ b,b<y.n->(wyL y a b).length<=12)) (fun _ i _=>y.n - (intOf i).toNat)
 case atStart=>exact ⟨0,Nat.zero_le _,rfl,⟨⟨fun _=>.slice none 0 0,by rw [Nat.zero_mul];exact LL.new _ _ _ w _ (by simp) _ _ _⟩,zS _ _⟩,fun j hj=>by omega⟩
 case round=>
  obtain ⟨k,hk,rfl,HB,HK⟩:=hrel
  by_cases hlt:k<y.n
  ·have hlt':(k:Int)<(y.n:Int):=by omega
   have c1:=HC0.out wr HB.out.2
   go_wp2_with fail
   clear c1
   go_loopw [4,22] (fun v i wr=>∃ j:Nat,j<=y.n/\i=.int .i64 j/\Hid ((∃ u,LT true wr (fun b=>w.heap.size<=b/\b<wr.heap.size) v (k*y.n+j) u L H)/\Below w.heap.size w wr)/\Hid (∀ b,b<j->(wyL y k b).length<=12)) (fun _ i _=>y.n - (intOf i).toNat)
   case atStart=>exact ⟨0,Nat.zero_le _,rfl,HB.out,fun j hj=>by omega⟩
   case round=>
    clear HB
    obtain ⟨j,hj,rfl,HB,HJ⟩:=hrel
    by_cases hjt:j<y.n
    ·have hjt':(j:Int)<(y.n:Int):=by omega
     go_wp2_with fail
     refine (HU.out _ HB.out.2 k j hlt hjt).mono ?_
     rintro e w3 ⟨a3,c3,rfl,o3,n3,q3⟩
     have hm:=HW.out k j hlt
     by_cases ho:12<(wyL y k j).length
     ·have HV:Hid (R=false):=by
       show R=false
       rw [HF.out]
       exact qB_false fun h=>by
        have h1:=h k hlt j hjt
        omega
      have ho':(12:Int)<((wyL y k j).length:Int):=by omega
      have B3:Hid (Below w.heap.size w w3):=HB.out.2.trans (q3.mono HB.out.2.size)
      generalize (wyL y k j).length=m at *
      clear o3 n3 q3 HB
      go_wp2
      exact bodyPost_ret (v:=.tuple #[.slice none 0 0,.bool false]) (by simp [results,Tryz.results46,go_sem]) rfl ⟨_,fun _=>.slice none 0 0,by rw [HV.out],fun h=>(by rw [HV.out] at h;cases h),B3.out⟩
     ·have ho':¬ (12:Int)<((wyL y k j).length:Int):=by omega
      have HJ':Hid (∀ b,b<j+1->(wyL y k b).length<=12):=fun b hb=>by
       by_cases e:b=j
       ·subst e
        omega
       ·exact HJ.out b (by omega)
      rw [(HLH.out k j hjt).1,(HLH.out k j hjt).2] at o3
      rw [(HLH.out k j hjt).1] at n3 ho' hm ⊢
      have h16:k*y.n<=4*4:=Nat.mul_le_mul (by omega) h4
      have HK2:Hid (k*y.n+j<=2000000):=by show _<=_;omega
      have F4:Hid (w3.ownsRow wr.heap.size 81 2 (.slice a3 (L (k*y.n+j)) c3) (L (k*y.n+j)) (fT (H (k*y.n+j)) (L (k*y.n+j)))/\Below wr.heap.size wr w3/\Value.slice a3 (L (k*y.n+j)) c3≠.slice none 0 0):=⟨o3,q3,n3⟩
      obtain ⟨⟨u,oz⟩,bz⟩:=HB.out
      have OZ:Hid (LT true wr (fun b=>w.heap.size<=b/\b<wr.heap.size) u4 (k*y.n+j) u L H):=oz
      have BZ:Hid (Below w.heap.size w wr):=bz
      clear HJ o3 n3 q3 ho oz bz HB h16
      generalize hkk:k*y.n+j=kk at *
      have HKK:Hid (k*y.n+j=kk):=hkk
      clear hkk
      go_wp2_with (at_builtin;refine step_append_val kndTT w3 rfl rfl _ _ rfl 0 u4 kk _ rfl (OZ.out.below F4.out.2.1).row #[.slice a3 (L kk) c3] rfl rfl (by intro u hu;simp at hu;subst hu;rfl) HK2.out (Nat.zero_le _) ?_;intro v5 w5 o5 g5 q5 n5;have F5:Hid (LT true w5 (fun b=>w.heap.size<=b/\b<w5.heap.size) v5 (kk+1) (fun j=>if j=kk then .slice a3 (L kk) c3 else u j) L H/\Below w.heap.size w w5):=⟨OZ.out.push F4.out.2.1 F4.out.1 (fun _=>F4.out.2.2) o5 g5 q5 (fun j hj _=>⟨hj.1,zL hj.2 (zO F4.out.2.1.size g5.size)⟩) (fun j hj hj'=>⟨zO BZ.out.size hj,hj'⟩),Below.grown (BZ.out.trans (F4.out.2.1.mono BZ.out.size)) g5 (zO BZ.out.size F4.out.2.1.size) (fun j hj=>(OZ.out.rb j hj).1)⟩;clear o5 g5 q5 n5)
      go_roundw
      case rel=>exact ⟨j+1,by omega,by go_num,⟨⟨_,by rw [<- Nat.add_assoc,HKK.out];exact F5.out.1⟩,F5.out.2⟩,HJ'.out⟩
      case measure=>simp [intOf];omega
    ·have HK':Hid (∀ a,a<k+1->∀ b,b<y.n->(wyL y a b).length<=12):=fun a ha b hb=>by
      by_cases e:a=k
      ·subst e
       exact HJ.out b (by omega)
      ·exact HK.out a (by omega) b hb
     have hjn:j=y.n:=by omega
     have HB':Hid ((∃ u,LT true wr (fun b=>w.heap.size<=b/\b<wr.heap.size) u4 ((k+1)*y.n) u L H)/\Below w.heap.size w wr):=by
      have:=HB.out
      rw [hjn] at this
      rw [Nat.add_mul,Nat.one_mul]
      exact this
     clear HK HJ HB hjn
     go_wp2
     go_roundw
     case rel=>exact ⟨k+1,by omega,by go_num,HB'.out,HK'.out⟩
     case measure=>simp [intOf];omega
  ·have HV:Hid (R=true):=by
    show R=true
    rw [HF.out]
    exact qB_true fun a ha b hb=>HK.out a (by omega) b hb
   have hkn:k=y.n:=by omega
   subst hkn
   obtain ⟨⟨u,oz⟩,bz⟩:=HB.out
   have OZ:Hid (LT true wr (fun b=>w.heap.size<=b/\b<wr.heap.size) u4 (y.n*y.n) u L H/\Below w.heap.size w wr):=⟨oz,bz⟩
   clear HK HB oz bz
   go_wp2
   exact bodyPost_ret (v:=.tuple #[u4,.bool true]) (by simp [results,Tryz.results46,go_sem]) rfl ⟨_,u,by rw [HV.out],fun _=>OZ.out.1,OZ.out.2⟩
theorem AtP.start {z:Bool} {B m3 m1:Nat} {w3 w1:World} {y:Sy} {vp vw:Value} {up uw:Nat->Value} (o3:LT z w3 (fun k=>m3<=k/\k<w3.heap.size) vw y.wn uw y.wL y.wH) (o1:LI z w1 (fun k=>m1<=k/\k<w1.heap.size) vp y.pn up y.pL y.pH) (hb:Below w3.heap.size w3 w1) (h1:w3.heap.size<=m1) (hB:B<=m3) (h3:m3<=w3.heap.size):
  ∃ c,AtP z B w1.heap.size c { y with sn:=0,hn:=0 } (w1.alloc (.cells #[vp,.slice none 0 0,vw,.slice none 0 0] 28)) vp (.slice none 0 0) vw (.slice none 0 0) up (fun _=>.slice none 0 0) uw (fun _=>.slice none 0 0):=by
 have hs:=hb.size
 have ba:=zP w1 (.cells #[vp,.slice none 0 0,vw,.slice none 0 0] 28)
 refine ⟨fun k=>if k=w1.heap.size then 0 else if k<w3.heap.size then 3 else 1,BoxC.new w1 _ _ _ _ _,fun j=>yA _ _ _ _ rfl,if_pos rfl,by omega,?_,LS.nil _ _ _ _,?_,LL.nil _ _ _ _ _ _ _ _⟩
 ·refine (o1.mono fun k hk _=>⟨by omega,?_⟩).below ba
  show (if k=w1.heap.size then 0 else if k<w3.heap.size then 3 else 1)=1
  rw [if_neg (by omega),if_neg (by omega)]
 ·refine ((o3.mono fun k hk _=>⟨by omega,?_⟩).below hb).below ba
  show (if k=w1.heap.size then 0 else if k<w3.heap.size then 3 else 1)=3
  rw [if_neg (by omega),if_pos (by omega)]
def Sy.Rpl (y:Sy) (d:Nat->Nat):Prop:=∀ p,p<y.pn->(repO (y.pH p) (y.pL p) (y.hH p) (d p)).isSome=true
noncomputable def ctB (y:Sy) (d:Nat->Nat):Bool:=qB (y.Wh d) && (wfB (y.ah d) && qB (y.Rpl d))
noncomputable def ctS (y:Sy) (d:Nat->Nat):Sy:=if ctB y d=true then y.atY d else y.nil
theorem ct_no1 {y:Sy} {d:Nat->Nat} (h:¬ y.Wh d):ctB y d=false:=by
 unfold ctB
 rw [qB_false h]
 rfl
theorem ct_no2 {y:Sy} {d:Nat->Nat} (h:wfB (y.ah d)=false):ctB y d=false:=by
 unfold ctB
 rw [h]
 simp
theorem ct_no3 {y:Sy} {d:Nat->Nat} (h:¬ y.Rpl d):ctB y d=false:=by
 unfold ctB
 rw [qB_false h]
 simp
theorem ct_yes {y:Sy} {d:Nat->Nat} (h1:y.Wh d) (h2:wfB (y.ah d)=true) (h3:y.Rpl d):ctB y d=true:=by
 unfold ctB
 rw [qB_true h1,h2,qB_true h3]
 rfl
theorem wh_iffH (y:Sy) (d:Nat->Nat):(∀ a,a<(y.ah d).n->∀ b,b<(y.ah d).n->nthV ((y.ah d).e b) 3 a ((y.ah d).l b) (cnt ((y.ah d).e a) 2 b ((y.ah d).l a):Nat)<0) ↔ y.Wh d:=
 ⟨fun h a ha b hb=>(ovN_neg (y:=y) (c:=d)).1 (h a ha b hb),fun h a ha b hb=>(ovN_neg (y:=y) (c:=d)).2 (h a ha b hb)⟩
theorem comesTo_any (X hc0:Nat) (ea:Option Addr) (eA:Nat->Option Addr) (eC:Nat->Nat) (y:Sy) (d:Nat->Nat) (pa:Option Addr) (pc:Nat) (pA:Nat->Option Addr) (pC:Nat->Nat) (w:World) (c0:w.cell? ⟨X,0,none⟩=some (.slice ea y.pn hc0)) (hE:HisE w ea eA eC (y.ah d)) (hl:∀ i,i<y.pn->d i<=200) (h4:y.pn<=4) (hP:RowS w pa y.pn fun i=>.slice (pA i) (y.pL i) (pC i)) (hI:∀ i,i<y.pn->∃ b,pA i=some ⟨b,0,none⟩/\b<w.heap.size/\InsAt w b 0 (y.pL i) (y.pH i)) (hpl:∀ i,i<y.pn->y.pL i<=1048576) (hV:w.cell? ⟨0,0,none⟩=some (.iface 169 (.agg #[.pointer (some ⟨1,120,none⟩)]))):
  Calls Tryz.prog 17 #[.pointer (some ⟨X,0,none⟩),.slice pa y.pn pc] w fun e w'=>∃ v,e=.returned (.tuple #[v,.bool (ctB y d)])/\OwnSys true w' w.heap.size (ctS y d) v/\Below w.heap.size w w':=by
 have HVx:Hid (∀ wx,Below w.heap.size w wx->wx.cell? ⟨0,0,none⟩=some (.iface 169 (.agg #[.pointer (some ⟨1,120,none⟩)]))):=fun wx hb=>(hb.cell (p:=⟨0,0,none⟩) (zJ w _ hV)).trans hV
 have HX3 : Hid (∀ wx, Below w.heap.size w wx → wx.cell? ⟨X, 0, none⟩ = some (.slice ea y.pn hc0) ∧ HisE wx ea eA eC (y.ah d) ∧ RowS wx pa y.pn (fun i => .slice (pA i) (y.pL i) (pC i)) ∧ ∀ i, i < y.pn → ∃ b, pA i = some ⟨b, 0, none⟩ ∧ b < wx.heap.size ∧ InsAt wx b 0 (y.pL i) (y.pH i)) := fun wx hb => ⟨(hb.cell (p := ⟨X, 0, none⟩) (World.block_lt_of_cell? w _ c0)).trans c0, hE.below hb, hP.below hb, fun i hi => by
  obtain ⟨b,e,hlt,hI⟩:=hI i hi
  exact ⟨b,e,zL hlt hb.size,hI.below hb hlt⟩⟩
 have HWh:Hid (∀ wx,Below w.heap.size w wx->Calls Tryz.prog 45 #[.pointer (some ⟨X,0,none⟩)] wx fun e w'=>e=.returned (.bool (qB (y.Wh d)))/\Below wx.heap.size wx w'):=fun wx hb=>by
  have h:=isWholeH_any X hc0 ea eA eC (y.ah d) wx (HX3.out wx hb).1 (HX3.out wx hb).2.1 (fun i hi=>hl i hi) h4
  have e:qB (y.Wh d)=qB (∀ a,a<(y.ah d).n->∀ b,b<(y.ah d).n->nthV ((y.ah d).e b) 3 a ((y.ah d).l b) (cnt ((y.ah d).e a) 2 b ((y.ah d).l a):Nat)<0):=by
   by_cases hw:y.Wh d
   ·rw [qB_true hw,qB_true ((wh_iffH y d).2 hw)]
   ·rw [qB_false hw,qB_false fun h=>hw ((wh_iffH y d).1 h)]
  rw [e]
  exact h
 have HW:Hid (y.Wh d->∀ wx,Below w.heap.size w wx->Calls Tryz.prog 46 #[.pointer (some ⟨X,0,none⟩)] wx fun e w'=>∃ v u,e=.returned (.tuple #[v,.bool (wfB (y.ah d))])/\(wfB (y.ah d)=true->LT true w' (fun k=>wx.heap.size<=k/\k<w'.heap.size) v (y.atY d).wn u (y.atY d).wL (y.atY d).wH)/\Below wx.heap.size wx w'):=fun hw wx hb=>waysAt_any X hc0 ea eA eC (y.ah d) wx (HX3.out wx hb).1 (HX3.out wx hb).2.1 (fun i hi=>hl i hi) h4 (fun a ha b hb=>hw a ha b hb)
 have HP : Hid (∀ wx, Below w.heap.size w wx → Calls Tryz.prog 47 #[.slice pa y.pn pc] wx fun e w' => ∃ v u, e = .returned v ∧ LI true w' (fun k => wx.heap.size ≤ k ∧ k < w'.heap.size) v y.pn u y.pL y.pH ∧ Below wx.heap.size wx w') := fun wx hb => copyListsIns_own pa y.pn pc pA y.pL pC y.pH wx (by omega) hpl (HX3.out wx hb).2.2.1 (fun i hi => by
  obtain ⟨b,e,hlt,hI⟩:=(HX3.out wx hb).2.2.2 i hi
  exact ⟨b,0,e,by rw [e];exact srcI hlt hI⟩)
 have HR:Hid (∀ wx,Below w.heap.size w wx->∀ p,p<y.pn->Calls Tryz.prog 48 #[.slice (pA p) (y.pL p) (pC p),.slice (eA p) (d p) (eC p)] wx (DoneR wx ((y.atY d).sS p) (repO (y.pH p) (y.pL p) (y.hH p) (d p)).isSome)):=fun wx hb p hp=>by
  obtain ⟨b,e,hlt,hI⟩:=(HX3.out wx hb).2.2.2 p hp
  rw [e]
  exact implReplay_l b (y.pL p) (pC p) (eA p) (d p) (eC p) (y.pH p) (y.hH p) wx (by have:=hpl p hp;unfold maxLen;omega) hlt hI ((HX3.out wx hb).2.1.ev p hp) (by have:=hl p hp;omega) (HVx.out wx hb)
 have HK:Hid (∀ wx,Below w.heap.size w wx->∀ p,p<y.pn->Calls Tryz.prog 49 #[.slice (eA p) (d p) (eC p)] wx fun e w'=>∃ a1 c1,e=.returned (.slice a1 (d p) c1)/\w'.ownsRow wx.heap.size 46 3 (.slice a1 (d p) c1) (d p) (fE (y.hH p) (d p))/\Value.slice a1 (d p) c1≠.slice none 0 0/\Below wx.heap.size wx w'):=fun wx hb p hp=>copyOfEvent_any (eA p) (d p) (eC p) (y.hH p) wx (by have:=hl p hp;omega) (srcE ((HX3.out wx hb).2.1.ev p hp))
 have HN:Hid (y.pn<=4):=h4
 have BW:Hid (Below w.heap.size w (w.alloc (zQ3))):=zP _ _
 have RB:Hid (BoxC (w.alloc (zQ3)) w.heap.size (.slice none 0 0) (.slice none 0 0) (.slice none 0 0) (.slice none 0 0)/\∀ j,(w.alloc (zQ3)).frozen? ⟨w.heap.size,j,none⟩=false):=⟨BoxC.new w _ _ _ _ _,fun j=>yA _ _ _ _ (by simp)⟩
 have hM:w.heap.size<=w.heap.size:=Nat.le_refl _
 have HNO:Hid (ctB y d=false->ctS y d=y.nil):=fun h=>if_neg (by rw [h];simp)
 have HYES:Hid (ctB y d=true->ctS y d=y.atY d):=fun h=>if_pos h
 have HC1:Hid (qB (y.Wh d)=false->ctB y d=false):=fun h=>ct_no1 fun hw=>by rw [qB_true hw] at h;cases h
 have HC2:Hid (wfB (y.ah d)=false->ctB y d=false):=ct_no2
 have HC3:Hid (¬ y.Rpl d->ctB y d=false):=ct_no3
 have HC4:Hid (qB (y.Wh d)=true->wfB (y.ah d)=true->y.Rpl d->ctB y d=true):=fun h1=>ct_yes (qB_iff.1 h1)
 have HW':Hid (qB (y.Wh d)=true->∀ wx,Below w.heap.size w wx->Calls Tryz.prog 46 #[.pointer (some ⟨X,0,none⟩)] wx fun e w'=>∃ v u,e=.returned (.tuple #[v,.bool (wfB (y.ah d))])/\(wfB (y.ah d)=true->LT true w' (fun k=>wx.heap.size<=k/\k<w'.heap.size) v (y.atY d).wn u (y.atY d).wL (y.atY d).wH)/\Below wx.heap.size wx w'):=fun h=>HW.out (qB_iff.1 h)
 clear c0 hE hl h4 hP hI hpl hV HW
 generalize qB (y.Wh d)=tw at *
 generalize wfB (y.ah d)=wf at *
 generalize ctB y d=R at *
 generalize ctS y d=RS at *
 go_enter Tryz.func17,Tryz.ntmps17
 go_wp2_with fail
 generalize w.alloc (zQ3)=W2 at *
 refine (HWh.out W2 BW.out).mono ?_
 rintro e w1 ⟨rfl,q1⟩
 have B1:Hid (Below w.heap.size w w1/\BoxC w1 w.heap.size (.slice none 0 0) (.slice none 0 0) (.slice none 0 0) (.slice none 0 0)/\∀ j,w1.frozen? ⟨w.heap.size,j,none⟩=false):=⟨BW.out.trans (q1.mono BW.out.size),RB.out.1.below q1,fun j=>((bcell q1).2 _ j (zJ _ _ RB.out.1.1)).trans (RB.out.2 j)⟩
 clear q1 BW RB HWh
 have l1:w.heap.size<w1.heap.size:=zJ _ _ B1.out.2.1.1
 cases tw with
 | false=>
  have HV:Hid (R=false/\RS=y.nil):=⟨HC1.out rfl,HNO.out (HC1.out rfl)⟩
  obtain ⟨⟨r0,r1,r2,r3⟩,rf⟩:=B1.out.2
  clear HC1 HC2 HC3 HC4 HNO HYES HX3 HW' HP HR HK HVx
  go_wp2
  exact bodyPost_ret (v:=.tuple #[sysV none 0 0 none 0 0 none 0 0 none 0 0,.bool false]) (by simp [results,Tryz.results17,go_sem,r0,r1,r2,r3]) rfl ⟨_,by rw [HV.out.1],by rw [HV.out.2];exact OwnSys.zero _ _ _,(((B1.out.1.setCell hM _).setCell hM _).setCell hM _).setCell hM _⟩
 | true=>
  have HWa:Hid (∀ wx,Below w.heap.size w wx->Calls Tryz.prog 46 #[.pointer (some ⟨X,0,none⟩)] wx fun e w'=>∃ v u,e=.returned (.tuple #[v,.bool wf])/\(wf=true->LT true w' (fun k=>wx.heap.size<=k/\k<w'.heap.size) v (y.atY d).wn u (y.atY d).wL (y.atY d).wH)/\Below wx.heap.size wx w'):=HW'.out rfl
  have HC5:Hid (wf=true->y.Rpl d->R=true):=HC4.out rfl
  clear HC1 HC4 HW'
  go_wp2_with fail
  refine (HWa.out w1 B1.out.1).mono ?_
  rintro e w4 ⟨v4,u4,rfl,o4,q4⟩
  have F4:Hid ((wf=true->LT true w4 (fun k=>w1.heap.size<=k/\k<w4.heap.size) v4 (y.atY d).wn u4 (y.atY d).wL (y.atY d).wH)/\Below w1.heap.size w1 w4):=⟨o4,q4⟩
  clear o4 q4 HWa
  cases wf with
  | false=>
   have HV:Hid (R=false/\RS=y.nil):=⟨HC2.out rfl,HNO.out (HC2.out rfl)⟩
   obtain ⟨r0,r1,r2,r3⟩:=B1.out.2.1.below F4.out.2
   have rf:∀ j,w4.frozen? ⟨w.heap.size,j,none⟩=false:=fun j=>((bcell F4.out.2).2 _ j l1).trans (B1.out.2.2 j)
   have Q4:Hid (Below w.heap.size w w4):=B1.out.1.trans (F4.out.2.mono B1.out.1.size)
   clear HC2 HC3 HC5 HNO HYES HX3 HP HR HK HVx F4
   go_wp2
   exact bodyPost_ret (v:=.tuple #[sysV none 0 0 none 0 0 none 0 0 none 0 0,.bool false]) (by simp [results,Tryz.results17,go_sem,r0,r1,r2,r3]) rfl ⟨_,by rw [HV.out.1],by rw [HV.out.2];exact OwnSys.zero _ _ _,(((Q4.out.setCell hM _).setCell hM _).setCell hM _).setCell hM _⟩
  | true=>
   have HC6:Hid (y.Rpl d->R=true):=HC5.out rfl
   have O4:Hid (LT true w4 (fun k=>w1.heap.size<=k/\k<w4.heap.size) v4 (y.atY d).wn u4 (y.atY d).wL (y.atY d).wH/\Below w1.heap.size w1 w4):=⟨F4.out.1 rfl,F4.out.2⟩
   clear HC2 HC5 F4
   obtain ⟨a4,c4,rfl⟩:=zT O4.out.1.row
   go_wp2_with fail
   refine (HP.out w4 (B1.out.1.trans (O4.out.2.mono B1.out.1.size))).mono ?_
   rintro e w5 ⟨v5,uu5,rfl,o5,q5⟩
   obtain ⟨a5,c5,rfl⟩:=zT o5.row
   obtain ⟨cl5,st5⟩:=AtP.start (z:=true) (B:=w1.heap.size) (y:=y.atY d) O4.out.1 o5 q5 (Nat.le_refl _) (Nat.le_refl _) O4.out.2.size
   have F5:Hid (AtP true w1.heap.size w5.heap.size cl5 { y.atY d with sn:=0,hn:=0 } (w5.alloc (oQ4 a5 y.pn c5 none 0 0 a4 (y.atY d).wn c4 none 0 0)) (.slice a5 y.pn c5) (.slice none 0 0) (.slice a4 (y.atY d).wn c4) (.slice none 0 0) uu5 (fun _=>.slice none 0 0) u4 (fun _=>.slice none 0 0)/\Below w1.heap.size w1 (w5.alloc (oQ4 a5 y.pn c5 none 0 0 a4 (y.atY d).wn c4 none 0 0))):=⟨st5,(O4.out.2.trans (q5.mono O4.out.2.size)).trans ((zP _ _).mono (zO O4.out.2.size q5.size))⟩
   clear o5 q5 st5 HP
   go_upto_region 7 with fail
   clear O4
   generalize w5.alloc (oQ4 a5 y.pn c5 none 0 0 a4 (y.atY d).wn c4 none 0 0)=W5 at *
   generalize hNN:w5.heap.size=N at *
   clear hNN w5
   have HX4:Hid (∀ wx,Below w1.heap.size w1 wx->Below w.heap.size w wx/\BoxC wx w.heap.size (.slice none 0 0) (.slice none 0 0) (.slice none 0 0) (.slice none 0 0)/\(∀ j,wx.frozen? ⟨w.heap.size,j,none⟩=false)/\w1.heap.size<=wx.heap.size):=fun wx hb=>⟨B1.out.1.trans (hb.mono B1.out.1.size),B1.out.2.1.below hb,fun j=>((bcell hb).2 _ j l1).trans (B1.out.2.2 j),hb.size⟩
   have HL1:Hid (w.heap.size<w1.heap.size):=l1
   clear B1 l1
   have hn':(y.pn:Int)<=4:=by have:=HN.out;omega
   have hx0:=(HX3.out _ (HX4.out _ F5.out.2).1).1
   go_wp2_with fail
   clear hx0
   go_loopw [34] (fun i wr=>∃ k:Nat,k<=y.pn/\i=.int .i64 k/\Hid ((∃ cl vs vh us uh,AtP true w1.heap.size N cl { y.atY d with sn:=k,hn:=k } wr (.slice a5 y.pn c5) vs (.slice a4 (y.atY d).wn c4) vh uu5 us u4 uh)/\Below w1.heap.size w1 wr)/\Hid (∀ p,p<k->(repO (y.pH p) (y.pL p) (y.hH p) (d p)).isSome=true)) (fun i _=>y.pn - (intOf i).toNat)
   case atStart=>exact ⟨0,Nat.zero_le _,rfl,⟨⟨_,_,_,_,_,F5.out.1⟩,F5.out.2⟩,fun p hp=>by omega⟩
   case round=>
    clear F5
    obtain ⟨k,hk,rfl,HZ,HPs⟩:=hrel
    by_cases hlt:k<y.pn
    ·have hlt':(k:Int)<(y.pn:Int):=by omega
     obtain ⟨hbw,-,-,hle3⟩:=HX4.out wr HZ.out.2
     obtain ⟨-,hrw,hpw,-⟩:=HX3.out wr hbw
     have RW:Hid (Below w.heap.size w wr):=hbw
     obtain ⟨be,oe,rfl,ce⟩:=hrw.row.at hlt
     obtain ⟨bp,op,rfl,cp⟩:=hpw.at hlt
     obtain ⟨⟨cl,vs,vh,us,uh,hA⟩,hbz⟩:=HZ.out
     have AP:Hid (AtP true w1.heap.size N cl { y.atY d with sn:=k,hn:=k } wr (.slice a5 y.pn c5) vs (.slice a4 (y.atY d).wn c4) vh uu5 us u4 uh):=hA
     have BZ:Hid (Below w1.heap.size w1 wr):=hbz
     clear hA hbz HZ hle3 hbw hrw hpw
     replace ce:wr.cell? ⟨be,oe+k,none⟩=some (.slice (eA k) (d k) (eC k)):=ce
     go_wp2_with fail
     refine (HR.out wr RW.out k hlt).mono ?_
     rintro e w6 ⟨v6,rfl,o6,q6⟩
     obtain ⟨ra1,rc1,oa1,oc1,rfl,-,-⟩:=o6.read
     clear ce cp
     have S6:Hid (StOwn w6 wr.heap.size (stV ((y.atY d).sS k).p ra1 ((y.atY d).sS k).rs.length rc1 oa1 ((y.atY d).sS k).os.length oc1 ((y.atY d).sS k).c) ((y.atY d).sS k).p ((y.atY d).sS k).rs ((y.atY d).sS k).os ((y.atY d).sS k).c/\Below wr.heap.size wr w6):=⟨o6,q6⟩
     clear o6 q6
     generalize hTT:(y.atY d).sS k=T at *
     have HTT:Hid ((y.atY d).sS k=T):=hTT
     clear hTT
     generalize hrb:(repO (y.pH k) (y.pL k) (y.hH k) (d k)).isSome=rb at *
     have HRB:Hid ((repO (y.pH k) (y.pL k) (y.hH k) (d k)).isSome=rb):=hrb
     clear hrb
     have N7:Hid (BoxC (w6.alloc (oQ1 T.p ra1 T.rs.length rc1 oa1 T.os.length oc1 T.c)) w6.heap.size (.int .i64 T.p) (.slice ra1 T.rs.length rc1) (.slice oa1 T.os.length oc1) (.int .i64 T.c)/\Below wr.heap.size wr (w6.alloc (oQ1 T.p ra1 T.rs.length rc1 oa1 T.os.length oc1 T.c))/\StOwn (w6.alloc (oQ1 T.p ra1 T.rs.length rc1 oa1 T.os.length oc1 T.c)) wr.heap.size (stV T.p ra1 T.rs.length rc1 oa1 T.os.length oc1 T.c) T.p T.rs T.os T.c):=⟨BoxC.new w6 _ _ _ _ _,S6.out.2.trans ((zP _ _).mono S6.out.2.size),S6.out.1.below (zP _ _)⟩
     go_upto_region 11 with fail
     clear S6
     generalize w6.alloc (oQ1 T.p ra1 T.rs.length rc1 oa1 T.os.length oc1 T.c)=w7 at *
     generalize hN7:w6.heap.size=S7 at *
     clear hN7 w6
     cases rb with
     | false=>
      have hnr:¬ y.Rpl d:=fun h=>by
       have h1:=h k hlt
       rw [HRB.out] at h1
       cases h1
      have HV:Hid (R=false/\RS=y.nil):=⟨HC3.out hnr,HNO.out (HC3.out hnr)⟩
      have Q7:Hid (Below w1.heap.size w1 w7):=BZ.out.trans (N7.out.2.1.mono BZ.out.size)
      obtain ⟨hb7,⟨r0,r1,r2,r3⟩,rf,-⟩:=HX4.out w7 Q7.out
      have B7:Hid (Below w.heap.size w w7):=hb7
      clear hb7 hnr HC3 HC6 HNO HYES HX3 HX4 HR HK HVx AP BZ N7 RW HRB HTT HPs
      go_wp2
      exact bodyPost_ret (v:=.tuple #[sysV none 0 0 none 0 0 none 0 0 none 0 0,.bool false]) (by simp [results,Tryz.results17,go_sem,r0,r1,r2,r3]) rfl ⟨_,by rw [HV.out.1],by rw [HV.out.2];exact OwnSys.zero _ _ _,(((B7.out.setCell hM _).setCell hM _).setCell hM _).setCell hM _⟩
     | true=>
      have HPs':Hid (∀ p,p<k+1->(repO (y.pH p) (y.pL p) (y.hH p) (d p)).isSome=true):=fun p hp=>by
       by_cases e:p=k
       ·subst e
        exact HRB.out
       ·exact HPs.out p (by omega)
      clear HPs HRB
      go_upto_region 13 with fail
      obtain ⟨sa,sc,rfl⟩:=zT AP.out.o.s.row
      obtain ⟨ha,hc,rfl⟩:=zT AP.out.o.h.row
      obtain ⟨x0,x1,x2,x3⟩:=(AP.out.below N7.out.2.1).bx
      obtain ⟨s0,s1,s2,s3⟩:=N7.out.1
      have hk2:Hid (k<=2000000):=by show k<=2000000;omega
      have lN7:N<w7.heap.size:=zJ _ _ x0
      have lS7:S7<w7.heap.size:=zJ _ _ s0
      go_upto_region 14 with (at_builtin;refine step_append_val kndS w7 rfl rfl _ _ rfl 0 (.slice sa k sc) k _ rfl (AP.out.o.s.below N7.out.2.1).row #[.int .i64 T.p,.slice ra1 T.rs.length rc1,.slice oa1 T.os.length oc1,.int .i64 T.c] rfl rfl (by intro u hu;simp at hu;rcases hu with rfl | rfl | rfl | rfl <;> rfl) hk2.out (Nat.zero_le _) ?_;intro v8 w8 o8 g8 q8 n8;obtain ⟨a8,c8,rfl⟩:=zT o8;obtain ⟨⟨z0,z1,z2,z3⟩,zf⟩:=AP.out.box N7.out.2.1 g8 (fun k hk=>(AP.out.gS k hk).2);have F8:Hid (AtP true w1.heap.size N (rcol cl wr.heap.size 2) { y.atY d with sn:=k+1,hn:=k } (w8.setCell ⟨N,1,none⟩ (.slice a8 (k+1) c8)) (.slice a5 y.pn c5) (.slice a8 (k+1) c8) (.slice a4 (y.atY d).wn c4) (.slice ha k hc) uu5 (fun j=>if j=k then stV T.p ra1 T.rs.length rc1 oa1 T.os.length oc1 T.c else us j) u4 uh/\Below w1.heap.size w1 (w8.setCell ⟨N,1,none⟩ (.slice a8 (k+1) c8))):=⟨AP.out.state N7.out.2.1 (by rw [HTT.out];exact N7.out.2.2) o8 g8 q8,(Below.grown (BZ.out.trans (N7.out.2.1.mono BZ.out.size)) g8 (zO BZ.out.size N7.out.2.1.size) (fun j hj=>(AP.out.gS j hj).1)).setCell AP.out.bN _⟩;clear o8 g8 q8 n8)
      clear x0 x1 x2 x3 s0 s1 s2 s3 z0 z1 z2 z3 zf lN7 lS7 N7 AP
      generalize w8.setCell ⟨N,1,none⟩ (.slice a8 (k+1) c8)=w9 at *
      clear w8
      obtain ⟨x0,x1,x2,x3⟩:=F8.out.1.bx
      have lN9:N<w9.heap.size:=F8.out.1.lt
      have q0:Below w9.heap.size w9 w9.drew:=(Below.refl w9.heap.size w9).drew
      obtain ⟨hbw,-⟩:=HX4.out w9.drew (F8.out.2.trans (q0.mono F8.out.2.size))
      refine wp_region_G (fun w'=>w'.cell? ⟨N,3,none⟩=some (.slice ha k hc)) (fun i=>i == 7) (by kernel_rfl) ?_
      have hHeld:(fun w':World=>w'.cell? ⟨N,3,none⟩=some (.slice ha k hc)) w9.drew:=(q0.cell (p:=⟨N,3,none⟩) lN9).trans x3
      refine wpGT_of [0,1,2] ?_
      iterate 3 (refine wpGT_k rfl hHeld ?_)
      refine wpGT_nil ?_
      refine wpG_one 3 rfl (by kernel_rfl) (fun K hK=>?_)
      refine stepR_call rfl 49 _ _ rfl #[.slice (eA k) (d k) (eC k)] (by simp [Act.eval]) (zZ Tryz.func49 (by kernel_rfl) rfl) (HK.out w9.drew hbw k hlt) ?_
      rintro e w10 ⟨a10,c10,rfl,o10,n10,d10⟩
      refine ⟨_,rfl,?_⟩
      have Q10:Hid (Below w9.heap.size w9 w10/\w10.ownsRow w9.heap.size 46 3 (.slice a10 (d k) c10) (d k) (fE (y.hH k) (d k))/\Value.slice a10 (d k) c10≠.slice none 0 0):=⟨q0.trans (d10.mono q0.size),o10,n10⟩
      refine hK.out _ _ (fun _=>(Q10.out.1.cell (p:=⟨N,3,none⟩) lN9).trans x3) ?_
      clear hHeld hK K o10 n10 d10 hbw q0
      (try simp only [Act.put,zD,zE,zF])
      refine wpG_one 4 rfl (by kernel_rfl) (fun K hK=>?_)
      go_simp
      refine hK.out _ _ (fun _=>((Q10.out.1.trans ((zP w10 _).mono Q10.out.1.size)).cell (p:=⟨N,3,none⟩) lN9).trans x3) ?_
      clear hK K
      (try simp only [Act.put,zD,zE,zF])
      refine wpG_one 5 rfl (by kernel_rfl) (fun K hK=>?_)
      refine stepR_append_val kndEE w10 rfl rfl _ _ rfl 0 (.slice ha k hc) k _ rfl (F8.out.1.o.h.below Q10.out.1).row #[.slice a10 (d k) c10] rfl rfl (by intro u hu;simp at hu;subst hu;rfl) hk2.out (Nat.zero_le _) ?_
      intro v11 w11 o11 g11 q11 n11
      obtain ⟨a11,c11,rfl⟩:=zT o11
      obtain ⟨⟨z0,z1,z2,z3⟩,zf⟩:=F8.out.1.box Q10.out.1 g11 (fun k hk=>(F8.out.1.gH k hk).2)
      have F9:Hid (AtP true w1.heap.size N (rcol (rcol cl wr.heap.size 2) w9.heap.size 4) { y.atY d with sn:=k+1,hn:=k+1 } (w11.setCell ⟨N,3,none⟩ (.slice a11 (k+1) c11)) (.slice a5 y.pn c5) (.slice a8 (k+1) c8) (.slice a4 (y.atY d).wn c4) (.slice a11 (k+1) c11) uu5 (fun j=>if j=k then stV T.p ra1 T.rs.length rc1 oa1 T.os.length oc1 T.c else us j) u4 (fun j=>if j=k then .slice a10 (d k) c10 else uh j)/\Below w1.heap.size w1 (w11.setCell ⟨N,3,none⟩ (.slice a11 (k+1) c11))):=⟨F8.out.1.hist Q10.out.1 Q10.out.2.1 Q10.out.2.2 o11 g11 q11,(Below.grown (F8.out.2.trans (Q10.out.1.mono F8.out.2.size)) g11 (zO F8.out.2.size Q10.out.1.size) (fun j hj=>(F8.out.1.gH j hj).1)).setCell F8.out.1.bN _⟩
      refine hK.out _ _ (fun _=>z3) ?_
      clear o11 g11 q11 n11 hK K
      (try simp only [Act.put,zD,zE,zF])
      have hHeld:(fun w':World=>w'.cell? ⟨N,3,none⟩=some (.slice ha k hc)) w11:=z3
      refine wpG_k 6 rfl hHeld ?_
      refine wpG_one 7 rfl (by kernel_rfl) (fun K hK=>?_)
      have hfN1:=zf 3
      go_simp
      refine hK.out _ _ (fun h=>?_) ?_
      ·exact absurd h (by decide)
      clear hK K z0 z1 z2 z3 zf hfN1 x0 x1 x2 x3 Q10 F8 lN9
      (try simp only [Act.put])
      refine wpG_done (by kernel_rfl) ?_ _
      go_wp2
      go_roundw
      case rel=>exact ⟨k+1,by omega,by go_num,⟨⟨_,_,_,_,_,F9.out.1⟩,F9.out.2⟩,HPs'.out⟩
      case measure=>simp [intOf];omega
    ·have hkn:k=y.pn:=by omega
     subst hkn
     have hlt':¬ (y.pn:Int)<(y.pn:Int):=by omega
     have hr1:R=true:=HC6.out fun p hp=>HPs.out p hp
     have HV:Hid (R=true/\RS=y.atY d):=⟨hr1,HYES.out hr1⟩
     obtain ⟨⟨cl,vs,vh,us,uh,hA⟩,hbz⟩:=HZ.out
     obtain ⟨sa,sc,rfl⟩:=zT hA.o.s.row
     obtain ⟨ha,hc,rfl⟩:=zT hA.o.h.row
     obtain ⟨x0,x1,x2,x3⟩:=hA.bx
     obtain ⟨hbw,⟨r0,r1,r2,r3⟩,rf,hle3⟩:=HX4.out wr hbz
     have OS:Hid (OwnSys true wr w1.heap.size (y.atY d) (.agg #[.slice a5 y.pn c5,.slice sa y.pn sc,.slice a4 (y.atY d).wn c4,.slice ha y.pn hc])):=⟨_,_,_,_,_,_,_,_,_,rfl,hA.o⟩
     have BW:Hid (Below w.heap.size w wr/\w.heap.size<=w1.heap.size):=⟨hbw,by have:=HL1.out;omega⟩
     have lN:N<wr.heap.size:=hA.lt
     have hNr:w1.heap.size<=N:=hA.bN
     have l1:=HL1.out
     have hl1:w.heap.size<wr.heap.size:=by omega
     clear hA HZ hbw hbz HX3 HX4 hr1 HC3 HC6 HNO HYES HPs
     go_wp2
     exact bodyPost_ret (v := .tuple #[.agg #[.slice a5 y.pn c5, .slice sa y.pn sc, .slice a4 (y.atY d).wn c4, .slice ha y.pn hc], .bool true]) (by simp [results, Tryz.results17, go_sem, r0, r1, r2, r3]) rfl ⟨_, by rw [HV.out.1], by
      rw [HV.out.2]
      exact ((((OS.out.setBelow l1 0 _).setBelow l1 1 _).setBelow l1 2 _).setBelow l1 3 _).base BW.out.2,(((BW.out.1.setCell hM _).setCell hM _).setCell hM _).setCell hM _⟩
theorem open_byteS {H:Type} {enc:TypeId × Value->H} {w:World} {a0:Option Addr} {len cap:Nat} {d:DataW H} {p:List MemPlace}
  (h:DataW.Trod enc Tryz.prog w 0 (fun _=>true) true 22 (.slice a0 len cap) d p):len<=maxLen/\∃ ys:List Int,ys.length=len/\SlB w a0 ys/\By ys:=by
 obtain ⟨fuel,hf⟩:=h
 rcases open_ints Tryz.underlying22 Tryz.underlying5 (by kernel_rfl) hf with ⟨hcs,_⟩ | ⟨x,l,c,zs,hcs,_,hl,hm,hz,_,hcell,hwz⟩
 ·simp [Value.cells] at hcs
  obtain ⟨_,rfl,_⟩:=hcs
  exact ⟨Nat.zero_le _,[],rfl,.inl rfl,fun i hi=>by simp at hi⟩
 ·simp [Value.cells] at hcs
  obtain ⟨rfl,rfl,rfl⟩:=hcs
  refine ⟨zO hl hm,?_⟩
  have hz':zs.length=cap:=by simpa using hz
  have hl':(zs.take len).length=len:=by rw [List.length_take];omega
  have hby:By (zs.take len):=fun j hj=>by
   rw [hl'] at hj
   rw [zi_take _ _ _ hj]
   have hmem:zs.getD j 0 ∈ zs:=by
    rw [List.getD_eq_getElem?_getD,List.getElem?_eq_getElem (by omega)]
    exact List.getElem_mem _
   exact bounds_u8 (hwz _ hmem)
  refine ⟨zs.take len,hl',?_,hby⟩
  by_cases h0:len=0
  ·left
   rw [h0,List.take_zero]
  right
  obtain ⟨b,off,rfl,hc⟩:=ints_at hcell (by omega)
  refine ⟨b,off,rfl,cell_lt (hc 0 (by omega)),fun j hj=>?_⟩
  rw [hl'] at hj
  rw [zi_take _ _ _ hj]
  exact hc j (by omega)
theorem OwnB.sl2 {w:World} {B n cap:Nat} {a0:Option Addr} {xs:List Int} (h:OwnB w B (.slice a0 n cap) xs):SlB w a0 xs:=by
 obtain ⟨a1,c1,e,s⟩:=h.form
 simp only [Value.slice.injEq] at e
 obtain ⟨rfl,-,-⟩:=e
 exact s
theorem Tryz.et : Tryz.prog.globalNamed "errors.errorType" = some 0 := by kernel_rfl
theorem Tryz.rt : (Tryz.prog.cutTypes.find? (·.1 == "internal/reflectlite.rtype")).map (·.2) = some 169 := by kernel_rfl
theorem Tryz.oneRow:((List.range 251).filter fun t=>Tryz.prog.rowNamed t [101,114,114,111,114])=[120]:=by kernel_rfl
theorem Tryz.tsize:Tryz.prog.types.size=251:=by kernel_rfl
theorem handle_of_laid {W : World} (h : laidMetH Tryz.prog [("errors.errorType", Rows.laid_errors_errorType)] W) : W.cell? ⟨0, 0, none⟩ = some (.iface 169 (.agg #[.pointer (some ⟨1, 120, none⟩)])) := by
 have h' : laidMet Tryz.prog [] W /\ handlesMet Tryz.prog [("errors.errorType", Rows.laid_errors_errorType)] W := h
 obtain ⟨name,u,ty,e1,e2,e3,e4,e5⟩:=h'.2 _ (List.mem_singleton.2 rfl)
 have en:name=[101,114,114,111,114]:=(Option.some.inj e1).symm
 subst en
 obtain rfl:=Option.some.inj (Tryz.rt.symm.trans e2)
 have hm:ty ∈ (List.range 251).filter fun t=>Tryz.prog.rowNamed t [101,114,114,111,114]:=List.mem_filter.2 ⟨List.mem_range.2 (by rw [<- Tryz.tsize];exact e3),e4⟩
 rw [Tryz.oneRow] at hm
 obtain rfl:=List.mem_singleton.1 hm
 have hh:typeHandle Tryz.prog 120=.pointer (some ⟨1,120,none⟩):=by kernel_rfl
 rw [hh] at e5
 simpa using World.var?_cell Tryz.et e5 0
noncomputable def laidWorld (os:Os):World:=
 let w0:=World.holding Tryz.prog os ⟨#[],#[],[]⟩
 { w0 with heap := w0.heap.modify 0 fun
   | .cells _ t frozen=>.cells #[.iface 169 (.agg #[.pointer (some ⟨1,120,none⟩)])] t frozen
   | o=>o }
theorem laidWorld_met (os : Os) (args : Array Value) : laidMetH Tryz.prog [("errors.errorType", Rows.laid_errors_errorType)] ((laidWorld os).forCall (fun _ _ => 0) ⟨#[], args, []⟩).memory :=
 laidMetH_of_parts (laidMet_nil _ _) (by kernel_rfl)
