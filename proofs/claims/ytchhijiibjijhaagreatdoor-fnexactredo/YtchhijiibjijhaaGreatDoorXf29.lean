import Derived.Test.YtchhijiibjijhaaGreatDoorXf28
import Derived.LaidEql
import Derived.Stop.Asserts
import Derived.RowKitTokens
import Derived.Test.YtchhijiibjijhaaGreatDoorTie
import Derived.ChangeSame
import Derived.ChangeVars
import Derived.JoinedOf
import Derived.RowKit
import Derived.LaidLaws
import Derived.LaidHandle
import Derived.Stop.Joined
namespace Go.Proofs.YtchhijiibjijhaaGreatDoor
set_option maxRecDepth 100000
set_option maxHeartbeats 1000000
open Go.ChangeShapes Go.WideShapes Go.ChangeAt Go.RowKit Go.Deep
def mkI (k:Int) (i:Nat):I5:=⟨k+5*i,k+5*i+1,k+5*i+1+1,k+5*i+1+1+1,k+5*i+1+1+1+1⟩
def mkT (k:Int) (i:Nat):I2:=⟨(k+2*i) % 3 == 0,k+2*i+1⟩
def mkEv (k:Int) (i:Nat):E3:=⟨k+3*i,k+3*i+1,k+3*i+1+1⟩
theorem qro {f:Nat->List Value} {n i:Nat} (hl:∀ j,j<n->(f j).length=2) (hi:i<n) (a b:Value):
  flat (fun j=>if j=i then [a,b] else f j) n=((flat f n).set (i*2) a).set (i*2+1) b:=by
 have hl':∀ j,j<n->((fun j=>if j=i then [a,b] else f j) j).length=2:=fun j hj=>by
  by_cases e:j=i
  ·simp [e]
  ·simp [e,hl j hj]
 have n1:=qbj hl
 have n2:=qbj hl'
 apply List.ext_getElem?
 intro q
 by_cases hq:q<n*2
 ·have hk:q / 2<n:=by omega
  have hr:q % 2<2:=by omega
  have e0:q=q / 2*2+q % 2:=by omega
  have e1:=qbp hl' hk hr
  have e2:=qbp hl hk hr
  rw [<- e0] at e1 e2
  rw [e1]
  by_cases ei:q / 2=i
  ·simp only [if_pos ei]
   have hrK:q % 2=0\/q % 2=1:=by omega
   rcases hrK with h | h <;> rw [h] <;>
    (simp only [List.getElem?_set, List.length_set, n1]
     have:i<n:=hi
     repeat (first | rw [if_pos (by omega)] | rw [if_neg (by omega)])
     simp)
  ·simp only [if_neg ei]
   simp only [List.getElem?_set,List.length_set,n1]
   repeat rw [if_neg (by omega)]
   rw [e2]
 ·rw [List.getElem?_eq_none (by omega),List.getElem?_eq_none (by simp only [List.length_set];omega)]
theorem qrp {f:Nat->List Value} {n i:Nat} (hl:∀ j,j<n->(f j).length=3) (hi:i<n) (a b c:Value):
  flat (fun j=>if j=i then [a,b,c] else f j) n=(((flat f n).set (i*3) a).set (i*3+1) b).set (i*3+2) c:=by
 have hl':∀ j,j<n->((fun j=>if j=i then [a,b,c] else f j) j).length=3:=fun j hj=>by
  by_cases e:j=i
  ·simp [e]
  ·simp [e,hl j hj]
 have n1:=qbj hl
 have n2:=qbj hl'
 apply List.ext_getElem?
 intro q
 by_cases hq:q<n*3
 ·have hk:q / 3<n:=by omega
  have hr:q % 3<3:=by omega
  have e0:q=q / 3*3+q % 3:=by omega
  have e1:=qbp hl' hk hr
  have e2:=qbp hl hk hr
  rw [<- e0] at e1 e2
  rw [e1]
  by_cases ei:q / 3=i
  ·simp only [if_pos ei]
   have hrK:q % 3=0\/q % 3=1\/q % 3=2:=by omega
   rcases hrK with h | h | h <;> rw [h] <;>
    (simp only [List.getElem?_set, List.length_set, n1]
     have:i<n:=hi
     repeat (first | rw [if_pos (by omega)] | rw [if_neg (by omega)])
     simp)
  ·simp only [if_neg ei]
   simp only [List.getElem?_set,List.length_set,n1]
   repeat rw [if_neg (by omega)]
   rw [e2]
 ·rw [List.getElem?_eq_none (by omega),List.getElem?_eq_none (by simp only [List.length_set];omega)]
theorem qrq {f:Nat->List Value} {n i:Nat} (hl:∀ j,j<n->(f j).length=5) (hi:i<n) (a b c d e:Value):
  flat (fun j=>if j=i then [a,b,c,d,e] else f j) n=(((((flat f n).set (i*5) a).set (i*5+1) b).set (i*5+2) c).set (i*5+3) d).set (i*5+4) e:=by
 have hl':∀ j,j<n->((fun j=>if j=i then [a,b,c,d,e] else f j) j).length=5:=fun j hj=>by
  by_cases e:j=i
  ·simp [e]
  ·simp [e,hl j hj]
 have n1:=qbj hl
 have n2:=qbj hl'
 apply List.ext_getElem?
 intro q
 by_cases hq:q<n*5
 ·have hk:q / 5<n:=by omega
  have hr:q % 5<5:=by omega
  have e0:q=q / 5*5+q % 5:=by omega
  have e1:=qbp hl' hk hr
  have e2:=qbp hl hk hr
  rw [<- e0] at e1 e2
  rw [e1]
  by_cases ei:q / 5=i
  ·simp only [if_pos ei]
   have hrK:q % 5=0\/q % 5=1\/q % 5=2\/q % 5=3\/q % 5=4:=by omega
   rcases hrK with h | h | h | h | h <;> rw [h] <;>
    (simp only [List.getElem?_set, List.length_set, n1]
     have:i<n:=hi
     repeat (first | rw [if_pos (by omega)] | rw [if_neg (by omega)])
     simp)
  ·simp only [if_neg ei]
   simp only [List.getElem?_set,List.length_set,n1]
   repeat rw [if_neg (by omega)]
   rw [e2]
 ·rw [List.getElem?_eq_none (by omega),List.getElem?_eq_none (by simp only [List.length_set];omega)]
theorem qmt (b n cap B:Nat) (h:Nat->I5) (k:Int) (w:World) (hlen:n<=1048576) (k0:0<=k) (k1:k<=100000000) (o:w.ownsRow B 115 5 (.slice (some ⟨b,0,none⟩) n cap) n (fI h n)):
  Calls Tryz.prog 106 #[.slice (some ⟨b,0,none⟩) n cap,.int .i64 k] w fun e w'=>e=.returned (.int .i64 (k+5*n))/\w.grownBy w' (some b)/\w'.ownsRow B 115 5 (.slice (some ⟨b,0,none⟩) n cap) n (fI (mkI k) n):=by
 have hl':(n:Int)<=1048576:=by omega
 have HO:Hid (w.ownsRow B 115 5 (.slice (some ⟨b,0,none⟩) n cap) n (fI h n)):=o
 clear o
 go_enter Tryz.func106,Tryz.ntmps106
 go_wp2_with fail
 go_loopw [1,5] (fun q i wr=>∃ j:Nat,j<=n/\i=.int .i64 j/\q=.int .i64 (k+5*j)/\Hid (wr.ownsRow B 115 5 (.slice (some ⟨b,0,none⟩) n cap) n (flat (fun t=>cI (if t<j then mkI k t else h t)) n)/\w.grownBy wr (some b))) (fun _ i _=>n - (intOf i).toNat)
 case atStart=>
  refine ⟨0,Nat.zero_le _,rfl,by simp,?_,World.grownBy.refl _ _⟩
  have e:flat (fun t=>cI (if t<0 then mkI k t else h t)) n=fI h n:=qay fun t _=>by rw [if_neg (by omega)]
  rw [e]
  exact HO.out
 case round=>
  clear HO
  obtain ⟨j,hj,rfl,rfl,HR⟩:=hrel
  by_cases hlt:j<n
  ·have hlt':(j:Int)<(n:Int):=by omega
   have hc:∀ r,r<5->wr.cell? ⟨b,j*5+r,none⟩=(cI (h j))[r]?:=fun r hr=>by
    rw [HR.out.1.cellAt _ (by omega)]
    have e:=qbp (sz:=5) (f:=(fun t=>cI (if t<j then mkI k t else h t))) (n:=n) (fun _ _=>rfl) hlt hr
    rw [if_neg (by omega)] at e
    exact e
   have c0:=hc 0 (by omega)
   have c1:=hc 1 (by omega)
   have c2:=hc 2 (by omega)
   have c3:=hc 3 (by omega)
   have c4:=hc 4 (by omega)
   simp only [cI,Nat.add_zero,List.getElem?_cons_zero,List.getElem?_cons_succ] at c0 c1 c2 c3 c4
   have fz:∀ o,wr.frozen? ⟨b,o,none⟩=false:=fun o=>HR.out.1.frozenAt o
   clear hc
   go_wp2
   go_roundw
   case rel=>
    refine ⟨j+1,by omega,by go_num,by go_num,?_,?_⟩
    ·have e:flat (fun t=>cI (if t<j+1 then mkI k t else h t)) n=flat (fun t=>if t=j then cI (mkI k j) else (fun t=>cI (if t<j then mkI k t else h t)) t) n:=qay fun t _=>by
      by_cases e:t=j
      ·rw [if_pos e,if_pos (by omega),e]
      ·rw [if_neg e]
       show cI (if t<j+1 then mkI k t else h t)=cI (if t<j then mkI k t else h t)
       by_cases e2:t<j
       ·rw [if_pos e2,if_pos (by omega)]
       ·rw [if_neg e2,if_neg (by omega)]
     have e2:=qrq (f:=(fun t=>cI (if t<j then mkI k t else h t))) (n:=n) (i:=j) (fun _ _=>rfl) hlt (.int .i64 (k+5*(j:Int))) (.int .i64 (k+5*(j:Int)+1)) (.int .i64 (k+5*(j:Int)+1+1)) (.int .i64 (k+5*(j:Int)+1+1+1)) (.int .i64 (k+5*(j:Int)+1+1+1+1))
     rw [e]
     refine Eq.mpr (congrArg (fun l=>World.ownsRow _ B 115 5 (.slice (some ⟨b,0,none⟩) n cap) n l) e2) ?_
     exact (World.ownsRow.stored (World.ownsRow.stored (World.ownsRow.stored (World.ownsRow.stored (World.ownsRow.stored HR.out.1 (j*5) (.int .i64 (k+5*(j:Int)))).1 (j*5+1) (.int .i64 (k+5*(j:Int)+1))).1 (j*5+2) (.int .i64 (k+5*(j:Int)+1+1))).1 (j*5+3) (.int .i64 (k+5*(j:Int)+1+1+1))).1 (j*5+4) (.int .i64 (k+5*(j:Int)+1+1+1+1))).1
    ·repeat (refine zV ?_ (.inl rfl) _)
     exact HR.out.2
   case measure=>simp [intOf];omega
  ·have hjl:j=n:=by omega
   subst hjl
   have HF:Hid (w.grownBy wr (some b)/\wr.ownsRow B 115 5 (.slice (some ⟨b,0,none⟩) j cap) j (fI (mkI k) j)):=by
    refine ⟨HR.out.2,?_⟩
    have e:flat (fun t=>cI (if t<j then mkI k t else h t)) j=fI (mkI k) j:=qay fun t ht=>by rw [if_pos ht]
    have:=HR.out.1
    rw [e] at this
    exact this
   clear HR
   go_wp2
   go_ret
   exact ⟨rfl,HF.out⟩
theorem qmi (b n cap:Nat) (k:Int) (w:World) (hlen:n<=1048576) (k0:0<=k) (k1:k<=100000000) (hb:b<w.heap.size) (h:qaj w b 0 n (mkI k)):
  Calls Tryz.prog 109 #[.slice (some ⟨b,0,none⟩) n cap,.int .i64 k] w fun e w'=>e=.returned (.int .i64 (k+5*n))/\Below w.heap.size w w':=by
 have hl':(n:Int)<=1048576:=by omega
 have HO:Hid (qaj w b 0 n (mkI k)/\b<w.heap.size):=⟨h,hb⟩
 clear h hb
 go_enter Tryz.func109,Tryz.ntmps109
 go_wp2_with fail
 go_loopw [1,5] (fun q i wr=>∃ j:Nat,j<=n/\i=.int .i64 j/\q=.int .i64 (k+5*j)/\Below w.heap.size w wr) (fun _ i _=>n - (intOf i).toNat)
 case atStart=>exact ⟨0,Nat.zero_le _,rfl,by simp,Below.refl _ _⟩
 case round=>
  obtain ⟨j,hj,rfl,rfl,hbw⟩:=hrel
  by_cases hlt:j<n
  ·have hlt':(j:Int)<(n:Int):=by omega
   obtain ⟨d0,d1,d2,d3,d4⟩:=HO.out.1 j hlt
   have c0:wr.cell? ⟨b,j*5,none⟩=some (.int .i64 (k+5*(j:Int))):=(hbw.cell (p:=⟨b,j*5,none⟩) HO.out.2).trans (by have d:=d0;rw [Nat.zero_add] at d;exact d)
   have c1:wr.cell? ⟨b,j*5+1,none⟩=some (.int .i64 (k+5*(j:Int)+1)):=(hbw.cell (p:=⟨b,j*5+1,none⟩) HO.out.2).trans (by have d:=d1;rw [Nat.zero_add] at d;exact d)
   have c2:wr.cell? ⟨b,j*5+2,none⟩=some (.int .i64 (k+5*(j:Int)+1+1)):=(hbw.cell (p:=⟨b,j*5+2,none⟩) HO.out.2).trans (by have d:=d2;rw [Nat.zero_add] at d;exact d)
   have c3:wr.cell? ⟨b,j*5+3,none⟩=some (.int .i64 (k+5*(j:Int)+1+1+1)):=(hbw.cell (p:=⟨b,j*5+3,none⟩) HO.out.2).trans (by have d:=d3;rw [Nat.zero_add] at d;exact d)
   have c4:wr.cell? ⟨b,j*5+4,none⟩=some (.int .i64 (k+5*(j:Int)+1+1+1+1)):=(hbw.cell (p:=⟨b,j*5+4,none⟩) HO.out.2).trans (by have d:=d4;rw [Nat.zero_add] at d;exact d)
   clear d0 d1 d2 d3 d4
   go_wp2
   go_roundw
   case rel=>exact ⟨j+1,by omega,by go_num,by go_num,hbw⟩
   case measure=>simp [intOf];omega
  ·have hjl:j=n:=by omega
   subst hjl
   go_wp2
   go_ret
   exact ⟨rfl,hbw⟩
theorem qkn (b n cap B:Nat) (h:Nat->I2) (k:Int) (w:World) (hlen:n<=1048576) (k0:0<=k) (k1:k<=100000000) (o:w.ownsRow B 138 2 (.slice (some ⟨b,0,none⟩) n cap) n (fT h n)):
  Calls Tryz.prog 107 #[.slice (some ⟨b,0,none⟩) n cap,.int .i64 k] w fun e w'=>e=.returned (.int .i64 (k+2*n))/\w.grownBy w' (some b)/\w'.ownsRow B 138 2 (.slice (some ⟨b,0,none⟩) n cap) n (fT (mkT k) n):=by
 have hl':(n:Int)<=1048576:=by omega
 have HO:Hid (w.ownsRow B 138 2 (.slice (some ⟨b,0,none⟩) n cap) n (fT h n)):=o
 clear o
 go_enter Tryz.func107,Tryz.ntmps107
 go_wp2_with fail
 go_loopw [1,5] (fun q i wr=>∃ j:Nat,j<=n/\i=.int .i64 j/\q=.int .i64 (k+2*j)/\Hid (wr.ownsRow B 138 2 (.slice (some ⟨b,0,none⟩) n cap) n (flat (fun t=>cT (if t<j then mkT k t else h t)) n)/\w.grownBy wr (some b))) (fun _ i _=>n - (intOf i).toNat)
 case atStart=>
  refine ⟨0,Nat.zero_le _,rfl,by simp,?_,World.grownBy.refl _ _⟩
  have e:flat (fun t=>cT (if t<0 then mkT k t else h t)) n=fT h n:=qay fun t _=>by rw [if_neg (by omega)]
  rw [e]
  exact HO.out
 case round=>
  clear HO
  obtain ⟨j,hj,rfl,rfl,HR⟩:=hrel
  by_cases hlt:j<n
  ·have hlt':(j:Int)<(n:Int):=by omega
   have hc:∀ r,r<2->wr.cell? ⟨b,j*2+r,none⟩=(cT (h j))[r]?:=fun r hr=>by
    rw [HR.out.1.cellAt _ (by omega)]
    have e:=qbp (sz:=2) (f:=(fun t=>cT (if t<j then mkT k t else h t))) (n:=n) (fun _ _=>rfl) hlt hr
    rw [if_neg (by omega)] at e
    exact e
   have c0:=hc 0 (by omega)
   have c1:=hc 1 (by omega)
   simp only [cT,Nat.add_zero,List.getElem?_cons_zero,List.getElem?_cons_succ] at c0 c1
   have fz:∀ o,wr.frozen? ⟨b,o,none⟩=false:=fun o=>HR.out.1.frozenAt o
   clear hc
   go_wp2
   go_roundw
   case rel=>
    refine ⟨j+1,by omega,by go_num,by go_num,?_,?_⟩
    ·have e:flat (fun t=>cT (if t<j+1 then mkT k t else h t)) n=flat (fun t=>if t=j then cT (mkT k j) else (fun t=>cT (if t<j then mkT k t else h t)) t) n:=qay fun t _=>by
      by_cases e:t=j
      ·rw [if_pos e,if_pos (by omega),e]
      ·rw [if_neg e]
       show cT (if t<j+1 then mkT k t else h t)=cT (if t<j then mkT k t else h t)
       by_cases e2:t<j
       ·rw [if_pos e2,if_pos (by omega)]
       ·rw [if_neg e2,if_neg (by omega)]
     have e2:=qro (f:=(fun t=>cT (if t<j then mkT k t else h t))) (n:=n) (i:=j) (fun _ _=>rfl) hlt (.bool ((k+2*(j:Int)) % 3 == 0)) (.int .i64 (k+2*(j:Int)+1))
     rw [e]
     refine Eq.mpr (congrArg (fun l=>World.ownsRow _ B 138 2 (.slice (some ⟨b,0,none⟩) n cap) n l) e2) ?_
     exact (World.ownsRow.stored (World.ownsRow.stored HR.out.1 (j*2) (.bool ((k+2*(j:Int)) % 3 == 0))).1 (j*2+1) (.int .i64 (k+2*(j:Int)+1))).1
    ·repeat (refine zV ?_ (.inl rfl) _)
     exact HR.out.2
   case measure=>simp [intOf];omega
  ·have hjl:j=n:=by omega
   subst hjl
   have HF:Hid (w.grownBy wr (some b)/\wr.ownsRow B 138 2 (.slice (some ⟨b,0,none⟩) j cap) j (fT (mkT k) j)):=by
    refine ⟨HR.out.2,?_⟩
    have e:flat (fun t=>cT (if t<j then mkT k t else h t)) j=fT (mkT k) j:=qay fun t ht=>by rw [if_pos ht]
    have:=HR.out.1
    rw [e] at this
    exact this
   clear HR
   go_wp2
   go_ret
   exact ⟨rfl,HF.out⟩
theorem qj7 (b n cap:Nat) (k:Int) (w:World) (hlen:n<=1048576) (k0:0<=k) (k1:k<=100000000) (hb:b<w.heap.size) (h:ItAt w b 0 n (mkT k)):
  Calls Tryz.prog 110 #[.slice (some ⟨b,0,none⟩) n cap,.int .i64 k] w fun e w'=>e=.returned (.int .i64 (k+2*n))/\Below w.heap.size w w':=by
 have hl':(n:Int)<=1048576:=by omega
 have HO:Hid (ItAt w b 0 n (mkT k)/\b<w.heap.size):=⟨h,hb⟩
 clear h hb
 go_enter Tryz.func110,Tryz.ntmps110
 go_wp2_with fail
 go_loopw [1,5] (fun q i wr=>∃ j:Nat,j<=n/\i=.int .i64 j/\q=.int .i64 (k+2*j)/\Below w.heap.size w wr) (fun _ i _=>n - (intOf i).toNat)
 case atStart=>exact ⟨0,Nat.zero_le _,rfl,by simp,Below.refl _ _⟩
 case round=>
  obtain ⟨j,hj,rfl,rfl,hbw⟩:=hrel
  by_cases hlt:j<n
  ·have hlt':(j:Int)<(n:Int):=by omega
   obtain ⟨d0,d1⟩:=HO.out.1 j hlt
   have c0:wr.cell? ⟨b,j*2,none⟩=some (.bool ((k+2*(j:Int)) % 3 == 0)):=(hbw.cell (p:=⟨b,j*2,none⟩) HO.out.2).trans (by have d:=d0;rw [Nat.zero_add] at d;exact d)
   have c1:wr.cell? ⟨b,j*2+1,none⟩=some (.int .i64 (k+2*(j:Int)+1)):=(hbw.cell (p:=⟨b,j*2+1,none⟩) HO.out.2).trans (by have d:=d1;rw [Nat.zero_add] at d;exact d)
   clear d0 d1
   rcases zK ((k+2*(j:Int)) % 3 == 0) with t | t
   ·rw [t] at c0
    go_wp2_with fail
    exact ⟨⟨j+1,by omega,by go_num,by go_num,hbw⟩,by simp [intOf];omega⟩
   ·rw [t] at c0
    go_wp2_with fail
    exact ⟨⟨j+1,by omega,by go_num,by go_num,hbw⟩,by simp [intOf];omega⟩
  ·have hjl:j=n:=by omega
   subst hjl
   go_wp2
   go_ret
   exact ⟨rfl,hbw⟩
theorem qiy (b n cap B:Nat) (h:Nat->E3) (k:Int) (w:World) (hlen:n<=1048576) (k0:0<=k) (k1:k<=100000000) (o:w.ownsRow B 74 3 (.slice (some ⟨b,0,none⟩) n cap) n (fE h n)):
  Calls Tryz.prog 108 #[.slice (some ⟨b,0,none⟩) n cap,.int .i64 k] w fun e w'=>e=.returned (.int .i64 (k+3*n))/\w.grownBy w' (some b)/\w'.ownsRow B 74 3 (.slice (some ⟨b,0,none⟩) n cap) n (fE (mkEv k) n):=by
 have hl':(n:Int)<=1048576:=by omega
 have HO:Hid (w.ownsRow B 74 3 (.slice (some ⟨b,0,none⟩) n cap) n (fE h n)):=o
 clear o
 go_enter Tryz.func108,Tryz.ntmps108
 go_wp2_with fail
 go_loopw [1,5] (fun q i wr=>∃ j:Nat,j<=n/\i=.int .i64 j/\q=.int .i64 (k+3*j)/\Hid (wr.ownsRow B 74 3 (.slice (some ⟨b,0,none⟩) n cap) n (flat (fun t=>cE (if t<j then mkEv k t else h t)) n)/\w.grownBy wr (some b))) (fun _ i _=>n - (intOf i).toNat)
 case atStart=>
  refine ⟨0,Nat.zero_le _,rfl,by simp,?_,World.grownBy.refl _ _⟩
  have e:flat (fun t=>cE (if t<0 then mkEv k t else h t)) n=fE h n:=qay fun t _=>by rw [if_neg (by omega)]
  rw [e]
  exact HO.out
 case round=>
  clear HO
  obtain ⟨j,hj,rfl,rfl,HR⟩:=hrel
  by_cases hlt:j<n
  ·have hlt':(j:Int)<(n:Int):=by omega
   have hc:∀ r,r<3->wr.cell? ⟨b,j*3+r,none⟩=(cE (h j))[r]?:=fun r hr=>by
    rw [HR.out.1.cellAt _ (by omega)]
    have e:=qbp (sz:=3) (f:=(fun t=>cE (if t<j then mkEv k t else h t))) (n:=n) (fun _ _=>rfl) hlt hr
    rw [if_neg (by omega)] at e
    exact e
   have c0:=hc 0 (by omega)
   have c1:=hc 1 (by omega)
   have c2:=hc 2 (by omega)
   simp only [cE,Nat.add_zero,List.getElem?_cons_zero,List.getElem?_cons_succ] at c0 c1 c2
   have fz:∀ o,wr.frozen? ⟨b,o,none⟩=false:=fun o=>HR.out.1.frozenAt o
   clear hc
   go_wp2
   go_roundw
   case rel=>
    refine ⟨j+1,by omega,by go_num,by go_num,?_,?_⟩
    ·have e:flat (fun t=>cE (if t<j+1 then mkEv k t else h t)) n=flat (fun t=>if t=j then cE (mkEv k j) else (fun t=>cE (if t<j then mkEv k t else h t)) t) n:=qay fun t _=>by
      by_cases e:t=j
      ·rw [if_pos e,if_pos (by omega),e]
      ·rw [if_neg e]
       show cE (if t<j+1 then mkEv k t else h t)=cE (if t<j then mkEv k t else h t)
       by_cases e2:t<j
       ·rw [if_pos e2,if_pos (by omega)]
       ·rw [if_neg e2,if_neg (by omega)]
     have e2:=qrp (f:=(fun t=>cE (if t<j then mkEv k t else h t))) (n:=n) (i:=j) (fun _ _=>rfl) hlt (.int .i64 (k+3*(j:Int))) (.int .i64 (k+3*(j:Int)+1)) (.int .i64 (k+3*(j:Int)+1+1))
     rw [e]
     refine Eq.mpr (congrArg (fun l=>World.ownsRow _ B 74 3 (.slice (some ⟨b,0,none⟩) n cap) n l) e2) ?_
     exact (World.ownsRow.stored (World.ownsRow.stored (World.ownsRow.stored HR.out.1 (j*3) (.int .i64 (k+3*(j:Int)))).1 (j*3+1) (.int .i64 (k+3*(j:Int)+1))).1 (j*3+2) (.int .i64 (k+3*(j:Int)+1+1))).1
    ·repeat (refine zV ?_ (.inl rfl) _)
     exact HR.out.2
   case measure=>simp [intOf];omega
  ·have hjl:j=n:=by omega
   subst hjl
   have HF:Hid (w.grownBy wr (some b)/\wr.ownsRow B 74 3 (.slice (some ⟨b,0,none⟩) j cap) j (fE (mkEv k) j)):=by
    refine ⟨HR.out.2,?_⟩
    have e:flat (fun t=>cE (if t<j then mkEv k t else h t)) j=fE (mkEv k) j:=qay fun t ht=>by rw [if_pos ht]
    have:=HR.out.1
    rw [e] at this
    exact this
   clear HR
   go_wp2
   go_ret
   exact ⟨rfl,HF.out⟩
theorem qip (b n cap:Nat) (k:Int) (w:World) (hlen:n<=1048576) (k0:0<=k) (k1:k<=100000000) (hb:b<w.heap.size) (h:EvAt w b 0 n (mkEv k)):
  Calls Tryz.prog 111 #[.slice (some ⟨b,0,none⟩) n cap,.int .i64 k] w fun e w'=>e=.returned (.int .i64 (k+3*n))/\Below w.heap.size w w':=by
 have hl':(n:Int)<=1048576:=by omega
 have HO:Hid (EvAt w b 0 n (mkEv k)/\b<w.heap.size):=⟨h,hb⟩
 clear h hb
 go_enter Tryz.func111,Tryz.ntmps111
 go_wp2_with fail
 go_loopw [1,5] (fun q i wr=>∃ j:Nat,j<=n/\i=.int .i64 j/\q=.int .i64 (k+3*j)/\Below w.heap.size w wr) (fun _ i _=>n - (intOf i).toNat)
 case atStart=>exact ⟨0,Nat.zero_le _,rfl,by simp,Below.refl _ _⟩
 case round=>
  obtain ⟨j,hj,rfl,rfl,hbw⟩:=hrel
  by_cases hlt:j<n
  ·have hlt':(j:Int)<(n:Int):=by omega
   obtain ⟨d0,d1,d2⟩:=HO.out.1 j hlt
   have c0:wr.cell? ⟨b,j*3,none⟩=some (.int .i64 (k+3*(j:Int))):=(hbw.cell (p:=⟨b,j*3,none⟩) HO.out.2).trans (by have d:=d0;rw [Nat.zero_add] at d;exact d)
   have c1:wr.cell? ⟨b,j*3+1,none⟩=some (.int .i64 (k+3*(j:Int)+1)):=(hbw.cell (p:=⟨b,j*3+1,none⟩) HO.out.2).trans (by have d:=d1;rw [Nat.zero_add] at d;exact d)
   have c2:wr.cell? ⟨b,j*3+2,none⟩=some (.int .i64 (k+3*(j:Int)+1+1)):=(hbw.cell (p:=⟨b,j*3+2,none⟩) HO.out.2).trans (by have d:=d2;rw [Nat.zero_add] at d;exact d)
   clear d0 d1 d2
   go_wp2
   go_roundw
   case rel=>exact ⟨j+1,by omega,by go_num,by go_num,hbw⟩
   case measure=>simp [intOf];omega
  ·have hjl:j=n:=by omega
   subst hjl
   go_wp2
   go_ret
   exact ⟨rfl,hbw⟩
section
variable {e:TypeId} {sz:Nat} {E:TypeId} {w:World} {P:Nat->Prop} {v:Value} {n:Nat} {u:Nat->Value} {L:Nat->Nat} {c:Nat->List Value}
theorem LL.remark (o:LL true e sz E w P v n u L c) {i:Nat} (hi:i<n) {w1:World} {c':List Value} (hu:w1.ownsRow 0 e sz (u i) (L i) c') (g:∀ k,k<w.heap.size->(u i).ownBlock≠some k->w1.heap[k]? = w.heap[k]?):LL true e sz E w1 P v n u L (fun j=>if j=i then c' else c j):=by
 refine ⟨qau o.row fun k hk=>g k (o.row.lt k hk).2 fun e=>o.ra i hi k e hk,fun j hj=>?_,o.rb,o.ob,o.ra,o.oa,o.nn⟩
 by_cases ej:j=i
 ·subst ej
  simp only [if_true]
  exact hu
 ·simp only [if_neg ej]
  exact qau (o.own j hj) fun k hk=>g k ((o.own j hj).lt k hk).2 fun e=>o.oa j i hj hi ej k hk e
theorem LL.cast (o:LL true e sz E w P v n u L c) {c':Nat->List Value} (h:∀ i,i<n->c i=c' i):LL true e sz E w P v n u L c':=
 ⟨o.row,fun i hi=>by rw [<- h i hi];exact o.own i hi,o.rb,o.ob,o.ra,o.oa,o.nn⟩
end
theorem qkk (v:Value) (P:Nat->Prop) (n:Nat) (u:Nat->Value) (L:Nat->Nat) (H:Nat->Nat->I5) (k:Int) (w:World) (hn:n<=1048576) (hl:sumL L n<=1048576) (k0:0<=k) (k1:k<=50000000) (o:LI true w P v n u L H):
  Calls Tryz.prog 57 #[v,.int .i64 k] w fun e w'=>e=.returned (.int .i64 (k+5*(sumL L n:Nat)))/\LI true w' P v n u L (fun i=>mkI (k+5*(sumL L i:Nat)))/\qac P w w':=by
 have hl':(n:Int)<=1048576:=by omega
 obtain ⟨a1,c1,rfl⟩:=zU o.row
 have O:Hid (LI true w P (.slice a1 n c1) n u L H):=o
 have HL:Hid (sumL L n<=1048576):=hl
 clear o hl
 go_enter Tryz.func57,Tryz.ntmps57
 go_wp2_with fail
 go_loopw [1,5] (fun q i wr=>∃ j:Nat,j<=n/\i=.int .i64 j/\q=.int .i64 (k+5*(sumL L j:Nat))/\Hid (LL true 115 5 113 wr P (.slice a1 n c1) n u L (fun t=>fI (if t<j then mkI (k+5*(sumL L t:Nat)) else H t) (L t))/\qac P w wr)) (fun _ i _=>n - (intOf i).toNat)
 case atStart=>exact ⟨0,Nat.zero_le _,rfl,by simp [sumL],O.out.cast fun i _=>by rw [if_neg (by omega)],qac.refl _ _⟩
 case round=>
  obtain ⟨j,hj,rfl,rfl,HT⟩:=hrel
  by_cases hlt:j<n
  ·have hlt':(j:Int)<(n:Int):=by omega
   obtain ⟨g1,m1,e1,-,-,ck,-⟩:=HT.out.1.cell hlt
   obtain rfl:=qa2 e1
   have how:=HT.out.1.own j hlt
   rw [if_neg (by omega)] at how
   obtain ⟨b,m,f1,lb,-,-⟩:=atI how (HT.out.1.nn (nzT _) j hlt)
   rw [f1] at ck how
   have OW:Hid (wr.ownsRow 0 115 5 (.slice (some ⟨b,0,none⟩) (L j) m) (L j) (fI (H j) (L j))):=how
   have HU:Hid (u j=.slice (some ⟨b,0,none⟩) (L j) m):=f1
   have hsl:=qbw L hlt
   have hS:=HL.out
   have e1':k+5*(sumL L j:Nat)+5*(L j:Int)=k+5*(sumL L (j+1):Nat):=by simp only [sumL];omega
   have HE:Hid (k+5*(sumL L j:Nat)+5*(L j:Int)=k+5*(sumL L (j+1):Nat)):=e1'
   have e2:0<=k+5*(sumL L j:Nat):=by omega
   have e3:k+5*(sumL L j:Nat)<=100000000:=by omega
   have e4:L j<=1048576:=by omega
   clear e1' hS hsl how f1 e1
   go_wp2_with fail
   refine (qmt b (L j) m 0 (H j) _ wr e4 e2 e3 OW.out).mono ?_
   rintro e w1 ⟨rfl,g1',o1⟩
   rw [HE.out]
   have HT1:Hid (LL true 115 5 113 w1 P (.slice (some ⟨g1,0,none⟩) n c1) n u L (fun t=>fI (if t<j+1 then mkI (k+5*(sumL L t:Nat)) else H t) (L t))/\qac P w w1):=by
    refine ⟨(HT.out.1.remark hlt (c':=fI (mkI (k+5*(sumL L j:Nat))) (L j)) (by rw [HU.out];exact o1) fun q hq hne=>g1'.block q hq fun e=>hne (by rw [HU.out,e];rfl)).cast fun t ht=>?_,HT.out.2.trans (qac.of_grown g1' fun q e=>HT.out.1.ob j hlt q (by rw [HU.out,<- e];rfl))⟩
    by_cases et:t=j
    ·rw [if_pos et,if_pos (by omega),et]
    ·rw [if_neg et]
     by_cases e2:t<j
     ·rw [if_pos e2,if_pos (by omega)]
     ·rw [if_neg e2,if_neg (by omega)]
   clear HT e2 e3 e4 g1' o1 ck
   go_wp2
   go_roundw
   case rel=>exact ⟨j+1,by omega,by go_num,rfl,HT1.out⟩
   case measure=>simp [intOf];omega
  ·have hkl:j=n:=by omega
   subst hkl
   have HT1:Hid (LI true wr P (.slice a1 j c1) j u L (fun i=>mkI (k+5*(sumL L i:Nat)))/\qac P w wr):=⟨HT.out.1.cast fun t ht=>by rw [if_pos ht],HT.out.2⟩
   clear HT
   go_wp2
   go_ret
   exact ⟨rfl,HT1.out⟩
theorem qj5 (v:Value) (P:Nat->Prop) (n:Nat) (u:Nat->Value) (L:Nat->Nat) (k:Int) (w:World) (hn:n<=1048576) (hl:sumL L n<=1048576) (k0:0<=k) (k1:k<=50000000) (o:LI true w P v n u L (fun i=>mkI (k+5*(sumL L i:Nat)))):
  Calls Tryz.prog 61 #[v,.int .i64 k] w fun e w'=>e=.returned (.int .i64 (k+5*(sumL L n:Nat)))/\Below w.heap.size w w':=by
 have hl':(n:Int)<=1048576:=by omega
 obtain ⟨a1,c1,rfl⟩:=zU o.row
 have O:Hid (LI true w P (.slice a1 n c1) n u L (fun i=>mkI (k+5*(sumL L i:Nat)))):=o
 have HL:Hid (sumL L n<=1048576):=hl
 clear o hl
 go_enter Tryz.func61,Tryz.ntmps61
 go_wp2_with fail
 go_loopw [1,5] (fun q i wr=>∃ j:Nat,j<=n/\i=.int .i64 j/\q=.int .i64 (k+5*(sumL L j:Nat))/\Below w.heap.size w wr) (fun _ i _=>n - (intOf i).toNat)
 case atStart=>exact ⟨0,Nat.zero_le _,rfl,by simp [sumL],Below.refl _ _⟩
 case round=>
  obtain ⟨j,hj,rfl,rfl,hbw⟩:=hrel
  by_cases hlt:j<n
  ·have hlt':(j:Int)<(n:Int):=by omega
   have Q:=O.out.below hbw
   obtain ⟨g1,m1,e1,-,-,ck,-⟩:=Q.cell hlt
   obtain rfl:=qa2 e1
   obtain ⟨b,m,f1,lb,it,-⟩:=atI (Q.own j hlt) (Q.nn (nzT _) j hlt)
   rw [f1] at ck
   have IT:Hid (qaj wr b 0 (L j) (mkI (k+5*(sumL L j:Nat)))/\b<wr.heap.size):=⟨it,lb⟩
   have hsl:=qbw L hlt
   have hS:=HL.out
   have e1':k+5*(sumL L j:Nat)+5*(L j:Int)=k+5*(sumL L (j+1):Nat):=by simp only [sumL];omega
   have HE:Hid (k+5*(sumL L j:Nat)+5*(L j:Int)=k+5*(sumL L (j+1):Nat)):=e1'
   have e2:0<=k+5*(sumL L j:Nat):=by omega
   have e3:k+5*(sumL L j:Nat)<=100000000:=by omega
   have e4:L j<=1048576:=by omega
   have e5:¬ (k+5*(sumL L (j+1):Nat)<0):=by omega
   clear e1' hS hsl Q f1 it lb e1
   go_wp2_with fail
   refine (qmi b (L j) m _ wr e4 e2 e3 IT.out.2 IT.out.1).mono ?_
   rintro e w1 ⟨rfl,b1⟩
   rw [HE.out]
   have B1:Hid (Below w.heap.size w w1):=hbw.trans (b1.mono hbw.size)
   clear b1 e2 e3 e4 ck hbw
   go_wp2
   go_roundw
   case rel=>exact ⟨j+1,by omega,by go_num,rfl,B1.out⟩
   case measure=>simp [intOf];omega
  ·have hkl:j=n:=by omega
   subst hkl
   go_wp2
   go_ret
   exact ⟨rfl,hbw⟩
open Go.RowKit Go.Extern.Stop Go.Stop Go.Extern
theorem qxy (t:Value) (w:World):
  Calls Tryz.prog 180 #[.nilIface,t] w fun e w'=>e=.returned (.bool false)/\w'=w:=by
 go_enter Tryz.func180,Tryz.ntmps180
 go_wp2
 go_ret
 exact ⟨rfl,rfl⟩
theorem qwm (t:Addr) (w:World):(ReflectliteValue.unpack (.iface 219 (.pointer (some t)))).run Tryz.prog w
  = .ok (.agg #[.pointer (some ⟨1,219,none⟩),.pointer (some ⟨w.heap.size,0,none⟩),.int .u64 150]) (w.alloc (.cells #[.pointer (some t)] 219)):=by kernel_rfl
theorem qyy (a : Addr) (w : World) : (ReflectliteValue.methodAny (ReflectliteValue.valueError "reflectlite.Value.Type" 0) (fun t _ _ _ => ReflectliteType.toType t) #[.agg #[.pointer (some ⟨1, 219, none⟩), .pointer (some a), .int .u64 150]]).run Tryz.prog w
  = .ok (.iface 298 (.agg #[.pointer (some ⟨1,219,none⟩)])) w:=by kernel_rfl
theorem qyx (w:World):((ReflectliteType.abiMethod fun t=>(fun a:Nat=>Value.int IntKind.u8 (a:Int)) <$> Rtype.kind t) #[.pointer (some ⟨1,219,none⟩)]).run Tryz.prog w=.ok (.int .u8 22) w:=by kernel_rfl
theorem qyw (w:World):((ReflectliteType.abiMethod fun t=>(fun a:Nat=>Value.int IntKind.u8 (a:Int)) <$> Rtype.kind t) #[.pointer (some ⟨1,217,none⟩)]).run Tryz.prog w=.ok (.int .u8 25) w:=by kernel_rfl
theorem rlm (z:Sem Value) (f:TypeId->Addr->Nat->Nat->Sem Value) (v:Value):
  ReflectliteValue.method z f #[v]=(do match <- ReflectliteValue.parts v with | none=>z | some (t,a,fl)=>f t a fl (fl % 32)):=rfl
theorem qwv (a:Addr) (w:World):(ReflectliteValue.parts (.agg #[.pointer (some ⟨1,219,none⟩),.pointer (some a),.int .u64 150])).run Tryz.prog w=.ok (some (219,a,150)) w:=by kernel_rfl
theorem qyf (a p:Addr) (W:World) (ha:W.cell? a=some (.pointer (some p))):
  (ReflectliteValue.method (ReflectliteValue.valueError "reflectlite.Value.IsNil" 0) ReflectliteValue.isNil #[.agg #[.pointer (some ⟨1, 219, none⟩), .pointer (some a), .int .u64 150]]).run Tryz.prog W = .ok (.bool false) W := by
 rw [rlm]
 simp only [Sem.run_bind,qwv,Result.andThen]
 simp [ReflectliteValue.isNil,loadVar,isAgg,underlying,Tryz.underlying219,ha,Result.andThen]
theorem qyv (w:World):(ReflectliteType.method ReflectliteType.elem #[.agg #[.pointer (some ⟨1,219,none⟩)]]).run Tryz.prog w=.ok (.iface 298 (.agg #[.pointer (some ⟨1,217,none⟩)])) w:=by kernel_rfl
theorem qow (w : World) : (ReflectliteType.relation "Implements" ReflectliteType.implements_ #[.agg #[.pointer (some ⟨1, 217, none⟩)], .iface 298 (.agg #[.pointer (some ⟨1, 213, none⟩)])]).run Tryz.prog w = .ok (.bool true) w := by kernel_rfl
theorem qxs (v:Value) (w:World):(ReflectliteType.typeOf #[.iface 217 v]).run Tryz.prog w=.ok (.iface 298 (.agg #[.pointer (some ⟨1,217,none⟩)])) w:=by kernel_rfl
theorem qof (w : World) : (ReflectliteType.relation "AssignableTo" ReflectliteType.assignableTo #[.agg #[.pointer (some ⟨1, 217, none⟩)], .iface 298 (.agg #[.pointer (some ⟨1, 217, none⟩)])]).run Tryz.prog w = .ok (.bool true) w := by kernel_rfl
theorem qwl (x:Int) (w:World):(ReflectliteValue.unpack (.iface 217 (.agg #[.int .i64 x]))).run Tryz.prog w
  = .ok (.agg #[.pointer (some ⟨1,217,none⟩),.pointer (some ⟨w.heap.size,0,none⟩),.int .u64 153]) (w.alloc (.cells #[.int .i64 x] 217)):=by kernel_rfl
theorem qxb (w:World):(Rtype.elem? 219).run Tryz.prog w=.ok (some 217) w:=by kernel_rfl
theorem mkE (p:Addr) (w:World):(ReflectliteValue.mk 217 p ReflectliteValue.flagAddr).run Tryz.prog w=.ok (.agg #[.pointer (some ⟨1,217,none⟩),.pointer (some p),.int .u64 409]) w:=by kernel_rfl
theorem LI.strong {z:Bool} {w:World} {P:Nat->Prop} {v:Value} {n:Nat} {u:Nat->Value} {L:Nat->Nat} {H:Nat->Nat->I5} (o:LI z w P v n u L H):LI true w P v n u L H:=⟨o.row,o.own,o.rb,o.ob,o.ra,o.oa,fun _=>o.nn nzI⟩
theorem ql8 (b m:Nat) (w:World):Calls Tryz.prog 104 #[.slice (some ⟨b,0,none⟩) 0 m,.slice none 0 0] w fun e w'=>e=.returned (.bool true)/\Below w.heap.size w w':=by
 go_enter Tryz.func104,Tryz.ntmps104
 go_wp2_with fail
 go_loopw [5] (fun i wr=>i=.int .i64 0/\Below w.heap.size w wr) (fun _ _=>0)
 case atStart=>exact ⟨rfl,Below.refl _ _⟩
 case round=>
  obtain ⟨rfl,hbw⟩:=hrel
  go_wp2
  go_ret
  exact ⟨rfl,hbw⟩
theorem qop {B1 B2 n:Nat} {u1 u2:Value} {g:Nat->I2} {w:World} (hn:n<=1048576) (o1:w.ownsRow B1 138 2 u1 n (fT g n)) (n1:u1≠.slice none 0 0) (o2:w.ownsRow B2 138 2 u2 n (fT g n)):
  Calls Tryz.prog 104 #[u1,u2] w fun e w'=>e=.returned (.bool true)/\Below w.heap.size w w':=by
 obtain ⟨b1,m1,rfl,l1,i1,-⟩:=atT o1 n1
 by_cases h:u2=.slice none 0 0
 ·subst h
  rcases o2.2 with ⟨-,h0⟩ | ⟨g,cap,cur,e,-⟩
  ·subst h0
   exact ql8 b1 m1 w
  ·cases e
 ·obtain ⟨b2,m2,rfl,l2,i2,-⟩:=atT o2 h
  exact qgu b1 b2 n m1 m2 g w hn l1 l2 i1 i2
theorem qjw (b m:Nat) (w:World):Calls Tryz.prog 105 #[.slice (some ⟨b,0,none⟩) 0 m,.slice none 0 0] w fun e w'=>e=.returned (.bool true)/\Below w.heap.size w w':=by
 go_enter Tryz.func105,Tryz.ntmps105
 go_wp2_with fail
 go_loopw [5] (fun i wr=>i=.int .i64 0/\Below w.heap.size w wr) (fun _ _=>0)
 case atStart=>exact ⟨rfl,Below.refl _ _⟩
 case round=>
  obtain ⟨rfl,hbw⟩:=hrel
  go_wp2
  go_ret
  exact ⟨rfl,hbw⟩
theorem ql5 {B1 B2 n:Nat} {u1 u2:Value} {g:Nat->E3} {w:World} (hn:n<=1048576) (o1:w.ownsRow B1 74 3 u1 n (fE g n)) (n1:u1≠.slice none 0 0) (o2:w.ownsRow B2 74 3 u2 n (fE g n)):
  Calls Tryz.prog 105 #[u1,u2] w fun e w'=>e=.returned (.bool true)/\Below w.heap.size w w':=by
 obtain ⟨b1,m1,rfl,l1,i1,-⟩:=atE o1 n1
 by_cases h:u2=.slice none 0 0
 ·subst h
  rcases o2.2 with ⟨-,h0⟩ | ⟨g,cap,cur,e,-⟩
  ·subst h0
   exact qjw b1 m1 w
  ·cases e
 ·obtain ⟨b2,m2,rfl,l2,i2,-⟩:=atE o2 h
  exact qfg b1 b2 n m1 m2 g w hn l1 l2 i1 i2
theorem qpa (eh:Nat->E3) (kd pr:Int):∀ (n j q:Nat),(plN eh kd pr n)[j]? = some q->q<n/\hitB eh kd pr q=true/\cnt eh kd pr q=j
 | 0,j,q,h=>by simp [plN] at h
 | n+1,j,q,h=>by
  rcases zK (hitB eh kd pr n) with t | t
  ·rw [plN,if_pos t] at h
   by_cases hj:j<(plN eh kd pr n).length
   ·rw [List.getElem?_append_left hj] at h
    obtain ⟨h1,h2,h3⟩:=qpa eh kd pr n j q h
    exact ⟨by omega,h2,h3⟩
   ·rw [List.getElem?_append_right (by omega)] at h
    have hj2:j - (plN eh kd pr n).length=0:=by
     by_cases e:j - (plN eh kd pr n).length=0
     ·exact e
     ·rw [List.getElem?_eq_none (by simp;omega)] at h
      cases h
    rw [hj2] at h
    simp at h
    subst h
    refine ⟨by omega,t,?_⟩
    unfold cnt
    omega
  ·rw [plN,if_neg (by rw [t];decide)] at h
   obtain ⟨h1,h2,h3⟩:=qpa eh kd pr n j q h
   exact ⟨by omega,h2,h3⟩
theorem qtz {eh:Nat->E3} {kd pr:Int} {len n:Nat} (h:n<cnt eh kd pr len):∃ q:Nat,nthV eh kd pr len n=q/\q<len/\hitB eh kd pr q=true/\cnt eh kd pr q=n:=by
 have hl:n<(plI eh kd pr len).length:=by rw [qei];exact h
 obtain ⟨q,h1,h2,h3⟩:=qm2 eh kd pr len n hl
 obtain ⟨-,h4,h5⟩:=qpa eh kd pr len n q h3
 refine ⟨q,?_,h2,h4,h5⟩
 unfold nthV
 rw [if_pos (by simp [belB];omega),Int.toNat_natCast]
 exact h1
theorem qty {eh:Nat->E3} {kd pr:Int} {len n:Nat} (h:cnt eh kd pr len<=n):nthV eh kd pr len n = -1:=by
 unfold nthV
 rw [if_neg]
 have hl:(plI eh kd pr len).length<=n:=by rw [qei];exact h
 simp [belB]
 omega
structure Sy.Cut (y:Sy) (c:List Int):Prop where
 len:c.length=y.pn
 le:∀ p,p<y.pn->0<=zi c p/\zi c p<=(y.hL p:Int)
def cN (c:List Int) (p:Nat):Nat:=(zi c p).toNat
def sN (y:Sy) (c:Nat->Nat) (a b:Nat):Nat:=cnt (y.hH a) 2 b (c a)
def tN (y:Sy) (c:Nat->Nat) (a b:Nat):Nat:=cnt (y.hH b) 3 a (c b)
def Sy.Wh (y:Sy) (c:Nat->Nat):Prop:=∀ a,a<y.pn->∀ b,b<y.pn->tN y c a b<=sN y c a b
def ovN (y:Sy) (c:Nat->Nat) (a b:Nat):Int:=nthV (y.hH b) 3 a (c b) (sN y c a b:Nat)
theorem qyk {y:Sy} {c:Nat->Nat} {a b:Nat} (h:tN y c a b<=sN y c a b):ovN y c a b = -1:=qty h
theorem qt3 {y:Sy} {c:Nat->Nat} {a b:Nat} (h:¬ tN y c a b<=sN y c a b):∃ k:Nat,ovN y c a b=k/\k<c b/\hitB (y.hH b) 3 a k=true/\cnt (y.hH b) 3 a k=sN y c a b:=qtz (by unfold tN at h;omega)
theorem qxn {y:Sy} {c:Nat->Nat} {a b:Nat}:ovN y c a b<0 ↔ tN y c a b<=sN y c a b:=by
 refine ⟨fun h=>?_,fun h=>by rw [qyk h];decide⟩
 by_cases hc:tN y c a b<=sN y c a b
 ·exact hc
 ·obtain ⟨k,e,-⟩:=qt3 hc
  omega
structure Sy.Cl (y:Sy) (c e:List Int):Prop where
 len:e.length=y.pn
 le:∀ p,p<y.pn->0<=zi e p/\zi e p<=zi c p
 gr:∀ d:Nat->Nat,(∀ p,p<y.pn->(d p:Int)<=zi c p)->y.Wh d->∀ p,p<y.pn->(d p:Int)<=zi e p
theorem Sy.Cl.start {y:Sy} {c:List Int} (h:y.Cut c):y.Cl c c:=⟨h.len,fun p hp=>⟨(h.le p hp).1,Int.le_refl _⟩,fun _ h _=>h⟩
theorem qw2 {e:List Int} {b p:Nat} {k:Int} (hb:b<e.length):zi (e.set b k) p=if p=b then k else zi e p:=by
 by_cases h:p=b
 ·subst h
  rw [if_pos rfl,qdl e p k hb]
 ·rw [if_neg h,qey e p b k h]
theorem Sy.Cl.next {y:Sy} {c e:List Int} {a b:Nat} (h:y.Cl c e) (ha:a<y.pn) (hb:b<y.pn) (ho:0<=ovN y (cN e) a b):y.Cl c (e.set b (ovN y (cN e) a b))/\0<=ovN y (cN e) a b/\ovN y (cN e) a b<zi e b:=by
 have hn:¬ tN y (cN e) a b<=sN y (cN e) a b:=fun hc=>by
  have:=qxn.2 hc
  omega
 obtain ⟨k,e1,e2,e3,e4⟩:=qt3 hn
 have eb:=(h.le b hb)
 have hkb:(k:Int)<zi e b:=by unfold cN at e2;omega
 refine ⟨⟨by rw [List.length_set];exact h.len,fun p hp=>?_,fun d hd hw p hp=>?_⟩,ho,by omega⟩
 ·rw [qw2 (by rw [h.len];exact hb)]
  by_cases ep:p=b
  ·subst ep
   rw [if_pos rfl]
   omega
  ·rw [if_neg ep]
   exact h.le p hp
 ·rw [qw2 (by rw [h.len];exact hb)]
  have h0:=h.gr d hd hw p hp
  by_cases ep:p=b
  ·subst ep
   rw [if_pos rfl,e1]
   by_cases hc:(d p:Int)<=k
   ·exact hc
   ·exfalso
    have h1 : sN y d a p ≤ sN y (cN e) a p := qff _ _ _ (by
     have:=h.gr d hd hw a ha
     unfold cN
     omega)
    have h2:cnt (y.hH p) 3 a (k+1)<=tN y d a p:=qff _ _ _ (by omega)
    rw [qf2 e3,e4] at h2
    have:=hw a ha p hb
    omega
  ·rw [if_neg ep]
   exact h0
open Go.Sort
theorem Sl.all {w:World} {a0:Option Addr} {xs:List Int} (h:Sl w a0 xs) (hn:0<xs.length):∃ b off,a0=some ⟨b,off,none⟩/\b<w.heap.size/\∀ i,i<xs.length->w.cell? ⟨b,off+i,none⟩=some (.int .i64 (zi xs i)):=by
 rcases h with rfl | h
 ·simp at hn
 ·exact h
theorem RowS.all {w:World} {a0:Option Addr} {n:Nat} {f:Nat->Value} (h:RowS w a0 n f) (hn:0<n):∃ b off,a0=some ⟨b,off,none⟩/\b<w.heap.size/\∀ i,i<n->w.cell? ⟨b,off+i,none⟩=some (f i):=by
 rcases h with rfl | h
 ·omega
 ·exact h
theorem Tryz.et : Tryz.prog.globalNamed "errors.errorType" = some 0 := by kernel_rfl
theorem Tryz.rt : (Tryz.prog.cutTypes.find? (·.1 == "internal/reflectlite.rtype")).map (·.2) = some 298 := by kernel_rfl
theorem Tryz.oneRow:((List.range 347).filter fun t=>Tryz.prog.rowNamed t [101,114,114,111,114])=[213]:=by kernel_rfl
theorem Tryz.tsize:Tryz.prog.types.size=347:=by kernel_rfl
theorem qin {W : World} (h : laidMetH Tryz.prog [("errors.errorType", Rows.laid_errors_errorType)] W) : W.cell? ⟨0, 0, none⟩ = some (.iface 298 (.agg #[.pointer (some ⟨1, 213, none⟩)])) := by
 have h' : laidMet Tryz.prog [] W /\ handlesMet Tryz.prog [("errors.errorType", Rows.laid_errors_errorType)] W := h
 obtain ⟨name,u,ty,e1,e2,e3,e4,e5⟩:=h'.2 _ (List.mem_singleton.2 rfl)
 have en:name=[101,114,114,111,114]:=(Option.some.inj e1).symm
 subst en
 obtain rfl:=Option.some.inj (Tryz.rt.symm.trans e2)
 have hm:ty ∈ (List.range 347).filter fun t=>Tryz.prog.rowNamed t [101,114,114,111,114]:=List.mem_filter.2 ⟨List.mem_range.2 (by rw [<- Tryz.tsize];exact e3),e4⟩
 rw [Tryz.oneRow] at hm
 obtain rfl:=List.mem_singleton.1 hm
 have hh:typeHandle Tryz.prog 213=.pointer (some ⟨1,213,none⟩):=by kernel_rfl
 rw [hh] at e5
 simpa using World.var?_cell Tryz.et e5 0
noncomputable def qmo (os:Os):World:=
 let w0:=World.holding Tryz.prog os ⟨#[],#[],[]⟩
 { w0 with heap := w0.heap.modify 0 fun
   | .cells _ t frozen=>.cells #[.iface 298 (.agg #[.pointer (some ⟨1,213,none⟩)])] t frozen
   | o=>o }
theorem qkg (os : Os) (args : Array Value) : laidMetH Tryz.prog [("errors.errorType", Rows.laid_errors_errorType)] ((qmo os).forCall (fun _ _ => 0) ⟨#[], args, []⟩).memory :=
 laidMetH_of_parts (laidMet_nil _ _) (by kernel_rfl)
