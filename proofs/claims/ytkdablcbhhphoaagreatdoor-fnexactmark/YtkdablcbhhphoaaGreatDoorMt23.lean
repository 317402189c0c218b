import Derived.Test.YtkdablcbhhphoaaGreatDoorMt22
namespace Go.Proofs.YtkdablcbhhphoaaGreatDoor
open Go.Proofs.Tryz
set_option maxRecDepth 100000
set_option maxHeartbeats 2000000
open Go.ChangeShapes Go.WideShapes Go.ChangeAt Go.RowKit Go.Deep
def mkI (k:Int) (i:Nat):I5:=⟨k+5*i,k+5*i+1,k+5*i+1+1,k+5*i+1+1+1,k+5*i+1+1+1+1⟩
def mkT (k:Int) (i:Nat):I2:=⟨(k+2*i) % 3 == 0,k+2*i+1⟩
def mkEv (k:Int) (i:Nat):E3:=⟨k+3*i,k+3*i+1,k+3*i+1+1⟩
theorem qs4 {f:Nat->List Value} {n i:Nat} (hl:∀ j,j<n->(f j).length=2) (hi:i<n) (a b:Value):
  flat (fun j=>if j=i then [a,b] else f j) n=((flat f n).set (i*2) a).set (i*2+1) b:=by
 have hl':∀ j,j<n->((fun j=>if j=i then [a,b] else f j) j).length=2:=fun j hj=>by
  by_cases e:j=i
  ·simp [e]
  ·simp [e,hl j hj]
 have n1:=qbh hl;have n2:=qbh hl';apply List.ext_getElem?;intro q;by_cases hq:q<n*2
 ·have hk:q / 2<n:=by omega
  have hr:q % 2<2:=by omega
  have e0:q=q / 2*2+q % 2:=by omega
  have e1:=qbp hl' hk hr;have e2:=qbp hl hk hr;rw [<- e0] at e1 e2;rw [e1];by_cases ei:q / 2=i
  ·simp only [nC ei]
   have hrK:q % 2=0\/q % 2=1:=by omega
   rcases hrK with h | h <;> rw [h] <;>
    (simp only [List.getElem?_set, List.length_set, n1]
     have:i<n:=hi
     repeat (first | rw [nC (by omega)] | rw [nB (by omega)])
     simp)
  ·simp only [nB ei]
   simp only [List.getElem?_set,List.length_set,n1]
   repeat rw [nB (by omega)]
   rw [e2]
 ·rw [List.getElem?_eq_none (by omega),List.getElem?_eq_none (by simp only [List.length_set];omega)]
theorem qs5 {f:Nat->List Value} {n i:Nat} (hl:∀ j,j<n->(f j).length=3) (hi:i<n) (a b c:Value):
  flat (fun j=>if j=i then [a,b,c] else f j) n=(((flat f n).set (i*3) a).set (i*3+1) b).set (i*3+2) c:=by
 have hl':∀ j,j<n->((fun j=>if j=i then [a,b,c] else f j) j).length=3:=fun j hj=>by
  by_cases e:j=i
  ·simp [e]
  ·simp [e,hl j hj]
 have n1:=qbh hl;have n2:=qbh hl';apply List.ext_getElem?;intro q;by_cases hq:q<n*3
 ·have hk:q / 3<n:=by omega
  have hr:q % 3<3:=by omega
  have e0:q=q / 3*3+q % 3:=by omega
  have e1:=qbp hl' hk hr;have e2:=qbp hl hk hr;rw [<- e0] at e1 e2;rw [e1];by_cases ei:q / 3=i
  ·simp only [nC ei]
   have hrK:q % 3=0\/q % 3=1\/q % 3=2:=by omega
   rcases hrK with h | h | h <;> rw [h] <;>
    (simp only [List.getElem?_set, List.length_set, n1]
     have:i<n:=hi
     repeat (first | rw [nC (by omega)] | rw [nB (by omega)])
     simp)
  ·simp only [nB ei]
   simp only [List.getElem?_set,List.length_set,n1]
   repeat rw [nB (by omega)]
   rw [e2]
 ·rw [List.getElem?_eq_none (by omega),List.getElem?_eq_none (by simp only [List.length_set];omega)]
theorem qs6 {f:Nat->List Value} {n i:Nat} (hl:∀ j,j<n->(f j).length=5) (hi:i<n) (a b c d e:Value):
  flat (fun j=>if j=i then [a,b,c,d,e] else f j) n=(((((flat f n).set (i*5) a).set (i*5+1) b).set (i*5+2) c).set (i*5+3) d).set (i*5+4) e:=by
 have hl':∀ j,j<n->((fun j=>if j=i then [a,b,c,d,e] else f j) j).length=5:=fun j hj=>by
  by_cases e:j=i
  ·simp [e]
  ·simp [e,hl j hj]
 have n1:=qbh hl;have n2:=qbh hl';apply List.ext_getElem?;intro q;by_cases hq:q<n*5
 ·have hk:q / 5<n:=by omega
  have hr:q % 5<5:=by omega
  have e0:q=q / 5*5+q % 5:=by omega
  have e1:=qbp hl' hk hr;have e2:=qbp hl hk hr;rw [<- e0] at e1 e2;rw [e1];by_cases ei:q / 5=i
  ·simp only [nC ei]
   have hrK:q % 5=0\/q % 5=1\/q % 5=2\/q % 5=3\/q % 5=4:=by omega
   rcases hrK with h | h | h | h | h <;> rw [h] <;>
    (simp only [List.getElem?_set, List.length_set, n1]
     have:i<n:=hi
     repeat (first | rw [nC (by omega)] | rw [nB (by omega)])
     simp)
  ·simp only [nB ei]
   simp only [List.getElem?_set,List.length_set,n1]
   repeat rw [nB (by omega)]
   rw [e2]
 ·rw [List.getElem?_eq_none (by omega),List.getElem?_eq_none (by simp only [List.length_set];omega)]
theorem qny (b n cap B:Nat) (h:Nat->I5) (k:Int) (w:World) (hlen:n<=1048576) (k0:0<=k) (k1:k<=100000000) (o:w.ownsRow B 184 5 (sG b n cap) n (fI h n)):
  Calls prog 151 #[.slice (some ⟨b,0,none⟩) n cap,.int .i64 k] w fun e w'=>e=.returned (.int .i64 (k+5*n))/\w.grownBy w' (some b)/\w'.ownsRow B 184 5 (sG b n cap) n (fI (mkI k) n):=by
 have hl':(n:Int)<=1048576:=by omega
 have HO:Hid (w.ownsRow B 184 5 (sG b n cap) n (fI h n)):=o;clear o
 go_enter func151,ntmps151
 go_wp2_with fail
 go_loopw [1,5] (fun q i wr=>∃ j:Nat,j<=n/\i=.int .i64 j/\q=.int .i64 (k+5*j)/\Hid (wr.ownsRow B 184 5 (sG b n cap) n (flat (fun t=>cI (if t<j then mkI k t else h t)) n)/\w.grownBy wr (some b))) (fun _ i _=>n - (intOf i).toNat)
 case atStart=>
  refine ⟨0,nD _,rfl,by simp,?_,World.grownBy.refl _ _⟩;have e:flat (fun t=>cI (if t<0 then mkI k t else h t)) n=fI h n:=qa2 fun t _=>by rw [nB (by omega)]
  rw [e];exact HO.out
 case round=>
  clear HO;obtain ⟨j,hj,rfl,rfl,HR⟩:=hrel;by_cases hlt:j<n
  ·have hlt':(j:Int)<(n:Int):=by omega
   have hc:∀ r,r<5->wr.cell? ⟨b,j*5+r,none⟩=(cI (h j))[r]?:=fun r hr=>by
    rw [HR.1.cellAt _ (by omega)];have e:=qbp (sz:=5) (f:=(fun t=>cI (if t<j then mkI k t else h t))) (n:=n) (fun _ _=>rfl) hlt hr;rw [nB (by omega)] at e;exact e
   have c0:=hc 0 (by omega);have c1:=hc 1 (by omega);have c2:=hc 2 (by omega);have c3:=hc 3 (by omega);have c4:=hc 4 (by omega);simp only [cI,nP,List.getElem?_cons_zero,List.getElem?_cons_succ] at c0 c1 c2 c3 c4;have fz:∀ o,wr.frozen? ⟨b,o,none⟩=false:=fun o=>HR.1.frozenAt o;clear hc;go_wp2;go_roundw
   case rel=>
    refine ⟨j+1,by omega,by go_num,by go_num,?_,?_⟩
    ·have e:flat (fun t=>cI (if t<j+1 then mkI k t else h t)) n=flat (fun t=>if t=j then cI (mkI k j) else (fun t=>cI (if t<j then mkI k t else h t)) t) n:=qa2 fun t _=>by
      by_cases e:t=j
      ·rw [nC e,nC (by omega),e]
      ·rw [nB e]
       show cI (if t<j+1 then mkI k t else h t)=cI (if t<j then mkI k t else h t);by_cases e2:t<j
       ·rw [nC e2,nC (by omega)]
       ·rw [nB e2,nB (by omega)]
     have e2:=qs6 (f:=(fun t=>cI (if t<j then mkI k t else h t))) (n:=n) (i:=j) (fun _ _=>rfl) hlt (.int .i64 (k+5*(j:Int))) (.int .i64 (k+5*(j:Int)+1)) (.int .i64 (k+5*(j:Int)+1+1)) (.int .i64 (k+5*(j:Int)+1+1+1)) (.int .i64 (k+5*(j:Int)+1+1+1+1));rw [e];refine Eq.mpr (congrArg (fun l=>World.ownsRow _ B 184 5 (sG b n cap) n l) e2) ?_;exact (World.ownsRow.stored (World.ownsRow.stored (World.ownsRow.stored (World.ownsRow.stored (World.ownsRow.stored HR.1 (j*5) (.int .i64 (k+5*(j:Int)))).1 (j*5+1) (.int .i64 (k+5*(j:Int)+1))).1 (j*5+2) (.int .i64 (k+5*(j:Int)+1+1))).1 (j*5+3) (.int .i64 (k+5*(j:Int)+1+1+1))).1 (j*5+4) (.int .i64 (k+5*(j:Int)+1+1+1+1))).1
    ·repeat (refine zU ?_ (.inl rfl) _)
     exact HR.2
   case measure=>simp [intOf];omega
  ·have hjl:j=n:=by omega
   subst hjl
   have HF:Hid (w.grownBy wr (some b)/\wr.ownsRow B 184 5 (sG b j cap) j (fI (mkI k) j)):=by
    refine ⟨HR.2,?_⟩;have e:flat (fun t=>cI (if t<j then mkI k t else h t)) j=fI (mkI k) j:=qa2 fun t ht=>by rw [nC ht]
    have:=HR.1;rw [e] at this;exact this
   clear HR;go_wp2;go_ret;exact ⟨rfl,HF.out⟩
theorem qnl (b n cap:Nat) (k:Int) (w:World) (hlen:n<=1048576) (k0:0<=k) (k1:k<=100000000) (hb:b<w.heap.size) (h:qao w b 0 n (mkI k)):
  Calls prog 154 #[.slice (some ⟨b,0,none⟩) n cap,.int .i64 k] w (rB w (.int .i64 (k+5*n))):=by
 have hl':(n:Int)<=1048576:=by omega
 have HO:Hid (qao w b 0 n (mkI k)/\b<w.heap.size):=⟨h,hb⟩
 clear h hb
 go_enter func154,ntmps154
 go_wp2_with fail
 go_loopw [1,5] (fun q i wr=>∃ j:Nat,j<=n/\i=.int .i64 j/\q=.int .i64 (k+5*j)/\Below w.heap.size w wr) (fun _ i _=>n - (intOf i).toNat)
 case atStart=>exact ⟨0,nD _,rfl,by simp,nE _ _⟩
 case round=>
  obtain ⟨j,hj,rfl,rfl,hbw⟩:=hrel;by_cases hlt:j<n
  ·have hlt':(j:Int)<(n:Int):=by omega
   obtain ⟨d0,d1,d2,d3,d4⟩:=HO.1 j hlt;have c0:wr.cell? ⟨b,j*5,none⟩=some (.int .i64 (k+5*(j:Int))):=(hbw.cell (p:=⟨b,j*5,none⟩) HO.2).trans (by have d:=d0;rw [nL] at d;exact d);have c1:wr.cell? ⟨b,j*5+1,none⟩=some (.int .i64 (k+5*(j:Int)+1)):=(hbw.cell (p:=⟨b,j*5+1,none⟩) HO.2).trans (by have d:=d1;rw [nL] at d;exact d);have c2:wr.cell? ⟨b,j*5+2,none⟩=some (.int .i64 (k+5*(j:Int)+1+1)):=(hbw.cell (p:=⟨b,j*5+2,none⟩) HO.2).trans (by have d:=d2;rw [nL] at d;exact d);have c3:wr.cell? ⟨b,j*5+3,none⟩=some (.int .i64 (k+5*(j:Int)+1+1+1)):=(hbw.cell (p:=⟨b,j*5+3,none⟩) HO.2).trans (by have d:=d3;rw [nL] at d;exact d);have c4:wr.cell? ⟨b,j*5+4,none⟩=some (.int .i64 (k+5*(j:Int)+1+1+1+1)):=(hbw.cell (p:=⟨b,j*5+4,none⟩) HO.2).trans (by have d:=d4;rw [nL] at d;exact d);clear d0 d1 d2 d3 d4;go_wp2;go_roundw
   case rel=>exact ⟨j+1,by omega,by go_num,by go_num,hbw⟩
   case measure=>simp [intOf];omega
  ·have hjl:j=n:=by omega
   subst hjl;go_wp2;go_ret;exact ⟨rfl,hbw⟩
theorem qlo (b n cap B:Nat) (h:Nat->I2) (k:Int) (w:World) (hlen:n<=1048576) (k0:0<=k) (k1:k<=100000000) (o:w.ownsRow B 74 2 (sG b n cap) n (fT h n)):
  Calls prog 152 #[.slice (some ⟨b,0,none⟩) n cap,.int .i64 k] w fun e w'=>e=.returned (.int .i64 (k+2*n))/\w.grownBy w' (some b)/\w'.ownsRow B 74 2 (sG b n cap) n (fT (mkT k) n):=by
 have hl':(n:Int)<=1048576:=by omega
 have HO:Hid (w.ownsRow B 74 2 (sG b n cap) n (fT h n)):=o;clear o
 go_enter func152,ntmps152
 go_wp2_with fail
 go_loopw [1,5] (fun q i wr=>∃ j:Nat,j<=n/\i=.int .i64 j/\q=.int .i64 (k+2*j)/\Hid (wr.ownsRow B 74 2 (sG b n cap) n (flat (fun t=>cT (if t<j then mkT k t else h t)) n)/\w.grownBy wr (some b))) (fun _ i _=>n - (intOf i).toNat)
 case atStart=>
  refine ⟨0,nD _,rfl,by simp,?_,World.grownBy.refl _ _⟩;have e:flat (fun t=>cT (if t<0 then mkT k t else h t)) n=fT h n:=qa2 fun t _=>by rw [nB (by omega)]
  rw [e];exact HO.out
 case round=>
  clear HO;obtain ⟨j,hj,rfl,rfl,HR⟩:=hrel;by_cases hlt:j<n
  ·have hlt':(j:Int)<(n:Int):=by omega
   have hc:∀ r,r<2->wr.cell? ⟨b,j*2+r,none⟩=(cT (h j))[r]?:=fun r hr=>by
    rw [HR.1.cellAt _ (by omega)];have e:=qbp (sz:=2) (f:=(fun t=>cT (if t<j then mkT k t else h t))) (n:=n) (fun _ _=>rfl) hlt hr;rw [nB (by omega)] at e;exact e
   have c0:=hc 0 (by omega);have c1:=hc 1 (by omega);simp only [cT,nP,List.getElem?_cons_zero,List.getElem?_cons_succ] at c0 c1;have fz:∀ o,wr.frozen? ⟨b,o,none⟩=false:=fun o=>HR.1.frozenAt o;clear hc;go_wp2;go_roundw
   case rel=>
    refine ⟨j+1,by omega,by go_num,by go_num,?_,?_⟩
    ·have e:flat (fun t=>cT (if t<j+1 then mkT k t else h t)) n=flat (fun t=>if t=j then cT (mkT k j) else (fun t=>cT (if t<j then mkT k t else h t)) t) n:=qa2 fun t _=>by
      by_cases e:t=j
      ·rw [nC e,nC (by omega),e]
      ·rw [nB e]
       show cT (if t<j+1 then mkT k t else h t)=cT (if t<j then mkT k t else h t);by_cases e2:t<j
       ·rw [nC e2,nC (by omega)]
       ·rw [nB e2,nB (by omega)]
     have e2:=qs4 (f:=(fun t=>cT (if t<j then mkT k t else h t))) (n:=n) (i:=j) (fun _ _=>rfl) hlt (.bool ((k+2*(j:Int)) % 3 == 0)) (.int .i64 (k+2*(j:Int)+1));rw [e];refine Eq.mpr (congrArg (fun l=>World.ownsRow _ B 74 2 (sG b n cap) n l) e2) ?_;exact (World.ownsRow.stored (World.ownsRow.stored HR.1 (j*2) (.bool ((k+2*(j:Int)) % 3 == 0))).1 (j*2+1) (.int .i64 (k+2*(j:Int)+1))).1
    ·repeat (refine zU ?_ (.inl rfl) _)
     exact HR.2
   case measure=>simp [intOf];omega
  ·have hjl:j=n:=by omega
   subst hjl
   have HF:Hid (w.grownBy wr (some b)/\wr.ownsRow B 74 2 (sG b j cap) j (fT (mkT k) j)):=by
    refine ⟨HR.2,?_⟩;have e:flat (fun t=>cT (if t<j then mkT k t else h t)) j=fT (mkT k) j:=qa2 fun t ht=>by rw [nC ht]
    have:=HR.1;rw [e] at this;exact this
   clear HR;go_wp2;go_ret;exact ⟨rfl,HF.out⟩
theorem qk4 (b n cap:Nat) (k:Int) (w:World) (hlen:n<=1048576) (k0:0<=k) (k1:k<=100000000) (hb:b<w.heap.size) (h:ItAt w b 0 n (mkT k)):
  Calls prog 155 #[.slice (some ⟨b,0,none⟩) n cap,.int .i64 k] w (rB w (.int .i64 (k+2*n))):=by
 have hl':(n:Int)<=1048576:=by omega
 have HO:Hid (ItAt w b 0 n (mkT k)/\b<w.heap.size):=⟨h,hb⟩
 clear h hb
 go_enter func155,ntmps155
 go_wp2_with fail
 go_loopw [1,5] (fun q i wr=>∃ j:Nat,j<=n/\i=.int .i64 j/\q=.int .i64 (k+2*j)/\Below w.heap.size w wr) (fun _ i _=>n - (intOf i).toNat)
 case atStart=>exact ⟨0,nD _,rfl,by simp,nE _ _⟩
 case round=>
  obtain ⟨j,hj,rfl,rfl,hbw⟩:=hrel;by_cases hlt:j<n
  ·have hlt':(j:Int)<(n:Int):=by omega
   obtain ⟨d0,d1⟩:=HO.1 j hlt;have c0:wr.cell? ⟨b,j*2,none⟩=some (.bool ((k+2*(j:Int)) % 3 == 0)):=(hbw.cell (p:=⟨b,j*2,none⟩) HO.2).trans (by have d:=d0;rw [nL] at d;exact d);have c1:wr.cell? ⟨b,j*2+1,none⟩=some (.int .i64 (k+2*(j:Int)+1)):=(hbw.cell (p:=⟨b,j*2+1,none⟩) HO.2).trans (by have d:=d1;rw [nL] at d;exact d);clear d0 d1
   rcases zK ((k+2*(j:Int)) % 3 == 0) with t | t
   ·rw [t] at c0
    go_wp2_with fail
    exact ⟨⟨j+1,by omega,by go_num,by go_num,hbw⟩,by simp [intOf];omega⟩
   ·rw [t] at c0
    go_wp2_with fail
    exact ⟨⟨j+1,by omega,by go_num,by go_num,hbw⟩,by simp [intOf];omega⟩
  ·have hjl:j=n:=by omega
   subst hjl;go_wp2;go_ret;exact ⟨rfl,hbw⟩
theorem qjp (b n cap B:Nat) (h:Nat->E3) (k:Int) (w:World) (hlen:n<=1048576) (k0:0<=k) (k1:k<=100000000) (o:w.ownsRow B 86 3 (sG b n cap) n (fE h n)):
  Calls prog 153 #[.slice (some ⟨b,0,none⟩) n cap,.int .i64 k] w fun e w'=>e=.returned (.int .i64 (k+3*n))/\w.grownBy w' (some b)/\w'.ownsRow B 86 3 (sG b n cap) n (fE (mkEv k) n):=by
 have hl':(n:Int)<=1048576:=by omega
 have HO:Hid (w.ownsRow B 86 3 (sG b n cap) n (fE h n)):=o;clear o
 go_enter func153,ntmps153
 go_wp2_with fail
 go_loopw [1,5] (fun q i wr=>∃ j:Nat,j<=n/\i=.int .i64 j/\q=.int .i64 (k+3*j)/\Hid (wr.ownsRow B 86 3 (sG b n cap) n (flat (fun t=>cE (if t<j then mkEv k t else h t)) n)/\w.grownBy wr (some b))) (fun _ i _=>n - (intOf i).toNat)
 case atStart=>
  refine ⟨0,nD _,rfl,by simp,?_,World.grownBy.refl _ _⟩;have e:flat (fun t=>cE (if t<0 then mkEv k t else h t)) n=fE h n:=qa2 fun t _=>by rw [nB (by omega)]
  rw [e];exact HO.out
 case round=>
  clear HO;obtain ⟨j,hj,rfl,rfl,HR⟩:=hrel;by_cases hlt:j<n
  ·have hlt':(j:Int)<(n:Int):=by omega
   have hc:∀ r,r<3->wr.cell? ⟨b,j*3+r,none⟩=(cE (h j))[r]?:=fun r hr=>by
    rw [HR.1.cellAt _ (by omega)];have e:=qbp (sz:=3) (f:=(fun t=>cE (if t<j then mkEv k t else h t))) (n:=n) (fun _ _=>rfl) hlt hr;rw [nB (by omega)] at e;exact e
   have c0:=hc 0 (by omega);have c1:=hc 1 (by omega);have c2:=hc 2 (by omega);simp only [cE,nP,List.getElem?_cons_zero,List.getElem?_cons_succ] at c0 c1 c2;have fz:∀ o,wr.frozen? ⟨b,o,none⟩=false:=fun o=>HR.1.frozenAt o;clear hc;go_wp2;go_roundw
   case rel=>
    refine ⟨j+1,by omega,by go_num,by go_num,?_,?_⟩
    ·have e:flat (fun t=>cE (if t<j+1 then mkEv k t else h t)) n=flat (fun t=>if t=j then cE (mkEv k j) else (fun t=>cE (if t<j then mkEv k t else h t)) t) n:=qa2 fun t _=>by
      by_cases e:t=j
      ·rw [nC e,nC (by omega),e]
      ·rw [nB e]
       show cE (if t<j+1 then mkEv k t else h t)=cE (if t<j then mkEv k t else h t);by_cases e2:t<j
       ·rw [nC e2,nC (by omega)]
       ·rw [nB e2,nB (by omega)]
     have e2:=qs5 (f:=(fun t=>cE (if t<j then mkEv k t else h t))) (n:=n) (i:=j) (fun _ _=>rfl) hlt (.int .i64 (k+3*(j:Int))) (.int .i64 (k+3*(j:Int)+1)) (.int .i64 (k+3*(j:Int)+1+1));rw [e];refine Eq.mpr (congrArg (fun l=>World.ownsRow _ B 86 3 (sG b n cap) n l) e2) ?_;exact (World.ownsRow.stored (World.ownsRow.stored (World.ownsRow.stored HR.1 (j*3) (.int .i64 (k+3*(j:Int)))).1 (j*3+1) (.int .i64 (k+3*(j:Int)+1))).1 (j*3+2) (.int .i64 (k+3*(j:Int)+1+1))).1
    ·repeat (refine zU ?_ (.inl rfl) _)
     exact HR.2
   case measure=>simp [intOf];omega
  ·have hjl:j=n:=by omega
   subst hjl
   have HF:Hid (w.grownBy wr (some b)/\wr.ownsRow B 86 3 (sG b j cap) j (fE (mkEv k) j)):=by
    refine ⟨HR.2,?_⟩;have e:flat (fun t=>cE (if t<j then mkEv k t else h t)) j=fE (mkEv k) j:=qa2 fun t ht=>by rw [nC ht]
    have:=HR.1;rw [e] at this;exact this
   clear HR;go_wp2;go_ret;exact ⟨rfl,HF.out⟩
theorem qjf (b n cap:Nat) (k:Int) (w:World) (hlen:n<=1048576) (k0:0<=k) (k1:k<=100000000) (hb:b<w.heap.size) (h:EvAt w b 0 n (mkEv k)):
  Calls prog 156 #[.slice (some ⟨b,0,none⟩) n cap,.int .i64 k] w (rB w (.int .i64 (k+3*n))):=by
 have hl':(n:Int)<=1048576:=by omega
 have HO:Hid (EvAt w b 0 n (mkEv k)/\b<w.heap.size):=⟨h,hb⟩
 clear h hb
 go_enter func156,ntmps156
 go_wp2_with fail
 go_loopw [1,5] (fun q i wr=>∃ j:Nat,j<=n/\i=.int .i64 j/\q=.int .i64 (k+3*j)/\Below w.heap.size w wr) (fun _ i _=>n - (intOf i).toNat)
 case atStart=>exact ⟨0,nD _,rfl,by simp,nE _ _⟩
 case round=>
  obtain ⟨j,hj,rfl,rfl,hbw⟩:=hrel;by_cases hlt:j<n
  ·have hlt':(j:Int)<(n:Int):=by omega
   obtain ⟨d0,d1,d2⟩:=HO.1 j hlt;have c0:wr.cell? ⟨b,j*3,none⟩=some (.int .i64 (k+3*(j:Int))):=(hbw.cell (p:=⟨b,j*3,none⟩) HO.2).trans (by have d:=d0;rw [nL] at d;exact d);have c1:wr.cell? ⟨b,j*3+1,none⟩=some (.int .i64 (k+3*(j:Int)+1)):=(hbw.cell (p:=⟨b,j*3+1,none⟩) HO.2).trans (by have d:=d1;rw [nL] at d;exact d);have c2:wr.cell? ⟨b,j*3+2,none⟩=some (.int .i64 (k+3*(j:Int)+1+1)):=(hbw.cell (p:=⟨b,j*3+2,none⟩) HO.2).trans (by have d:=d2;rw [nL] at d;exact d);clear d0 d1 d2;go_wp2;go_roundw
   case rel=>exact ⟨j+1,by omega,by go_num,by go_num,hbw⟩
   case measure=>simp [intOf];omega
  ·have hjl:j=n:=by omega
   subst hjl;go_wp2;go_ret;exact ⟨rfl,hbw⟩
section
variable {e:TypeId} {sz:Nat} {E:TypeId} {w:World} {P:Nat->Prop} {v:Value} {n:Nat} {u:Nat->Value} {L:Nat->Nat} {c:Nat->List Value}
theorem LL.remark (o:LL true e sz E w P v n u L c) {i:Nat} (hi:i<n) {w1:World} {c':List Value} (hu:w1.ownsRow 0 e sz (u i) (L i) c') (g:∀ k,k<w.heap.size->(u i).ownBlock≠some k->w1.heap[k]? = w.heap[k]?):LL true e sz E w1 P v n u L (fun j=>if j=i then c' else c j):=by
 refine ⟨qab o.row fun k hk=>g k (o.row.lt k hk).2 fun e=>o.ra i hi k e hk,fun j hj=>?_,o.rb,o.ob,o.ra,o.oa,o.nn⟩;by_cases ej:j=i
 ·subst ej
  simp only [nQ];exact hu
 ·simp only [nB ej]
  exact qab (o.own j hj) fun k hk=>g k ((o.own j hj).lt k hk).2 fun e=>o.oa j i hj hi ej k hk e
theorem LL.cast (o:LL true e sz E w P v n u L c) {c':Nat->List Value} (h:∀ i,i<n->c i=c' i):LL true e sz E w P v n u L c':=
 ⟨o.row,fun i hi=>by rw [<- h i hi];exact o.own i hi,o.rb,o.ob,o.ra,o.oa,o.nn⟩
end
theorem qlk (v:Value) (P:Nat->Prop) (n:Nat) (u:Nat->Value) (L:Nat->Nat) (H:Nat->Nat->I5) (k:Int) (w:World) (hn:n<=1048576) (hl:sumL L n<=1048576) (k0:0<=k) (k1:k<=50000000) (o:LI true w P v n u L H):
  Calls prog 87 #[v,.int .i64 k] w fun e w'=>e=.returned (.int .i64 (k+5*(sumL L n:Nat)))/\LI true w' P v n u L (fun i=>mkI (k+5*(sumL L i:Nat)))/\qaa P w w':=by
 have hl':(n:Int)<=1048576:=by omega
 obtain ⟨a1,c1,rfl⟩:=zT o.row;have O:Hid (LI true w P (.slice a1 n c1) n u L H):=o;have HL:Hid (sumL L n<=1048576):=hl;clear o hl
 go_enter func87,ntmps87
 go_wp2_with fail
 go_loopw [1,5] (fun q i wr=>∃ j:Nat,j<=n/\i=.int .i64 j/\q=.int .i64 (k+5*(sumL L j:Nat))/\Hid (LL true 184 5 144 wr P (.slice a1 n c1) n u L (fun t=>fI (if t<j then mkI (k+5*(sumL L t:Nat)) else H t) (L t))/\qaa P w wr)) (fun _ i _=>n - (intOf i).toNat)
 case atStart=>exact ⟨0,nD _,rfl,by simp [sumL],O.cast fun i _=>by rw [nB (by omega)],qaa.refl _ _⟩
 case round=>
  obtain ⟨j,hj,rfl,rfl,HT⟩:=hrel;by_cases hlt:j<n
  ·have hlt':(j:Int)<(n:Int):=by omega
   obtain ⟨g1,m1,e1,-,-,ck,-⟩:=HT.1.cell hlt;obtain rfl:=qar e1;have how:=HT.1.own j hlt;rw [nB (by omega)] at how;obtain ⟨b,m,f1,lb,-,-⟩:=atI how (HT.1.nn (nzT _) j hlt);rw [f1] at ck how;have OW:Hid (wr.ownsRow 0 184 5 (sG b (L j) m) (L j) (fI (H j) (L j))):=how;have HU:Hid (u j=.slice (some ⟨b,0,none⟩) (L j) m):=f1;have hsl:=qbf L hlt;have hS:=HL.out;have e1':k+5*(sumL L j:Nat)+5*(L j:Int)=k+5*(sumL L (j+1):Nat):=by simp only [sumL];omega
   have HE:Hid (k+5*(sumL L j:Nat)+5*(L j:Int)=k+5*(sumL L (j+1):Nat)):=e1';have e2:0<=k+5*(sumL L j:Nat):=by omega
   have e3:k+5*(sumL L j:Nat)<=100000000:=by omega
   have e4:L j<=1048576:=by omega
   clear e1' hS hsl how f1 e1;go_wp2_with fail
   refine (qny b (L j) m 0 (H j) _ wr e4 e2 e3 OW.out).mono ?_;rintro e w1 ⟨rfl,g1',o1⟩;rw [HE.out]
   have HT1:Hid (LL true 184 5 144 w1 P (sG g1 n c1) n u L (fun t=>fI (if t<j+1 then mkI (k+5*(sumL L t:Nat)) else H t) (L t))/\qaa P w w1):=by
    refine ⟨(HT.1.remark hlt (c':=fI (mkI (k+5*(sumL L j:Nat))) (L j)) (by rw [HU.out];exact o1) fun q hq hne=>g1'.block q hq fun e=>hne (by rw [HU.out,e];rfl)).cast fun t ht=>?_,HT.2.trans (qaa.of_grown g1' fun q e=>HT.1.ob j hlt q (by rw [HU.out,<- e];rfl))⟩;by_cases et:t=j
    ·rw [nC et,nC (by omega),et]
    ·rw [nB et]
     by_cases e2:t<j
     ·rw [nC e2,nC (by omega)]
     ·rw [nB e2,nB (by omega)]
   clear HT e2 e3 e4 g1' o1 ck;go_wp2;go_roundw
   case rel=>exact ⟨j+1,by omega,by go_num,rfl,HT1.out⟩
   case measure=>simp [intOf];omega
  ·have hkl:j=n:=by omega
   subst hkl;have HT1:Hid (LI true wr P (.slice a1 j c1) j u L (fun i=>mkI (k+5*(sumL L i:Nat)))/\qaa P w wr):=⟨HT.1.cast fun t ht=>by rw [nC ht],HT.2⟩
   clear HT;go_wp2;go_ret;exact ⟨rfl,HT1.out⟩
theorem qk2 (v:Value) (P:Nat->Prop) (n:Nat) (u:Nat->Value) (L:Nat->Nat) (k:Int) (w:World) (hn:n<=1048576) (hl:sumL L n<=1048576) (k0:0<=k) (k1:k<=50000000) (o:LI true w P v n u L (fun i=>mkI (k+5*(sumL L i:Nat)))):
  Calls prog 94 #[v,.int .i64 k] w (rB w (.int .i64 (k+5*(sumL L n:Nat)))):=by
 have hl':(n:Int)<=1048576:=by omega
 obtain ⟨a1,c1,rfl⟩:=zT o.row;have O:Hid (LI true w P (.slice a1 n c1) n u L (fun i=>mkI (k+5*(sumL L i:Nat)))):=o;have HL:Hid (sumL L n<=1048576):=hl;clear o hl
 go_enter func94,ntmps94
 go_wp2_with fail
 go_loopw [1,5] (fun q i wr=>∃ j:Nat,j<=n/\i=.int .i64 j/\q=.int .i64 (k+5*(sumL L j:Nat))/\Below w.heap.size w wr) (fun _ i _=>n - (intOf i).toNat)
 case atStart=>exact ⟨0,nD _,rfl,by simp [sumL],nE _ _⟩
 case round=>
  obtain ⟨j,hj,rfl,rfl,hbw⟩:=hrel;by_cases hlt:j<n
  ·have hlt':(j:Int)<(n:Int):=by omega
   have Q:=O.bw hbw;obtain ⟨g1,m1,e1,-,-,ck,-⟩:=Q.cell hlt;obtain rfl:=qar e1;obtain ⟨b,m,f1,lb,it,-⟩:=atI (Q.own j hlt) (Q.nn (nzT _) j hlt);rw [f1] at ck;have IT:Hid (qao wr b 0 (L j) (mkI (k+5*(sumL L j:Nat)))/\b<wr.heap.size):=⟨it,lb⟩
   have hsl:=qbf L hlt;have hS:=HL.out;have e1':k+5*(sumL L j:Nat)+5*(L j:Int)=k+5*(sumL L (j+1):Nat):=by simp only [sumL];omega
   have HE:Hid (k+5*(sumL L j:Nat)+5*(L j:Int)=k+5*(sumL L (j+1):Nat)):=e1';have e2:0<=k+5*(sumL L j:Nat):=by omega
   have e3:k+5*(sumL L j:Nat)<=100000000:=by omega
   have e4:L j<=1048576:=by omega
   have e5:¬ (k+5*(sumL L (j+1):Nat)<0):=by omega
   clear e1' hS hsl Q f1 it lb e1;go_wp2_with fail
   refine (qnl b (L j) m _ wr e4 e2 e3 IT.2 IT.1).mono ?_;rintro e w1 ⟨rfl,b1⟩;rw [HE.out];have B1:Hid (Below w.heap.size w w1):=hbw.trans (b1.mono hbw.size);clear b1 e2 e3 e4 ck hbw;go_wp2;go_roundw
   case rel=>exact ⟨j+1,by omega,by go_num,rfl,B1.out⟩
   case measure=>simp [intOf];omega
  ·have hkl:j=n:=by omega
   subst hkl;go_wp2;go_ret;exact ⟨rfl,hbw⟩
theorem LI.strong {z:Bool} {w:World} {P:Nat->Prop} {v:Value} {n:Nat} {u:Nat->Value} {L:Nat->Nat} {H:Nat->Nat->I5} (o:LI z w P v n u L H):LI true w P v n u L H:=⟨o.row,o.own,o.rb,o.ob,o.ra,o.oa,fun _=>o.nn nzI⟩
theorem qna (b m:Nat) (w:World):Calls prog 149 #[.slice (some ⟨b,0,none⟩) 0 m,nS] w (rB w (.bool true)):=by
 go_enter func149,ntmps149
 go_wp2_with fail
 go_loopw [5] (fun i wr=>i=.int .i64 0/\Below w.heap.size w wr) (fun _ _=>0)
 case atStart=>exact ⟨rfl,nE _ _⟩
 case round=>
  obtain ⟨rfl,hbw⟩:=hrel;go_wp2;go_ret;exact ⟨rfl,hbw⟩
theorem qpx {B1 B2 n:Nat} {u1 u2:Value} {g:Nat->I2} {w:World} (hn:n<=1048576) (o1:w.ownsRow B1 74 2 u1 n (fT g n)) (n1:u1≠nS) (o2:w.ownsRow B2 74 2 u2 n (fT g n)):
  Calls prog 149 #[u1,u2] w (rB w (.bool true)):=by
 obtain ⟨b1,m1,rfl,l1,i1,-⟩:=atT o1 n1;by_cases h:u2=nS
 ·subst h
  rcases o2.2 with ⟨-,h0⟩ | ⟨g,cap,cur,e,-⟩
  ·subst h0
   exact qna b1 m1 w
  ·cases e
 ·obtain ⟨b2,m2,rfl,l2,i2,-⟩:=atT o2 h
  exact qg9 b1 b2 n m1 m2 g w hn l1 l2 i1 i2
theorem qks (b m:Nat) (w:World):Calls prog 150 #[.slice (some ⟨b,0,none⟩) 0 m,nS] w (rB w (.bool true)):=by
 go_enter func150,ntmps150
 go_wp2_with fail
 go_loopw [5] (fun i wr=>i=.int .i64 0/\Below w.heap.size w wr) (fun _ _=>0)
 case atStart=>exact ⟨rfl,nE _ _⟩
 case round=>
  obtain ⟨rfl,hbw⟩:=hrel;go_wp2;go_ret;exact ⟨rfl,hbw⟩
theorem qm6 {B1 B2 n:Nat} {u1 u2:Value} {g:Nat->E3} {w:World} (hn:n<=1048576) (o1:w.ownsRow B1 86 3 u1 n (fE g n)) (n1:u1≠nS) (o2:w.ownsRow B2 86 3 u2 n (fE g n)):
  Calls prog 150 #[u1,u2] w (rB w (.bool true)):=by
 obtain ⟨b1,m1,rfl,l1,i1,-⟩:=atE o1 n1;by_cases h:u2=nS
 ·subst h
  rcases o2.2 with ⟨-,h0⟩ | ⟨g,cap,cur,e,-⟩
  ·subst h0
   exact qks b1 m1 w
  ·cases e
 ·obtain ⟨b2,m2,rfl,l2,i2,-⟩:=atE o2 h
  exact qfn b1 b2 n m1 m2 g w hn l1 l2 i1 i2
def mkS (x:Int) (s:S4):S4:=⟨x,qe6 (x+1) s.rs.length,qe6 (x+1+s.rs.length) s.os.length,x+1+s.rs.length+s.os.length⟩
theorem qs3 {f:Nat->List Value} {n i:Nat} (hl:∀ j,j<n->(f j).length=4) (_hi:i<n) {a0 d0 b c:Value} (hf:f i=[a0,b,c,d0]) (a d:Value):
  flat (fun j=>if j=i then [a,b,c,d] else f j) n=((flat f n).set (i*4) a).set (i*4+3) d:=by
 have hl':∀ j,j<n->((fun j=>if j=i then [a,b,c,d] else f j) j).length=4:=fun j hj=>by
  by_cases e:j=i
  ·simp [e]
  ·simp [e,hl j hj]
 have n1:=qbh hl;have n2:=qbh hl';apply List.ext_getElem?;intro q;by_cases hq:q<n*4
 ·have hk:q / 4<n:=by omega
  have hr:q % 4<4:=by omega
  have e0:q=q / 4*4+q % 4:=by omega
  have e1:=qbp hl' hk hr;have e2:=qbp hl hk hr;rw [<- e0] at e1 e2;rw [e1];simp only [List.getElem?_set,List.length_set,n1];by_cases ei:q / 4=i
  ·simp only [nC ei]
   rw [ei,hf] at e2;have hrK:q % 4=0\/q % 4=1\/q % 4=2\/q % 4=3:=by omega
   rcases hrK with h | h | h | h <;> rw [h] at e2 ⊢
   ·rw [nB (by omega),nC (by omega),nC (by omega)]
    simp
   ·rw [nB (by omega),nB (by omega),e2]
    simp
   ·rw [nB (by omega),nB (by omega),e2]
    simp
   ·rw [nC (by omega),nC (by omega)]
    simp
  ·simp only [nB ei]
   rw [nB (by omega),nB (by omega),e2]
 ·rw [List.getElem?_eq_none (by omega),List.getElem?_eq_none (by simp only [List.length_set];omega)]
theorem LS.mark {w:World} {P:Nat->Prop} {n:Nat} {vs:Nat->Value} {S:Nat->S4} {g cap j:Nat} (o:LS w P (sG g n cap) n vs S) (hj:j<n) {p code:Int} {ra oa:Option Addr} {rn rc on oc:Nat} (hv:vs j=stV p ra rn rc oa on oc code) (X C:Int) {w1 w2:World} {rs' os':List Int}
  (g1:(w.setCell ⟨g,j*4,none⟩ (.int .i64 X)).grownBy w1 (Value.slice ra rn rc).ownBlock) (g2:w1.grownBy w2 (Value.slice oa on oc).ownBlock) (r1:OwnI w2 0 (.slice ra rn rc) rs') (r2:OwnI w2 0 (.slice oa on oc) os'):
  LS (w2.setCell ⟨g,j*4+3,none⟩ (.int .i64 C)) P (sG g n cap) n (fun t=>if t=j then stV X ra rn rc oa on oc C else vs t) (fun t=>if t=j then ⟨X,rs',os',C⟩ else S t)/\qaa P w (w2.setCell ⟨g,j*4+3,none⟩ (.int .i64 C)):=by
 have hg:g<w.heap.size:=(o.row.lt g rfl).2;have hRb:∀ k,(Value.slice ra rn rc).ownBlock=some k->qae (vs j) k:=fun k hk=>by rw [hv];exact (qal _ _ _ _ _).2 (.inl hk)
 have hOb:∀ k,(Value.slice oa on oc).ownBlock=some k->qae (vs j) k:=fun k hk=>by rw [hv];exact (qal _ _ _ _ _).2 (.inr hk)
 have ng:¬ qae (vs j) g:=fun h=>o.ra j hj g h rfl;have z1:w.heap.size<=w1.heap.size:=by have:=g1.size;simpa using this
 have hkeep:∀ k,k<w.heap.size->k≠g->¬ qae (vs j) k->w2.heap[k]? = w.heap[k]?:=fun k hk hne hnb=>(g2.block k (by omega) fun e=>hnb (hOb k e.symm)).trans ((g1.block k (by simpa using hk) fun e=>hnb (hRb k e.symm)).trans (zN _ _ _ _ hne));have hgk:w2.heap[g]? = (w.setCell ⟨g,j*4,none⟩ (.int .i64 X)).heap[g]?:=(g2.block g (by omega) fun e=>ng (hOb g e.symm)).trans (g1.block g (by simpa using hg) fun e=>ng (hRb g e.symm));have lts:∀ t,t<n->∀ k,qae (vs t) k->k<w.heap.size:=fun t ht k hk=>((o.own t ht).lt hk).2;have hl:∀ t,t<n->(cellsL (vs t)).length=4:=fun t ht=>(o.own t ht).cellsL.1
 have hhb:∀ k,qae (stV X ra rn rc oa on oc C) k->qae (vs j) k:=fun k hk=>by
  rcases (qal _ _ _ _ _).1 hk with h | h
  ·exact hRb k h
  ·exact hOb k h
 refine ⟨⟨?_,fun t ht=>?_,o.rb,fun t ht k hk=>?_,fun t ht k hk=>?_,fun a b ha hb hab k hk=>?_⟩,?_⟩
 ·have e:flat (fun t=>cellsL (if t=j then stV X ra rn rc oa on oc C else vs t)) n=flat (fun t=>if t=j then [.int .i64 X,.slice ra rn rc,.slice oa on oc,.int .i64 C] else cellsL (vs t)) n:=qa2 fun t _=>by
   by_cases et:t=j
   ·rw [nC et,nC et];rfl
   ·rw [nB et,nB et]
  rw [e,qs3 hl hj (by rw [hv];rfl)];exact (World.ownsRow.stored (qab (World.ownsRow.stored o.row (j*4) (.int .i64 X)).1 fun k hk=>by cases hk;exact hgk) _ _).1
 ·by_cases et:t=j
  ·subst et
   simp only [nQ];obtain ⟨vr,vo,ee,-,-,hap⟩:=o.own t hj;rw [hv] at ee;simp only [stV,Value.agg.injEq,Array.mk.injEq,List.cons.injEq,and_true] at ee;obtain ⟨-,rfl,rfl,-⟩:=ee;refine ⟨.slice ra rn rc,.slice oa on oc,rfl,r1.blk fun k hk=>zN _ _ _ _ fun (e:k=g)=>ng (by rw [<- e];exact hRb k hk),r2.blk fun k hk=>zN _ _ _ _ fun (e:k=g)=>ng (by rw [<- e];exact hOb k hk),hap⟩
  ·simp only [nB et]
   exact (o.own t ht).blk fun k hk=>(zN _ _ _ _ fun e=>o.ra t ht k hk (by rw [e];rfl)).trans (hkeep k (lts t ht k hk) (fun e=>o.ra t ht k hk (by rw [e];rfl)) fun h=>o.oa t j ht hj et k hk h)
 ·by_cases et:t=j
  ·simp only [nC et] at hk
   exact o.ob j hj k (hhb k hk)
  ·simp only [nB et] at hk
   exact o.ob t ht k hk
 ·by_cases et:t=j
  ·simp only [nC et] at hk
   exact o.ra j hj k (hhb k hk)
  ·simp only [nB et] at hk
   exact o.ra t ht k hk
 ·intro hbk
  by_cases ea:a=j
  ·have eb:b≠j:=fun e=>hab (by omega)
   simp only [nC ea] at hk;simp only [nB eb] at hbk;exact o.oa j b hj hb (Ne.symm eb) k (hhb k hk) hbk
  ·simp only [nB ea] at hk
   by_cases eb:b=j
   ·simp only [nC eb] at hbk
    exact o.oa a j ha hj ea k hk (hhb k hbk)
   ·simp only [nB eb] at hbk
    exact o.oa a b ha hb hab k hk hbk
 ·have t1:qaa P w (w.setCell ⟨g,j*4,none⟩ (.int .i64 X)):=qaa.of_set _ (o.rb g rfl) _
  have t2:qaa P (w.setCell ⟨g,j*4,none⟩ (.int .i64 X)) w1:=qaa.of_grown g1 fun k e=>o.ob j hj k (hRb k e);have t3:qaa P w1 w2:=qaa.of_grown g2 fun k e=>o.ob j hj k (hOb k e);exact ((t1.trans t2).trans t3).trans (qaa.of_set _ (o.rb g rfl) _)
theorem LS.cast {w:World} {P:Nat->Prop} {v:Value} {n:Nat} {vs:Nat->Value} {S S':Nat->S4} (o:LS w P v n vs S) (h:∀ i,i<n->S i=S' i):LS w P v n vs S':=
 ⟨o.row,fun i hi=>by rw [<- h i hi];exact o.own i hi,o.rb,o.ob,o.ra,o.oa⟩
theorem qjs (v:Value) (P:Nat->Prop) (n:Nat) (vs:Nat->Value) (S:Nat->S4) (k:Int) (w:World) (hn:n<=1048576) (hl:sumL (lenS S) n<=1048576) (k0:0<=k) (k1:k<=50000000) (o:LS w P v n vs S):
  Calls prog 88 #[v,.int .i64 k] w fun e w'=>e=.returned (.int .i64 (k+(2*n+sumL (lenS S) n:Nat)))/\(∃ us,LS w' P v n us (fun i=>mkS (k+(2*i+sumL (lenS S) i:Nat)) (S i)))/\qaa P w w':=by
 have hl':(n:Int)<=1048576:=by omega
 obtain ⟨a1,c1,rfl⟩:=zT o.row;have O:Hid (LS w P (.slice a1 n c1) n vs S):=o;have HL:Hid (sumL (lenS S) n<=1048576):=hl;clear o hl
 go_enter func88,ntmps88
 go_wp2_with fail
 go_loopw [1,5] (fun q i wr=>∃ j:Nat,j<=n/\i=.int .i64 j/\q=.int .i64 (k+(2*j+sumL (lenS S) j:Nat))/\Hid ((∃ us,LS wr P (.slice a1 n c1) n us (fun t=>if t<j then mkS (k+(2*t+sumL (lenS S) t:Nat)) (S t) else S t))/\qaa P w wr)) (fun _ i _=>n - (intOf i).toNat)
 case atStart=>exact ⟨0,nD _,rfl,by simp [sumL],⟨vs,O.cast fun i _=>by rw [nB (by omega)]⟩,qaa.refl _ _⟩
 case round=>
  obtain ⟨j,hj,rfl,rfl,HT⟩:=hrel;by_cases hlt:j<n
  ·have hlt':(j:Int)<(n:Int):=by omega
   obtain ⟨⟨us,ol⟩,tw⟩:=HT.out;obtain ⟨D,m1,e1,Pg,hD,cel,fz⟩:=ol.cell hlt;obtain rfl:=qar e1;rw [nB (by omega)] at cel;obtain ⟨ra,rc,oa,oc,ev,c0,c1',c2,c3⟩:=cel;have how:=ol.own j hlt;rw [nB (by omega),ev] at how;obtain ⟨w1r,w1o,wap⟩:=how.parts;have OL:Hid (LS wr P (sG D n c1) n us (fun t=>if t<j then mkS (k+(2*t+sumL (lenS S) t:Nat)) (S t) else S t)):=ol;have TW:Hid (qaa P w wr):=tw;have OR:Hid (OwnI wr 0 (.slice ra (S j).rs.length rc) (S j).rs):=w1r;have OO:Hid (OwnI wr 0 (.slice oa (S j).os.length oc) (S j).os):=w1o;have AP:Hid (∀ b,(Value.slice ra (S j).rs.length rc).ownBlock=some b->(Value.slice oa (S j).os.length oc).ownBlock≠some b):=wap;have HV:Hid (us j=stV (S j).p ra (S j).rs.length rc oa (S j).os.length oc (S j).c):=ev;have nR:some D≠(Value.slice ra (S j).rs.length rc).ownBlock:=fun e=>ol.ra j hlt D (by rw [ev];exact (qal _ _ _ _ _).2 (.inl e.symm)) rfl;have nO:some D≠(Value.slice oa (S j).os.length oc).ownBlock:=fun e=>ol.ra j hlt D (by rw [ev];exact (qal _ _ _ _ _).2 (.inr e.symm)) rfl;have hsl:=qbf (lenS S) hlt;have hS:=HL.out;have hlk:lenS S j=(S j).rs.length+(S j).os.length:=rfl;have r1:(S j).rs.length<=1048576:=by omega
   have r2:(S j).os.length<=1048576:=by omega
   have HX:Hid (mkS (k+(2*j+sumL (lenS S) j:Nat)) (S j)=mkS (k+(2*j+sumL (lenS S) j:Nat)) (S j)):=rfl;generalize hx:k+(2*j+sumL (lenS S) j:Nat)=X at *;have x0:0<=X:=by omega
   have x1:X<=60000000:=by omega
   have HN:Hid (X+1+(S j).rs.length+(S j).os.length+1=k+(2*(j+1)+sumL (lenS S) (j+1):Nat)):=by
    show X+1+(S j).rs.length+(S j).os.length+1=k+(2*(j+1)+sumL (lenS S) (j+1):Nat);simp only [sumL];omega
   have HJ:Hid (k+(2*j+sumL (lenS S) j:Nat)=X):=hx;have rI:((S j).rs.length:Int)<=1048576:=by omega
   have oI:((S j).os.length:Int)<=1048576:=by omega
   clear ev wap w1r w1o how hsl hS hlk hx ol tw e1 HT HX;go_wp2_with fail
   refine (qcr ra rc 0 (S j).rs _ _ r1 (by omega) (by omega) (OR.blk fun b hb=>zN _ _ _ _ fun e=>nR (by rw [hb,e]))).mono ?_;rintro e w1 ⟨rfl,q1,g1⟩;obtain ⟨d1,f1⟩:=qhn g1 (b:=D) (by simpa using hD) nR;have OO1:Hid (OwnI w1 0 (.slice oa (S j).os.length oc) (S j).os):=qft (OO.blk fun b hb=>zN _ _ _ _ fun e=>nO (by rw [hb,e])) g1 AP.out;have hD1:D<w1.heap.size:=by have:=g1.size;simp at this;omega
   have G1:Hid (World.grownBy (wr.setCell ⟨D,j*4,none⟩ (.int .i64 X)) w1 (Value.slice ra (S j).rs.length rc).ownBlock):=g1;have R1:Hid (OwnI w1 0 (.slice ra (S j).rs.length rc) (qe6 (X+1) (S j).rs.length)):=q1;clear g1 q1;go_wp2_with fail
   refine (qcr oa oc 0 (S j).os _ _ r2 (by omega) (by omega) OO1.out).mono ?_;rintro e w2 ⟨rfl,q2,g2⟩;obtain ⟨d2,f2⟩:=qhn g2 (b:=D) hD1 nO;have R2:OwnI w2 0 (.slice ra (S j).rs.length rc) (qe6 (X+1) (S j).rs.length):=qft R1.out g2 fun b hb e=>AP.out b e hb;have HM:=OL.mark hlt HV.out X (X+1+(S j).rs.length+(S j).os.length) G1.out g2 R2 q2
   have HT2:Hid ((∃ us,LS (w2.setCell ⟨D,j*4+3,none⟩ (.int .i64 (X+1+(S j).rs.length+(S j).os.length))) P (sG D n c1) n us (fun t=>if t<j+1 then mkS (k+(2*t+sumL (lenS S) t:Nat)) (S t) else S t))/\qaa P w (w2.setCell ⟨D,j*4+3,none⟩ (.int .i64 (X+1+(S j).rs.length+(S j).os.length)))):=by
    refine ⟨⟨_,HM.1.cast fun t ht=>?_⟩,TW.trans HM.2⟩;by_cases et:t=j
    ·rw [nC et,nC (by omega),et,HJ.out]
     rfl
    ·rw [nB et]
     by_cases e2:t<j
     ·rw [nC e2,nC (by omega)]
     ·rw [nB e2,nB (by omega)]
   clear g2 G1 OO1 OO OR AP HV R1 R2 HM q2 OL TW;go_wp2;go_roundw
   case rel=>exact ⟨j+1,by omega,by go_num,by rw [HN.out],HT2.out⟩
   case measure=>simp [intOf];omega
  ·have hkl:j=n:=by omega
   subst hkl
   have HT1:Hid ((∃ us,LS wr P (.slice a1 j c1) j us (fun i=>mkS (k+(2*i+sumL (lenS S) i:Nat)) (S i)))/\qaa P w wr):=by
    obtain ⟨⟨us,ol⟩,tw⟩:=HT.out;exact ⟨⟨us,ol.cast fun t ht=>by rw [nC ht]⟩,tw⟩
   clear HT;go_wp2;go_ret;exact ⟨rfl,HT1.out⟩
theorem qjg (v:Value) (P:Nat->Prop) (n:Nat) (us:Nat->Value) (S:Nat->S4) (k:Int) (w:World) (hn:n<=1048576) (hl:sumL (lenS S) n<=1048576) (k0:0<=k) (k1:k<=50000000) (o:LS w P v n us (fun i=>mkS (k+(2*i+sumL (lenS S) i:Nat)) (S i))):
  Calls prog 95 #[v,.int .i64 k] w (rB w (.int .i64 (k+(2*n+sumL (lenS S) n:Nat)))):=by
 have hl':(n:Int)<=1048576:=by omega
 obtain ⟨a1,c1,rfl⟩:=zT o.row;have O:Hid (LS w P (.slice a1 n c1) n us (fun i=>mkS (k+(2*i+sumL (lenS S) i:Nat)) (S i))):=o;have HL:Hid (sumL (lenS S) n<=1048576):=hl;clear o hl
 go_enter func95,ntmps95
 go_wp2_with fail
 go_loopw [1,5] (fun q i wr=>∃ j:Nat,j<=n/\i=.int .i64 j/\q=.int .i64 (k+(2*j+sumL (lenS S) j:Nat))/\Below w.heap.size w wr) (fun _ i _=>n - (intOf i).toNat)
 case atStart=>exact ⟨0,nD _,rfl,by simp [sumL],nE _ _⟩
 case round=>
  obtain ⟨j,hj,rfl,rfl,hbw⟩:=hrel;by_cases hlt:j<n
  ·have hlt':(j:Int)<(n:Int):=by omega
   have Q:=O.bw hbw;obtain ⟨D,m1,e1,-,hD,⟨ra,rc,oa,oc,ev,c0,c1',c2,c3⟩,-⟩:=Q.cell hlt;obtain rfl:=qar e1;have how:=Q.own j hlt;rw [ev] at how;have hs1:=how.parts.1.slOf;have hs2:=how.parts.2.1.slOf;simp only [mkS,qc6] at c0 c1' c2 c3 hs1 hs2;have hsl:=qbf (lenS S) hlt;have hS:=HL.out;have hlk:lenS S j=(S j).rs.length+(S j).os.length:=rfl;have r1:(S j).rs.length<=1048576:=by omega
   have r2:(S j).os.length<=1048576:=by omega
   generalize hx:k+(2*j+sumL (lenS S) j:Nat)=X at *;have x0:0<=X:=by omega
   have x1:X<=60000000:=by omega
   have HN:Hid (X+1+(S j).rs.length+(S j).os.length+1=k+(2*(j+1)+sumL (lenS S) (j+1):Nat)):=by
    show X+1+(S j).rs.length+(S j).os.length+1=k+(2*(j+1)+sumL (lenS S) (j+1):Nat);simp only [sumL];omega
   have SA:Hid (Sl wr ra (qe6 (X+1) (S j).rs.length)/\Sl wr oa (qe6 (X+1+(S j).rs.length) (S j).os.length)):=⟨hs1,hs2⟩
   have rI:((S j).rs.length:Int)<=1048576:=by omega
   have oI:((S j).os.length:Int)<=1048576:=by omega
   have n1:¬ (X+1+((S j).rs.length:Int)<0):=by omega
   have n2:¬ (X+1+((S j).rs.length:Int)+((S j).os.length:Int)<0):=by omega
   clear hs1 hs2 how Q ev hsl hS hlk hx e1;go_wp2_with fail
   refine (qc9 ra rc (S j).rs.length (X+1) wr r1 (by omega) (by omega) SA.1).mono ?_;rintro e w1 ⟨rfl,hw1⟩;rw [hw1];clear hw1 w1;go_wp2_with fail
   refine (qc9 oa oc (S j).os.length (X+1+(S j).rs.length) wr r2 (by omega) (by omega) SA.2).mono ?_;rintro e w1 ⟨rfl,hw1⟩;rw [hw1];clear hw1 w1;go_wp2;go_roundw
   case rel=>exact ⟨j+1,by omega,by go_num,by rw [HN.out],hbw⟩
   case measure=>simp [intOf];omega
  ·have hkl:j=n:=by omega
   subst hkl;go_wp2;go_ret;exact ⟨rfl,hbw⟩
structure Sy.Sums (y:Sy):Prop where
 p:y.pn<=1048576/\sumL y.pL y.pn<=1048576
 s:y.sn<=1048576/\sumL (lenS y.sS) y.sn<=1048576
 w:y.wn<=1048576/\sumL y.wL y.wn<=1048576
 h:y.hn<=1048576/\sumL y.hL y.hn<=1048576
def mkZ2 (y:Sy) (k:Int):Int:=k+5*(sumL y.pL y.pn:Nat)
def mkZ3 (y:Sy) (k:Int):Int:=mkZ2 y k+(2*y.sn+sumL (lenS y.sS) y.sn:Nat)
def mkZ4 (y:Sy) (k:Int):Int:=mkZ3 y k+2*(sumL y.wL y.wn:Nat)
def mkZ5 (y:Sy) (k:Int):Int:=mkZ4 y k+3*(sumL y.hL y.hn:Nat)
def mkY (y:Sy) (k:Int):Sy:=⟨y.pn,y.pL,fun i=>mkI (k+5*(sumL y.pL i:Nat)),y.sn,fun i=>mkS (mkZ2 y k+(2*i+sumL (lenS y.sS) i:Nat)) (y.sS i),y.wn,y.wL,fun i=>mkT (mkZ3 y k+2*(sumL y.wL i:Nat)),y.hn,y.hL,fun i=>mkEv (mkZ4 y k+3*(sumL y.hL i:Nat))⟩
theorem qn2 {y:Sy} (h:y.Sums):(0<=mkZ2 y 1/\mkZ2 y 1<=6000000)/\(0<=mkZ3 y 1/\mkZ3 y 1<=12000000)/\(0<=mkZ4 y 1/\mkZ4 y 1<=18000000)/\(0<=mkZ5 y 1/\mkZ5 y 1<=24000000):=by
 have h1:=h.p.2;have h2:=h.s;have h3:=h.w.2;have h4:=h.h.2;simp only [mkZ5,mkZ4,mkZ3,mkZ2];omega
theorem qqp (eh:Nat->E3) (kd pr:Int):∀ (n j q:Nat),(plN eh kd pr n)[j]? = some q->q<n/\hitB eh kd pr q=true/\cnt eh kd pr q=j
 | 0,j,q,h=>by simp [plN] at h
 | n+1,j,q,h=>by
  rcases zK (hitB eh kd pr n) with t | t
  ·rw [plN,nC t] at h
   by_cases hj:j<(plN eh kd pr n).length
   ·rw [List.getElem?_append_left hj] at h
    obtain ⟨h1,h2,h3⟩:=qqp eh kd pr n j q h;exact ⟨by omega,h2,h3⟩
   ·rw [List.getElem?_append_right (by omega)] at h
    have hj2:j - (plN eh kd pr n).length=0:=by
     by_cases e:j - (plN eh kd pr n).length=0
     ·exact e
     ·rw [List.getElem?_eq_none (by simp;omega)] at h
      cases h
    rw [hj2] at h;simp at h;subst h;refine ⟨by omega,t,?_⟩;unfold cnt;omega
  ·rw [plN,nB (by rw [t];decide)] at h
   obtain ⟨h1,h2,h3⟩:=qqp eh kd pr n j q h;exact ⟨by omega,h2,h3⟩
theorem qve {eh:Nat->E3} {kd pr:Int} {len n:Nat} (h:n<cnt eh kd pr len):∃ q:Nat,nthV eh kd pr len n=q/\q<len/\hitB eh kd pr q=true/\cnt eh kd pr q=n:=by
 have hl:n<(plI eh kd pr len).length:=by rw [qen];exact h
 obtain ⟨q,h1,h2,h3⟩:=qn9 eh kd pr len n hl;obtain ⟨-,h4,h5⟩:=qqp eh kd pr len n q h3;refine ⟨q,?_,h2,h4,h5⟩;unfold nthV;rw [nC (by simp [belB];omega),nF];exact h1
theorem qvd {eh:Nat->E3} {kd pr:Int} {len n:Nat} (h:cnt eh kd pr len<=n):nthV eh kd pr len n = -1:=by
 unfold nthV;rw [nB];have hl:(plI eh kd pr len).length<=n:=by rw [qen];exact h
 simp [belB];omega
structure Sy.Cut (y:Sy) (c:List Int):Prop where
 len:c.length=y.pn
 le:∀ p,p<y.pn->0<=zi c p/\zi c p<=(y.hL p:Int)
def cN (c:List Int) (p:Nat):Nat:=(zi c p).toNat
def sN (y:Sy) (c:Nat->Nat) (a b:Nat):Nat:=cnt (y.hH a) 2 b (c a)
def tN (y:Sy) (c:Nat->Nat) (a b:Nat):Nat:=cnt (y.hH b) 3 a (c b)
def Sy.Wh (y:Sy) (c:Nat->Nat):Prop:=∀ a,a<y.pn->∀ b,b<y.pn->tN y c a b<=sN y c a b
def ovN (y:Sy) (c:Nat->Nat) (a b:Nat):Int:=nthV (y.hH b) 3 a (c b) (sN y c a b:Nat)
theorem qzh {y:Sy} {c:Nat->Nat} {a b:Nat} (h:tN y c a b<=sN y c a b):ovN y c a b = -1:=qvd h
theorem qvj {y:Sy} {c:Nat->Nat} {a b:Nat} (h:¬ tN y c a b<=sN y c a b):∃ k:Nat,ovN y c a b=k/\k<c b/\hitB (y.hH b) 3 a k=true/\cnt (y.hH b) 3 a k=sN y c a b:=qve (by unfold tN at h;omega)
theorem qyo {y:Sy} {c:Nat->Nat} {a b:Nat}:ovN y c a b<0 ↔ tN y c a b<=sN y c a b:=by
 refine ⟨fun h=>?_,fun h=>by rw [qzh h];decide⟩;by_cases hc:tN y c a b<=sN y c a b
 ·exact hc
 ·obtain ⟨k,e,-⟩:=qvj hc
  omega
structure Sy.Cl (y:Sy) (c e:List Int):Prop where
 len:e.length=y.pn
 le:∀ p,p<y.pn->0<=zi e p/\zi e p<=zi c p
 gr:∀ d:Nat->Nat,(∀ p,p<y.pn->(d p:Int)<=zi c p)->y.Wh d->∀ p,p<y.pn->(d p:Int)<=zi e p
theorem Sy.Cl.start {y:Sy} {c:List Int} (h:y.Cut c):y.Cl c c:=⟨h.len,fun p hp=>⟨(h.le p hp).1,Int.le_refl _⟩,fun _ h _=>h⟩
theorem Sy.Cl.cut {y:Sy} {c e:List Int} (h:y.Cl c e) (hc:y.Cut c):y.Cut e:=⟨h.len,fun p hp=>⟨(h.le p hp).1,Int.le_trans (h.le p hp).2 (hc.le p hp).2⟩⟩
theorem qx4 {e:List Int} {b p:Nat} {k:Int} (hb:b<e.length):zi (e.set b k) p=if p=b then k else zi e p:=by
 by_cases h:p=b
 ·subst h
  rw [nC rfl,qdp e p k hb]
 ·rw [nB h,qe4 e p b k h]
theorem Sy.Cl.next {y:Sy} {c e:List Int} {a b:Nat} (h:y.Cl c e) (ha:a<y.pn) (hb:b<y.pn) (ho:0<=ovN y (cN e) a b):y.Cl c (e.set b (ovN y (cN e) a b))/\0<=ovN y (cN e) a b/\ovN y (cN e) a b<zi e b:=by
 have hn:¬ tN y (cN e) a b<=sN y (cN e) a b:=fun hc=>by
  have:=qyo.2 hc;omega
 obtain ⟨k,e1,e2,e3,e4⟩:=qvj hn;have eb:=(h.le b hb)
 have hkb:(k:Int)<zi e b:=by unfold cN at e2;omega
 refine ⟨⟨by rw [List.length_set];exact h.len,fun p hp=>?_,fun d hd hw p hp=>?_⟩,ho,by omega⟩
 ·rw [qx4 (by rw [h.len];exact hb)]
  by_cases ep:p=b
  ·subst ep
   rw [nC rfl];omega
  ·rw [nB ep]
   exact h.le p hp
 ·rw [qx4 (by rw [h.len];exact hb)]
  have h0:=h.gr d hd hw p hp;by_cases ep:p=b
  ·subst ep
   rw [nC rfl,e1];by_cases hc:(d p:Int)<=k
   ·exact hc
   ·exfalso
    have h1 : sN y d a p ≤ sN y (cN e) a p := qkp _ _ _ (by
     have:=h.gr d hd hw a ha;unfold cN
     omega)
    have h2:cnt (y.hH p) 3 a (k+1)<=tN y d a p:=qkp _ _ _ (by omega);rw [qko e3,e4] at h2;have:=hw a ha p hb;omega
  ·rw [nB ep]
   exact h0
open Go.Sort
theorem Sl.all {w:World} {a0:Option Addr} {xs:List Int} (h:Sl w a0 xs) (hn:0<xs.length):∃ b off,a0=some ⟨b,off,none⟩/\b<w.heap.size/\∀ i,i<xs.length->w.cell? ⟨b,off+i,none⟩=some (.int .i64 (zi xs i)):=by
 rcases h with rfl | h
 ·simp at hn
 ·exact h
theorem RowS.all {w:World} {a0:Option Addr} {n:Nat} {f:Nat->Value} (h:RowS w a0 n f) (hn:0<n):∃ b off,a0=some ⟨b,off,none⟩/\b<w.heap.size/\∀ i,i<n->w.cell? ⟨b,off+i,none⟩=some (f i):=by
 rcases h with rfl | h
 ·omega
 ·exact h
def Sy.nil (y:Sy):Sy:={ y with pn:=0,sn:=0,wn:=0,hn:=0 }
theorem Sy.nil_sm (y:Sy):y.nil.Sm:=⟨⟨by simp [Sy.nil],by simp [Sy.nil],by simp [Sy.nil],by simp [Sy.nil]⟩,fun i hi=>by simp [Sy.nil] at hi,fun i hi=>by simp [Sy.nil] at hi,fun i hi=>by simp [Sy.nil] at hi,fun i hi=>by simp [Sy.nil] at hi⟩
