import Derived.Test.YtkdablcbhhphoaaGreatDoorMt24
import Derived.Test.YtkdablcbhhphoaaGreatDoorMt25
import Derived.Test.YtkdablcbhhphoaaGreatDoorMt23
namespace Go.Proofs.YtkdablcbhhphoaaGreatDoor
open Go.Proofs.Tryz
set_option maxRecDepth 100000
set_option maxHeartbeats 2000000
open Go.ChangeShapes Go.WideShapes Go.ChangeAt Go.RowKit Go.Deep
theorem qi2 {L:Nat->Nat} {M:Nat}:∀ {n:Nat},(∀ i,i<n->L i<=M)->sumL L n<=n*M
 | 0,_=>by simp [sumL]
 | n+1,h=>by
  have h1:=qi2 fun i hi=>h i (Nat.lt_succ_of_lt hi);have h2:=h n (Nat.lt_succ_self n);show sumL L n+L n<=(n+1)*M;rw [Nat.add_mul,Nat.one_mul];omega
theorem Sy.Sm.sums {y:Sy} (h:y.Sm):y.Sums:=by
 obtain ⟨h1,h2,h3,h4⟩:=h.n;have a1:=qi2 h.p
 have a2:=qi2 (L:=lenS y.sS) (M:=2000) (n:=y.sn) fun i hi=>by
  have:=h.s i hi;simp only [lenS];omega
 have a3:=qi2 h.w;have a4:=qi2 h.h;exact ⟨⟨by omega,by omega⟩,⟨by omega,by omega⟩,⟨by omega,by omega⟩,⟨by omega,by omega⟩⟩
theorem Sy.Sm.len {y:Sy} (h:y.Sm):y.Len:=by
 obtain ⟨h1,h2,h3,h4⟩:=h.n;exact ⟨⟨by omega,fun i hi=>by have:=h.p i hi;omega⟩,⟨by omega,fun i hi=>by have:=h.s i hi;omega⟩,⟨by omega,fun i hi=>by have:=h.w i hi;omega⟩,⟨by omega,fun i hi=>by have:=h.h i hi;omega⟩⟩
theorem qpw (w:World):Calls prog 149 #[nS,nS] w (rB w (.bool true)):=by
 go_enter func149,ntmps149
 go_wp2_with fail
 go_loopw [5] (fun i wr=>i=.int .i64 0/\Below w.heap.size w wr) (fun _ _=>0)
 case atStart=>exact ⟨rfl,nE _ _⟩
 case round=>
  obtain ⟨rfl,hbw⟩:=hrel;go_wp2;go_ret;exact ⟨rfl,hbw⟩
theorem qln (k:Int) (w:World):Calls prog 152 #[nS,.int .i64 k] w (rB w (.int .i64 k)):=by
 go_enter func152,ntmps152
 go_wp2_with fail
 go_loopw [1,5] (fun q i wr=>i=.int .i64 0/\q=.int .i64 k/\Below w.heap.size w wr) (fun _ _ _=>0)
 case atStart=>exact ⟨rfl,rfl,nE _ _⟩
 case round=>
  obtain ⟨rfl,rfl,hbw⟩:=hrel;go_wp2;go_ret;exact ⟨rfl,hbw⟩
theorem qk3 (k:Int) (w:World):Calls prog 155 #[nS,.int .i64 k] w (rB w (.int .i64 k)):=by
 go_enter func155,ntmps155
 go_wp2_with fail
 go_loopw [1,5] (fun q i wr=>i=.int .i64 0/\q=.int .i64 k/\Below w.heap.size w wr) (fun _ _ _=>0)
 case atStart=>exact ⟨rfl,rfl,nE _ _⟩
 case round=>
  obtain ⟨rfl,rfl,hbw⟩:=hrel;go_wp2;go_ret;exact ⟨rfl,hbw⟩
theorem qm5 (w:World):Calls prog 150 #[nS,nS] w (rB w (.bool true)):=by
 go_enter func150,ntmps150
 go_wp2_with fail
 go_loopw [5] (fun i wr=>i=.int .i64 0/\Below w.heap.size w wr) (fun _ _=>0)
 case atStart=>exact ⟨rfl,nE _ _⟩
 case round=>
  obtain ⟨rfl,hbw⟩:=hrel;go_wp2;go_ret;exact ⟨rfl,hbw⟩
theorem qjo (k:Int) (w:World):Calls prog 153 #[nS,.int .i64 k] w (rB w (.int .i64 k)):=by
 go_enter func153,ntmps153
 go_wp2_with fail
 go_loopw [1,5] (fun q i wr=>i=.int .i64 0/\q=.int .i64 k/\Below w.heap.size w wr) (fun _ _ _=>0)
 case atStart=>exact ⟨rfl,rfl,nE _ _⟩
 case round=>
  obtain ⟨rfl,rfl,hbw⟩:=hrel;go_wp2;go_ret;exact ⟨rfl,hbw⟩
theorem qje (k:Int) (w:World):Calls prog 156 #[nS,.int .i64 k] w (rB w (.int .i64 k)):=by
 go_enter func156,ntmps156
 go_wp2_with fail
 go_loopw [1,5] (fun q i wr=>i=.int .i64 0/\q=.int .i64 k/\Below w.heap.size w wr) (fun _ _ _=>0)
 case atStart=>exact ⟨rfl,rfl,nE _ _⟩
 case round=>
  obtain ⟨rfl,rfl,hbw⟩:=hrel;go_wp2;go_ret;exact ⟨rfl,hbw⟩
section
variable {w w':World} {B T n:Nat} {L:Nat->Nat} {H:Nat->Nat->I5} {S:Nat->S4} {vp vs vw vh:Value}
end
variable {z:Bool}
theorem LL.remarkZ {e:TypeId} {sz:Nat} {E:TypeId} {w:World} {P:Nat->Prop} {v:Value} {n:Nat} {u:Nat->Value} {L:Nat->Nat} {c:Nat->List Value} (o:LL z e sz E w P v n u L c) {i:Nat} (hi:i<n) {w1:World} {c':List Value} (hu:w1.ownsRow 0 e sz (u i) (L i) c') (g:∀ k,k<w.heap.size->(u i).ownBlock≠some k->w1.heap[k]? = w.heap[k]?):LL z e sz E w1 P v n u L (fun j=>if j=i then c' else c j):=by
 refine ⟨qab o.row fun k hk=>g k (o.row.lt k hk).2 fun e=>o.ra i hi k e hk,fun j hj=>?_,o.rb,o.ob,o.ra,o.oa,o.nn⟩;by_cases ej:j=i
 ·subst ej
  simp only [nQ];exact hu
 ·simp only [nB ej]
  exact qab (o.own j hj) fun k hk=>g k ((o.own j hj).lt k hk).2 fun e=>o.oa j i hj hi ej k hk e
theorem LL.castZ {e:TypeId} {sz:Nat} {E:TypeId} {w:World} {P:Nat->Prop} {v:Value} {n:Nat} {u:Nat->Value} {L:Nat->Nat} {c:Nat->List Value} (o:LL z e sz E w P v n u L c) {c':Nat->List Value} (h:∀ i,i<n->c i=c' i):LL z e sz E w P v n u L c':=
 ⟨o.row,fun i hi=>by rw [<- h i hi];exact o.own i hi,o.rb,o.ob,o.ra,o.oa,o.nn⟩
theorem qqj (u:Value) (n B:Nat) (h:Nat->I2) (k:Int) (w:World) (hlen:n<=1048576) (k0:0<=k) (k1:k<=100000000) (o:w.ownsRow B 74 2 u n (fT h n)):
  Calls prog 152 #[u,.int .i64 k] w fun e w'=>e=.returned (.int .i64 (k+2*n))/\w.grownBy w' u.ownBlock/\w'.ownsRow B 74 2 u n (fT (mkT k) n):=by
 by_cases hu:u=nS
 ·subst hu
  rcases o.2 with ⟨-,h0⟩ | ⟨g,cap,cur,e,-⟩
  ·subst h0
   refine (qln k w).mono ?_;rintro e w' ⟨rfl,hb⟩;exact ⟨by simp,zY hb,⟨rfl,.inl ⟨rfl,rfl⟩⟩⟩
  ·cases e
 ·obtain ⟨b,m,rfl,-,-,-⟩:=atT o hu
  exact qlo b n m B h k w hlen k0 k1 o
theorem qp7 (u:Value) (n B:Nat) (k:Int) (w:World) (hlen:n<=1048576) (k0:0<=k) (k1:k<=100000000) (o:w.ownsRow B 74 2 u n (fT (mkT k) n)):
  Calls prog 155 #[u,.int .i64 k] w (rB w (.int .i64 (k+2*n))):=by
 by_cases hu:u=nS
 ·subst hu
  rcases o.2 with ⟨-,h0⟩ | ⟨g,cap,cur,e,-⟩
  ·subst h0
   refine (qk3 k w).mono ?_;rintro e w' ⟨rfl,hb⟩;exact ⟨by simp,hb⟩
  ·cases e
 ·obtain ⟨b,m,rfl,lb,it,-⟩:=atT o hu
  exact qk4 b n m k w hlen k0 k1 lb it
theorem qnb (b m:Nat) (w:World):Calls prog 149 #[nS,.slice (some ⟨b,0,none⟩) 0 m] w (rB w (.bool true)):=by
 go_enter func149,ntmps149
 go_wp2_with fail
 go_loopw [5] (fun i wr=>i=.int .i64 0/\Below w.heap.size w wr) (fun _ _=>0)
 case atStart=>exact ⟨rfl,nE _ _⟩
 case round=>
  obtain ⟨rfl,hbw⟩:=hrel;go_wp2;go_ret;exact ⟨rfl,hbw⟩
theorem qun {B1 B2 n:Nat} {u1 u2:Value} {g:Nat->I2} {w:World} (hn:n<=1048576) (o1:w.ownsRow B1 74 2 u1 n (fT g n)) (o2:w.ownsRow B2 74 2 u2 n (fT g n)):
  Calls prog 149 #[u1,u2] w (rB w (.bool true)):=by
 by_cases h1:u1=nS
 ·subst h1
  rcases o1.2 with ⟨-,h0⟩ | ⟨g,cap,cur,e,-⟩
  ·subst h0
   by_cases h2:u2=nS
   ·subst h2
    exact qpw w
   ·obtain ⟨b2,m2,rfl,-,-,-⟩:=atT o2 h2
    exact qnb b2 m2 w
  ·cases e
 ·exact qpx hn o1 h1 o2
theorem qnz (v:Value) (P:Nat->Prop) (n:Nat) (u:Nat->Value) (L:Nat->Nat) (H:Nat->Nat->I2) (k:Int) (w:World) (hn:n<=1048576) (hl:sumL L n<=1048576) (k0:0<=k) (k1:k<=50000000) (o:LT z w P v n u L H):
  Calls prog 89 #[v,.int .i64 k] w fun e w'=>e=.returned (.int .i64 (k+2*(sumL L n:Nat)))/\LT z w' P v n u L (fun i=>mkT (k+2*(sumL L i:Nat)))/\qaa P w w':=by
 have hl':(n:Int)<=1048576:=by omega
 obtain ⟨a1,c1,rfl⟩:=zT o.row;have O:Hid (LT z w P (.slice a1 n c1) n u L H):=o;have HL:Hid (sumL L n<=1048576):=hl;clear o hl
 go_enter func89,ntmps89
 go_wp2_with fail
 go_loopw [1,5] (fun q i wr=>∃ j:Nat,j<=n/\i=.int .i64 j/\q=.int .i64 (k+2*(sumL L j:Nat))/\Hid (LL z 74 2 72 wr P (.slice a1 n c1) n u L (fun t=>fT (if t<j then mkT (k+2*(sumL L t:Nat)) else H t) (L t))/\qaa P w wr)) (fun _ i _=>n - (intOf i).toNat)
 case atStart=>exact ⟨0,nD _,rfl,by simp [sumL],O.castZ fun i _=>by rw [nB (by omega)],qaa.refl _ _⟩
 case round=>
  obtain ⟨j,hj,rfl,rfl,HT⟩:=hrel;by_cases hlt:j<n
  ·have hlt':(j:Int)<(n:Int):=by omega
   obtain ⟨g1,m1,e1,-,-,ck,-⟩:=HT.1.cell hlt;obtain rfl:=qar e1;have how:=HT.1.own j hlt;rw [nB (by omega)] at how;obtain ⟨aw,m,f1⟩:=zT how;rw [f1] at ck how;have OW:Hid (wr.ownsRow 0 74 2 (.slice aw (L j) m) (L j) (fT (H j) (L j))):=how;have HU:Hid (u j=.slice aw (L j) m):=f1;have hsl:=qbf L hlt;have hS:=HL.out;have e1':k+2*(sumL L j:Nat)+2*(L j:Int)=k+2*(sumL L (j+1):Nat):=by simp only [sumL];omega
   have HE:Hid (k+2*(sumL L j:Nat)+2*(L j:Int)=k+2*(sumL L (j+1):Nat)):=e1';have e2:0<=k+2*(sumL L j:Nat):=by omega
   have e3:k+2*(sumL L j:Nat)<=100000000:=by omega
   have e4:L j<=1048576:=by omega
   clear e1' hS hsl how f1 e1;go_wp2_with fail
   refine (qqj (.slice aw (L j) m) (L j) 0 (H j) _ wr e4 e2 e3 OW.out).mono ?_;rintro e w1 ⟨rfl,g1',o1⟩;rw [HE.out]
   have HT1:Hid (LL z 74 2 72 w1 P (sG g1 n c1) n u L (fun t=>fT (if t<j+1 then mkT (k+2*(sumL L t:Nat)) else H t) (L t))/\qaa P w w1):=by
    refine ⟨(HT.1.remarkZ hlt (c':=fT (mkT (k+2*(sumL L j:Nat))) (L j)) (by rw [HU.out];exact o1) fun q hq hne=>g1'.block q hq fun e=>hne (by rw [HU.out];exact e.symm)).castZ fun t ht=>?_,HT.2.trans (qaa.of_grown g1' fun q e=>HT.1.ob j hlt q (by rw [HU.out];exact e))⟩;by_cases et:t=j
    ·rw [nC et,nC (by omega),et]
    ·rw [nB et]
     by_cases e2:t<j
     ·rw [nC e2,nC (by omega)]
     ·rw [nB e2,nB (by omega)]
   clear HT e2 e3 e4 g1' o1 ck;go_wp2;go_roundw
   case rel=>exact ⟨j+1,by omega,by go_num,rfl,HT1.out⟩
   case measure=>simp [intOf];omega
  ·have hkl:j=n:=by omega
   subst hkl;have HT1:Hid (LT z wr P (.slice a1 j c1) j u L (fun i=>mkT (k+2*(sumL L i:Nat)))/\qaa P w wr):=⟨HT.1.castZ fun t ht=>by rw [nC ht],HT.2⟩
   clear HT;go_wp2;go_ret;exact ⟨rfl,HT1.out⟩
theorem qnm (v:Value) (P:Nat->Prop) (n:Nat) (u:Nat->Value) (L:Nat->Nat) (k:Int) (w:World) (hn:n<=1048576) (hl:sumL L n<=1048576) (k0:0<=k) (k1:k<=50000000) (o:LT z w P v n u L (fun i=>mkT (k+2*(sumL L i:Nat)))):
  Calls prog 96 #[v,.int .i64 k] w (rB w (.int .i64 (k+2*(sumL L n:Nat)))):=by
 have hl':(n:Int)<=1048576:=by omega
 obtain ⟨a1,c1,rfl⟩:=zT o.row;have O:Hid (LT z w P (.slice a1 n c1) n u L (fun i=>mkT (k+2*(sumL L i:Nat)))):=o;have HL:Hid (sumL L n<=1048576):=hl;clear o hl
 go_enter func96,ntmps96
 go_wp2_with fail
 go_loopw [1,5] (fun q i wr=>∃ j:Nat,j<=n/\i=.int .i64 j/\q=.int .i64 (k+2*(sumL L j:Nat))/\Below w.heap.size w wr) (fun _ i _=>n - (intOf i).toNat)
 case atStart=>exact ⟨0,nD _,rfl,by simp [sumL],nE _ _⟩
 case round=>
  obtain ⟨j,hj,rfl,rfl,hbw⟩:=hrel;by_cases hlt:j<n
  ·have hlt':(j:Int)<(n:Int):=by omega
   have Q:=O.bw hbw;obtain ⟨g1,m1,e1,-,-,ck,-⟩:=Q.cell hlt;obtain rfl:=qar e1;obtain ⟨aw,m,f1⟩:=zT (Q.own j hlt);rw [f1] at ck;have IT:Hid (wr.ownsRow 0 74 2 (.slice aw (L j) m) (L j) (fT (mkT (k+2*(sumL L j:Nat))) (L j))):=by have h9:=Q.own j hlt;rw [f1] at h9;exact h9
   have hsl:=qbf L hlt;have hS:=HL.out;have e1':k+2*(sumL L j:Nat)+2*(L j:Int)=k+2*(sumL L (j+1):Nat):=by simp only [sumL];omega
   have HE:Hid (k+2*(sumL L j:Nat)+2*(L j:Int)=k+2*(sumL L (j+1):Nat)):=e1';have e2:0<=k+2*(sumL L j:Nat):=by omega
   have e3:k+2*(sumL L j:Nat)<=100000000:=by omega
   have e4:L j<=1048576:=by omega
   have e5:¬ (k+2*(sumL L (j+1):Nat)<0):=by omega
   clear e1' hS hsl Q f1 e1;go_wp2_with fail
   refine (qp7 (.slice aw (L j) m) (L j) 0 _ wr e4 e2 e3 IT.out).mono ?_;rintro e w1 ⟨rfl,b1⟩;rw [HE.out];have B1:Hid (Below w.heap.size w w1):=hbw.trans (b1.mono hbw.size);clear b1 e2 e3 e4 ck hbw;go_wp2;go_roundw
   case rel=>exact ⟨j+1,by omega,by go_num,rfl,B1.out⟩
   case measure=>simp [intOf];omega
  ·have hkl:j=n:=by omega
   subst hkl;go_wp2;go_ret;exact ⟨rfl,hbw⟩
theorem qsz (v1 v2:Value) (P1 P2:Nat->Prop) (n:Nat) (u1 u2:Nat->Value) (L:Nat->Nat) (H:Nat->Nat->I2) (w:World) (hn:n<=1048576) (hl:∀ i,i<n->L i<=1048576) (o1:LT z w P1 v1 n u1 L H) (o2:LT z w P2 v2 n u2 L H):
  Calls prog 82 #[v1,v2] w (rB w (.bool true)):=by
 have hl':(n:Int)<=1048576:=by omega
 obtain ⟨a1,c1,rfl⟩:=zT o1.row;obtain ⟨a2,c2,rfl⟩:=zT o2.row;have O1:Hid (LT z w P1 (.slice a1 n c1) n u1 L H):=o1;have O2:Hid (LT z w P2 (.slice a2 n c2) n u2 L H):=o2;have HL:Hid (∀ i,i<n->L i<=1048576):=hl;clear o1 o2 hl
 go_enter func82,ntmps82
 go_wp2_with fail
 go_loopw [5] (fun i wr=>∃ k:Nat,k<=n/\i=.int .i64 k/\Below w.heap.size w wr) (fun i _=>n - (intOf i).toNat)
 case atStart=>exact ⟨0,nD _,rfl,nE _ _⟩
 case round=>
  obtain ⟨k,hk,rfl,hbw⟩:=hrel;have hs:=hbw.size;by_cases hlt:k<n
  ·have Q1:=O1.bw hbw
   have Q2:=O2.bw hbw;obtain ⟨g1,k1,e1,-,-,ck,-⟩:=Q1.cell hlt;obtain ⟨g2,k2,e2,-,-,dk,-⟩:=Q2.cell hlt;obtain rfl:=qar e1;obtain rfl:=qar e2;obtain ⟨p1,m1,f1⟩:=zT (Q1.own k hlt);obtain ⟨p2,m2,f2⟩:=zT (Q2.own k hlt)
   have HC:Hid (Calls prog 149 #[.slice p1 (L k) m1,.slice p2 (L k) m2] wr.drew fun e w'=>e=.returned (.bool true)/\Below wr.drew.heap.size wr.drew w'):=by
    have d:=(nE wr.heap.size wr).drew;have h:=qun (HL.out k hlt) ((Q1.bw d).own k hlt) ((Q2.bw d).own k hlt);rw [f1,f2] at h;exact h
   rw [f1] at ck;rw [f2] at dk;have hlt':(k:Int)<(n:Int):=by omega
   clear Q1 Q2 e1 e2 f1 f2;go_wp2_with fail
   first|(go_region_with (go_at_call 149;refine HC.mono ?_;rintro e w1 ⟨rfl,hq1⟩)) | fail
   all_goals
    go_wp2;go_roundw
    case rel=>exact ⟨k+1,by omega,by go_num,hbw.drew.trans (hq1.mono hs)⟩
    case measure=>simp [intOf];omega
  ·go_wp2
   go_ret;exact ⟨rfl,hbw⟩
theorem qnw (u:Value) (n B:Nat) (h:Nat->E3) (k:Int) (w:World) (hlen:n<=1048576) (k0:0<=k) (k1:k<=100000000) (o:w.ownsRow B 86 3 u n (fE h n)):
  Calls prog 153 #[u,.int .i64 k] w fun e w'=>e=.returned (.int .i64 (k+3*n))/\w.grownBy w' u.ownBlock/\w'.ownsRow B 86 3 u n (fE (mkEv k) n):=by
 by_cases hu:u=nS
 ·subst hu
  rcases o.2 with ⟨-,h0⟩ | ⟨g,cap,cur,e,-⟩
  ·subst h0
   refine (qjo k w).mono ?_;rintro e w' ⟨rfl,hb⟩;exact ⟨by simp,zY hb,⟨rfl,.inl ⟨rfl,rfl⟩⟩⟩
  ·cases e
 ·obtain ⟨b,m,rfl,-,-,-⟩:=atE o hu
  exact qjp b n m B h k w hlen k0 k1 o
theorem qnk (u:Value) (n B:Nat) (k:Int) (w:World) (hlen:n<=1048576) (k0:0<=k) (k1:k<=100000000) (o:w.ownsRow B 86 3 u n (fE (mkEv k) n)):
  Calls prog 156 #[u,.int .i64 k] w (rB w (.int .i64 (k+3*n))):=by
 by_cases hu:u=nS
 ·subst hu
  rcases o.2 with ⟨-,h0⟩ | ⟨g,cap,cur,e,-⟩
  ·subst h0
   refine (qje k w).mono ?_;rintro e w' ⟨rfl,hb⟩;exact ⟨by simp,hb⟩
  ·cases e
 ·obtain ⟨b,m,rfl,lb,it,-⟩:=atE o hu
  exact qjf b n m k w hlen k0 k1 lb it
theorem qkt (b m:Nat) (w:World):Calls prog 150 #[nS,.slice (some ⟨b,0,none⟩) 0 m] w (rB w (.bool true)):=by
 go_enter func150,ntmps150
 go_wp2_with fail
 go_loopw [5] (fun i wr=>i=.int .i64 0/\Below w.heap.size w wr) (fun _ _=>0)
 case atStart=>exact ⟨rfl,nE _ _⟩
 case round=>
  obtain ⟨rfl,hbw⟩:=hrel;go_wp2;go_ret;exact ⟨rfl,hbw⟩
theorem qsx {B1 B2 n:Nat} {u1 u2:Value} {g:Nat->E3} {w:World} (hn:n<=1048576) (o1:w.ownsRow B1 86 3 u1 n (fE g n)) (o2:w.ownsRow B2 86 3 u2 n (fE g n)):
  Calls prog 150 #[u1,u2] w (rB w (.bool true)):=by
 by_cases h1:u1=nS
 ·subst h1
  rcases o1.2 with ⟨-,h0⟩ | ⟨g,cap,cur,e,-⟩
  ·subst h0
   by_cases h2:u2=nS
   ·subst h2
    exact qm5 w
   ·obtain ⟨b2,m2,rfl,-,-,-⟩:=atE o2 h2
    exact qkt b2 m2 w
  ·cases e
 ·exact qm6 hn o1 h1 o2
theorem qli (v:Value) (P:Nat->Prop) (n:Nat) (u:Nat->Value) (L:Nat->Nat) (H:Nat->Nat->E3) (k:Int) (w:World) (hn:n<=1048576) (hl:sumL L n<=1048576) (k0:0<=k) (k1:k<=50000000) (o:LE z w P v n u L H):
  Calls prog 90 #[v,.int .i64 k] w fun e w'=>e=.returned (.int .i64 (k+3*(sumL L n:Nat)))/\LE z w' P v n u L (fun i=>mkEv (k+3*(sumL L i:Nat)))/\qaa P w w':=by
 have hl':(n:Int)<=1048576:=by omega
 obtain ⟨a1,c1,rfl⟩:=zT o.row;have O:Hid (LE z w P (.slice a1 n c1) n u L H):=o;have HL:Hid (sumL L n<=1048576):=hl;clear o hl
 go_enter func90,ntmps90
 go_wp2_with fail
 go_loopw [1,5] (fun q i wr=>∃ j:Nat,j<=n/\i=.int .i64 j/\q=.int .i64 (k+3*(sumL L j:Nat))/\Hid (LL z 86 3 87 wr P (.slice a1 n c1) n u L (fun t=>fE (if t<j then mkEv (k+3*(sumL L t:Nat)) else H t) (L t))/\qaa P w wr)) (fun _ i _=>n - (intOf i).toNat)
 case atStart=>exact ⟨0,nD _,rfl,by simp [sumL],O.castZ fun i _=>by rw [nB (by omega)],qaa.refl _ _⟩
 case round=>
  obtain ⟨j,hj,rfl,rfl,HT⟩:=hrel;by_cases hlt:j<n
  ·have hlt':(j:Int)<(n:Int):=by omega
   obtain ⟨g1,m1,e1,-,-,ck,-⟩:=HT.1.cell hlt;obtain rfl:=qar e1;have how:=HT.1.own j hlt;rw [nB (by omega)] at how;obtain ⟨aw,m,f1⟩:=zT how;rw [f1] at ck how;have OW:Hid (wr.ownsRow 0 86 3 (.slice aw (L j) m) (L j) (fE (H j) (L j))):=how;have HU:Hid (u j=.slice aw (L j) m):=f1;have hsl:=qbf L hlt;have hS:=HL.out;have e1':k+3*(sumL L j:Nat)+3*(L j:Int)=k+3*(sumL L (j+1):Nat):=by simp only [sumL];omega
   have HE:Hid (k+3*(sumL L j:Nat)+3*(L j:Int)=k+3*(sumL L (j+1):Nat)):=e1';have e2:0<=k+3*(sumL L j:Nat):=by omega
   have e3:k+3*(sumL L j:Nat)<=100000000:=by omega
   have e4:L j<=1048576:=by omega
   clear e1' hS hsl how f1 e1;go_wp2_with fail
   refine (qnw (.slice aw (L j) m) (L j) 0 (H j) _ wr e4 e2 e3 OW.out).mono ?_;rintro e w1 ⟨rfl,g1',o1⟩;rw [HE.out]
   have HT1:Hid (LL z 86 3 87 w1 P (sG g1 n c1) n u L (fun t=>fE (if t<j+1 then mkEv (k+3*(sumL L t:Nat)) else H t) (L t))/\qaa P w w1):=by
    refine ⟨(HT.1.remarkZ hlt (c':=fE (mkEv (k+3*(sumL L j:Nat))) (L j)) (by rw [HU.out];exact o1) fun q hq hne=>g1'.block q hq fun e=>hne (by rw [HU.out];exact e.symm)).castZ fun t ht=>?_,HT.2.trans (qaa.of_grown g1' fun q e=>HT.1.ob j hlt q (by rw [HU.out];exact e))⟩;by_cases et:t=j
    ·rw [nC et,nC (by omega),et]
    ·rw [nB et]
     by_cases e2:t<j
     ·rw [nC e2,nC (by omega)]
     ·rw [nB e2,nB (by omega)]
   clear HT e2 e3 e4 g1' o1 ck;go_wp2;go_roundw
   case rel=>exact ⟨j+1,by omega,by go_num,rfl,HT1.out⟩
   case measure=>simp [intOf];omega
  ·have hkl:j=n:=by omega
   subst hkl;have HT1:Hid (LE z wr P (.slice a1 j c1) j u L (fun i=>mkEv (k+3*(sumL L i:Nat)))/\qaa P w wr):=⟨HT.1.castZ fun t ht=>by rw [nC ht],HT.2⟩
   clear HT;go_wp2;go_ret;exact ⟨rfl,HT1.out⟩
theorem qk1 (v:Value) (P:Nat->Prop) (n:Nat) (u:Nat->Value) (L:Nat->Nat) (k:Int) (w:World) (hn:n<=1048576) (hl:sumL L n<=1048576) (k0:0<=k) (k1:k<=50000000) (o:LE z w P v n u L (fun i=>mkEv (k+3*(sumL L i:Nat)))):
  Calls prog 97 #[v,.int .i64 k] w (rB w (.int .i64 (k+3*(sumL L n:Nat)))):=by
 have hl':(n:Int)<=1048576:=by omega
 obtain ⟨a1,c1,rfl⟩:=zT o.row;have O:Hid (LE z w P (.slice a1 n c1) n u L (fun i=>mkEv (k+3*(sumL L i:Nat)))):=o;have HL:Hid (sumL L n<=1048576):=hl;clear o hl
 go_enter func97,ntmps97
 go_wp2_with fail
 go_loopw [1,5] (fun q i wr=>∃ j:Nat,j<=n/\i=.int .i64 j/\q=.int .i64 (k+3*(sumL L j:Nat))/\Below w.heap.size w wr) (fun _ i _=>n - (intOf i).toNat)
 case atStart=>exact ⟨0,nD _,rfl,by simp [sumL],nE _ _⟩
 case round=>
  obtain ⟨j,hj,rfl,rfl,hbw⟩:=hrel;by_cases hlt:j<n
  ·have hlt':(j:Int)<(n:Int):=by omega
   have Q:=O.bw hbw;obtain ⟨g1,m1,e1,-,-,ck,-⟩:=Q.cell hlt;obtain rfl:=qar e1;obtain ⟨aw,m,f1⟩:=zT (Q.own j hlt);rw [f1] at ck;have IT:Hid (wr.ownsRow 0 86 3 (.slice aw (L j) m) (L j) (fE (mkEv (k+3*(sumL L j:Nat))) (L j))):=by have h9:=Q.own j hlt;rw [f1] at h9;exact h9
   have hsl:=qbf L hlt;have hS:=HL.out;have e1':k+3*(sumL L j:Nat)+3*(L j:Int)=k+3*(sumL L (j+1):Nat):=by simp only [sumL];omega
   have HE:Hid (k+3*(sumL L j:Nat)+3*(L j:Int)=k+3*(sumL L (j+1):Nat)):=e1';have e2:0<=k+3*(sumL L j:Nat):=by omega
   have e3:k+3*(sumL L j:Nat)<=100000000:=by omega
   have e4:L j<=1048576:=by omega
   have e5:¬ (k+3*(sumL L (j+1):Nat)<0):=by omega
   clear e1' hS hsl Q f1 e1;go_wp2_with fail
   refine (qnk (.slice aw (L j) m) (L j) 0 _ wr e4 e2 e3 IT.out).mono ?_;rintro e w1 ⟨rfl,b1⟩;rw [HE.out];have B1:Hid (Below w.heap.size w w1):=hbw.trans (b1.mono hbw.size);clear b1 e2 e3 e4 ck hbw;go_wp2;go_roundw
   case rel=>exact ⟨j+1,by omega,by go_num,rfl,B1.out⟩
   case measure=>simp [intOf];omega
  ·have hkl:j=n:=by omega
   subst hkl;go_wp2;go_ret;exact ⟨rfl,hbw⟩
theorem qpu (v1 v2:Value) (P1 P2:Nat->Prop) (n:Nat) (u1 u2:Nat->Value) (L:Nat->Nat) (H:Nat->Nat->E3) (w:World) (hn:n<=1048576) (hl:∀ i,i<n->L i<=1048576) (o1:LE z w P1 v1 n u1 L H) (o2:LE z w P2 v2 n u2 L H):
  Calls prog 83 #[v1,v2] w (rB w (.bool true)):=by
 have hl':(n:Int)<=1048576:=by omega
 obtain ⟨a1,c1,rfl⟩:=zT o1.row;obtain ⟨a2,c2,rfl⟩:=zT o2.row;have O1:Hid (LE z w P1 (.slice a1 n c1) n u1 L H):=o1;have O2:Hid (LE z w P2 (.slice a2 n c2) n u2 L H):=o2;have HL:Hid (∀ i,i<n->L i<=1048576):=hl;clear o1 o2 hl
 go_enter func83,ntmps83
 go_wp2_with fail
 go_loopw [5] (fun i wr=>∃ k:Nat,k<=n/\i=.int .i64 k/\Below w.heap.size w wr) (fun i _=>n - (intOf i).toNat)
 case atStart=>exact ⟨0,nD _,rfl,nE _ _⟩
 case round=>
  obtain ⟨k,hk,rfl,hbw⟩:=hrel;have hs:=hbw.size;by_cases hlt:k<n
  ·have Q1:=O1.bw hbw
   have Q2:=O2.bw hbw;obtain ⟨g1,k1,e1,-,-,ck,-⟩:=Q1.cell hlt;obtain ⟨g2,k2,e2,-,-,dk,-⟩:=Q2.cell hlt;obtain rfl:=qar e1;obtain rfl:=qar e2;obtain ⟨p1,m1,f1⟩:=zT (Q1.own k hlt);obtain ⟨p2,m2,f2⟩:=zT (Q2.own k hlt)
   have HC:Hid (Calls prog 150 #[.slice p1 (L k) m1,.slice p2 (L k) m2] wr.drew fun e w'=>e=.returned (.bool true)/\Below wr.drew.heap.size wr.drew w'):=by
    have d:=(nE wr.heap.size wr).drew;have h:=qsx (HL.out k hlt) ((Q1.bw d).own k hlt) ((Q2.bw d).own k hlt);rw [f1,f2] at h;exact h
   rw [f1] at ck;rw [f2] at dk;have hlt':(k:Int)<(n:Int):=by omega
   clear Q1 Q2 e1 e2 f1 f2;go_wp2_with fail
   first|(go_region_with (go_at_call 150;refine HC.mono ?_;rintro e w1 ⟨rfl,hq1⟩)) | fail
   all_goals
    go_wp2;go_roundw
    case rel=>exact ⟨k+1,by omega,by go_num,hbw.drew.trans (hq1.mono hs)⟩
    case measure=>simp [intOf];omega
  ·go_wp2
   go_ret;exact ⟨rfl,hbw⟩
theorem qyc (y:Sy) (B1 B2:Nat) (v1 v2:Value) (w:World) (hl:y.Len) (o1:qbj z w B1 y v1) (o2:qbj z w B2 y v2):
  Calls prog 32 #[v1,v2] w (rB w (.bool true)):=by
 obtain ⟨c,vp,vs,vw,vh,up,us,uw,uh,rfl,o1⟩:=o1;obtain ⟨d,xp,xs,xw,xh,tp,ts,tw,th,rfl,o2⟩:=o2;obtain ⟨a1,c1,rfl⟩:=zT o1.p.row;obtain ⟨a2,c2,rfl⟩:=zT o1.s.row;obtain ⟨a3,c3,rfl⟩:=zT o1.t.row;obtain ⟨a4,c4,rfl⟩:=zT o1.h.row;obtain ⟨e1,d1,rfl⟩:=zT o2.p.row;obtain ⟨e2,d2,rfl⟩:=zT o2.s.row;obtain ⟨e3,d3,rfl⟩:=zT o2.t.row;obtain ⟨e4,d4,rfl⟩:=zT o2.h.row;have HL:Hid y.Len:=hl;have O1:Hid (OwnS z w B1 c y (.slice a1 y.pn c1) (.slice a2 y.sn c2) (.slice a3 y.wn c3) (.slice a4 y.hn c4) up us uw uh):=o1;have O2:Hid (OwnS z w B2 d y (.slice e1 y.pn d1) (.slice e2 y.sn d2) (.slice e3 y.wn d3) (.slice e4 y.hn d4) tp ts tw th):=o2;have BW:Hid (Below w.heap.size w ((w.alloc (oQ4 a1 y.pn c1 a2 y.sn c2 a3 y.wn c3 a4 y.hn c4)).alloc (oQ4 e1 y.pn d1 e2 y.sn d2 e3 y.wn d3 e4 y.hn d4))):=(zP _ _).trans ((zP _ _).mono (by simp));have NA:Hid (BoxC ((w.alloc (oQ4 a1 y.pn c1 a2 y.sn c2 a3 y.wn c3 a4 y.hn c4)).alloc (oQ4 e1 y.pn d1 e2 y.sn d2 e3 y.wn d3 e4 y.hn d4)) w.heap.size (.slice a1 y.pn c1) (.slice a2 y.sn c2) (.slice a3 y.wn c3) (.slice a4 y.hn c4)):=(BoxC.new w _ _ _ _ _).bw (zP _ _);have NB:Hid (BoxC ((w.alloc (oQ4 a1 y.pn c1 a2 y.sn c2 a3 y.wn c3 a4 y.hn c4)).alloc (oQ4 e1 y.pn d1 e2 y.sn d2 e3 y.wn d3 e4 y.hn d4)) (w.heap.size+1) (.slice e1 y.pn d1) (.slice e2 y.sn d2) (.slice e3 y.wn d3) (.slice e4 y.hn d4)):=⟨zV _ _ _ 0 (by simp),zV _ _ _ 1 (by simp),zV _ _ _ 2 (by simp),zV _ _ _ 3 (by simp)⟩
 clear o1 o2 hl
 go_enter func32,ntmps32
 go_wp2_with fail
 generalize (w.alloc (oQ4 a1 y.pn c1 a2 y.sn c2 a3 y.wn c3 a4 y.hn c4)).alloc (oQ4 e1 y.pn d1 e2 y.sn d2 e3 y.wn d3 e4 y.hn d4)=wA at *;refine (qpv _ _ _ _ y.pn up tp y.pL y.pH wA HL.p.1 HL.p.2 (LI.strong (O1.p.bw BW.out)) (LI.strong (O2.p.bw BW.out))).mono ?_;rintro e w1 ⟨rfl,b1⟩;have F1:Hid (Below w.heap.size w w1/\BoxC w1 w.heap.size (.slice a1 y.pn c1) (.slice a2 y.sn c2) (.slice a3 y.wn c3) (.slice a4 y.hn c4)/\BoxC w1 (w.heap.size+1) (.slice e1 y.pn d1) (.slice e2 y.sn d2) (.slice e3 y.wn d3) (.slice e4 y.hn d4)):=⟨BW.trans (b1.mono BW.size),NA.bw b1,NB.bw b1⟩
 clear b1 BW NA NB;obtain ⟨-,⟨p0,p1,p2,p3⟩,⟨q0,q1,q2,q3⟩⟩:=F1.out;go_wp2_with fail
 clear p0 p1 p2 p3 q0 q1 q2 q3;refine (qnc _ _ _ _ y.sn us ts y.sS w1 HL.s.1 HL.s.2 (O1.s.bw F1.1) (O2.s.bw F1.1)).mono ?_;rintro e w2 ⟨rfl,b2⟩;have F2:Hid (Below w.heap.size w w2/\BoxC w2 w.heap.size (.slice a1 y.pn c1) (.slice a2 y.sn c2) (.slice a3 y.wn c3) (.slice a4 y.hn c4)/\BoxC w2 (w.heap.size+1) (.slice e1 y.pn d1) (.slice e2 y.sn d2) (.slice e3 y.wn d3) (.slice e4 y.hn d4)):=⟨F1.1.trans (b2.mono F1.1.size),F1.2.1.bw b2,F1.2.2.bw b2⟩
 clear b2 F1;obtain ⟨-,⟨p0,p1,p2,p3⟩,⟨q0,q1,q2,q3⟩⟩:=F2.out;go_wp2_with fail
 clear p0 p1 p2 p3 q0 q1 q2 q3;refine (qsz _ _ _ _ y.wn uw tw y.wL y.wH w2 HL.w.1 HL.w.2 (O1.t.bw F2.1) (O2.t.bw F2.1)).mono ?_;rintro e w3 ⟨rfl,b3⟩;have F3:Hid (Below w.heap.size w w3/\BoxC w3 w.heap.size (.slice a1 y.pn c1) (.slice a2 y.sn c2) (.slice a3 y.wn c3) (.slice a4 y.hn c4)/\BoxC w3 (w.heap.size+1) (.slice e1 y.pn d1) (.slice e2 y.sn d2) (.slice e3 y.wn d3) (.slice e4 y.hn d4)):=⟨F2.1.trans (b3.mono F2.1.size),F2.2.1.bw b3,F2.2.2.bw b3⟩
 clear b3 F2;obtain ⟨-,⟨p0,p1,p2,p3⟩,⟨q0,q1,q2,q3⟩⟩:=F3.out;go_wp2_with fail
 clear p0 p1 p2 p3 q0 q1 q2 q3;refine (qpu _ _ _ _ y.hn uh th y.hL y.hH w3 HL.h.1 HL.h.2 (O1.h.bw F3.1) (O2.h.bw F3.1)).mono ?_;rintro e w4 ⟨rfl,b4⟩;have F4:Hid (Below w.heap.size w w4):=F3.1.trans (b4.mono F3.1.size);clear b4 F3;go_wp2;go_ret;exact ⟨rfl,F4.out⟩
variable {z:Bool}
def ofZ (h:Nat->Int) (n:Nat):List Int:=(List.range n).map h
theorem qe7 (h:Nat->Int) (n:Nat):(ofZ h n).length=n:=by simp [ofZ]
def fZ (h:Nat->Int) (n:Nat):List Value:=(ofZ h n).map (Value.int .i64)
def mkN (k:Int):Nat->Int:=fun i=>k+(i:Int)
theorem qxx (xs:List Int):ofZ (zi xs) xs.length=xs:=by
 refine List.ext_getElem (by simp [ofZ]) fun i h1 h2=>?_;simp only [ofZ,List.getElem_map,List.getElem_range];unfold zi;rw [List.getD_eq_getElem?_getD,List.getElem?_eq_getElem h2];rfl
theorem qlu {w:World} {B n:Nat} {v:Value} {h:Nat->Int} (o:w.ownsRow B 3 1 v n (fZ h n)):OwnI w B v (ofZ h n):=by
 unfold OwnI;rw [qe7];exact o
theorem qym {w:World} {B:Nat} {v:Value} {xs:List Int} (o:OwnI w B v xs):w.ownsRow B 3 1 v xs.length (fZ (zi xs) xs.length):=by
 unfold fZ;rw [qxx];exact o
abbrev LN (z:Bool) (w:World) (P:Nat->Prop) (v:Value) (n:Nat) (u:Nat->Value) (L:Nat->Nat) (H:Nat->Nat->Int):Prop:=LL z 3 1 28 w P v n u L (fun i=>fZ (H i) (L i))
theorem qj5 (u:Value) (n B:Nat) (h:Nat->Int) (k:Int) (w:World) (hlen:n<=1048576) (k0:0<=k) (k1:k<=100000000) (o:w.ownsRow B 3 1 u n (fZ h n)):
  Calls prog 91 #[u,.int .i64 k] w fun e w'=>e=.returned (.int .i64 (k+n))/\w.grownBy w' u.ownBlock/\w'.ownsRow B 3 1 u n (fZ (mkN k) n):=by
 obtain ⟨a,m,rfl⟩:=zT o;have h9:=qlu o;have h8:=qcr a m B (ofZ h n) k w (by rw [qe7];exact hlen) k0 k1 (by rw [qe7];exact h9);rw [qe7] at h8;refine h8.mono ?_;rintro e w' ⟨rfl,o',g⟩;refine ⟨rfl,g,?_⟩;have h7:=qym o';unfold fZ at h7 ⊢;rw [qxx,qc6] at h7;exact h7
theorem qj2 (u:Value) (n B:Nat) (k:Int) (w:World) (hlen:n<=1048576) (k0:0<=k) (k1:k<=100000000) (o:w.ownsRow B 3 1 u n (fZ (mkN k) n)):
  Calls prog 98 #[u,.int .i64 k] w (rB w (.int .i64 (k+n))):=by
 obtain ⟨a,m,rfl⟩:=zT o;obtain ⟨a1,m1,e,hs⟩:=(qlu o).form;simp only [Value.slice.injEq] at e;obtain ⟨rfl,-,-⟩:=e;refine (qc9 a m n k w hlen k0 k1 hs).mono ?_;rintro e w' ⟨rfl,rfl⟩;exact ⟨rfl,nE _ _⟩
theorem qrm {B1 B2 n:Nat} {u1 u2:Value} {g:Nat->Int} {w:World} (hn:n<=1048576) (o1:w.ownsRow B1 3 1 u1 n (fZ g n)) (o2:w.ownsRow B2 3 1 u2 n (fZ g n)):
  Calls prog 84 #[u1,u2] w (rB w (.bool true)):=by
 obtain ⟨a,m,rfl⟩:=zT o1;obtain ⟨b,q,rfl⟩:=zT o2;obtain ⟨a1,m1,e1,s1⟩:=(qlu o1).form;obtain ⟨b1,q1,e2,s2⟩:=(qlu o2).form;simp only [Value.slice.injEq] at e1 e2;obtain ⟨rfl,-,-⟩:=e1;obtain ⟨rfl,-,-⟩:=e2;have h8:=qe3 a b m q (ofZ g n) w (by rw [qe7];exact hn) s1 s2;rw [qe7] at h8;exact h8
theorem qqi (v:Value) (P:Nat->Prop) (n:Nat) (u:Nat->Value) (L:Nat->Nat) (H:Nat->Nat->Int) (k:Int) (w:World) (hn:n<=1048576) (hl:sumL L n<=1048576) (k0:0<=k) (k1:k<=50000000) (o:LN z w P v n u L H):
  Calls prog 93 #[v,.int .i64 k] w fun e w'=>e=.returned (.int .i64 (k+(sumL L n:Nat)))/\LN z w' P v n u L (fun i=>mkN (k+(sumL L i:Nat)))/\qaa P w w':=by
 have hl':(n:Int)<=1048576:=by omega
 obtain ⟨a1,c1,rfl⟩:=zT o.row;have O:Hid (LN z w P (.slice a1 n c1) n u L H):=o;have HL:Hid (sumL L n<=1048576):=hl;clear o hl
 go_enter func93,ntmps93
 go_wp2_with fail
 go_loopw [1,5] (fun q i wr=>∃ j:Nat,j<=n/\i=.int .i64 j/\q=.int .i64 (k+(sumL L j:Nat))/\Hid (LL z 3 1 28 wr P (.slice a1 n c1) n u L (fun t=>fZ (if t<j then mkN (k+(sumL L t:Nat)) else H t) (L t))/\qaa P w wr)) (fun _ i _=>n - (intOf i).toNat)
 case atStart=>exact ⟨0,nD _,rfl,by simp [sumL],O.castZ fun i _=>by rw [nB (by omega)],qaa.refl _ _⟩
 case round=>
  obtain ⟨j,hj,rfl,rfl,HT⟩:=hrel;by_cases hlt:j<n
  ·have hlt':(j:Int)<(n:Int):=by omega
   obtain ⟨g1,m1,e1,-,-,ck,-⟩:=HT.1.cell hlt;obtain rfl:=qar e1;have how:=HT.1.own j hlt;rw [nB (by omega)] at how;obtain ⟨aw,m,f1⟩:=zT how;rw [f1] at ck how;have OW:Hid (wr.ownsRow 0 3 1 (.slice aw (L j) m) (L j) (fZ (H j) (L j))):=how;have HU:Hid (u j=.slice aw (L j) m):=f1;have hsl:=qbf L hlt;have hS:=HL.out;have e1':k+(sumL L j:Nat)+(L j:Int)=k+(sumL L (j+1):Nat):=by simp only [sumL];omega
   have HE:Hid (k+(sumL L j:Nat)+(L j:Int)=k+(sumL L (j+1):Nat)):=e1';have e2:0<=k+(sumL L j:Nat):=by omega
   have e3:k+(sumL L j:Nat)<=100000000:=by omega
   have e4:L j<=1048576:=by omega
   clear e1' hS hsl how f1 e1;go_wp2_with fail
   refine (qj5 (.slice aw (L j) m) (L j) 0 (H j) _ wr e4 e2 e3 OW.out).mono ?_;rintro e w1 ⟨rfl,g1',o1⟩;rw [HE.out]
   have HT1:Hid (LL z 3 1 28 w1 P (sG g1 n c1) n u L (fun t=>fZ (if t<j+1 then mkN (k+(sumL L t:Nat)) else H t) (L t))/\qaa P w w1):=by
    refine ⟨(HT.1.remarkZ hlt (c':=fZ (mkN (k+(sumL L j:Nat))) (L j)) (by rw [HU.out];exact o1) fun q hq hne=>g1'.block q hq fun e=>hne (by rw [HU.out];exact e.symm)).castZ fun t ht=>?_,HT.2.trans (qaa.of_grown g1' fun q e=>HT.1.ob j hlt q (by rw [HU.out];exact e))⟩;by_cases et:t=j
    ·rw [nC et,nC (by omega),et]
    ·rw [nB et]
     by_cases e2:t<j
     ·rw [nC e2,nC (by omega)]
     ·rw [nB e2,nB (by omega)]
   clear HT e2 e3 e4 g1' o1 ck;go_wp2;go_roundw
   case rel=>exact ⟨j+1,by omega,by go_num,rfl,HT1.out⟩
   case measure=>simp [intOf];omega
  ·have hkl:j=n:=by omega
   subst hkl;have HT1:Hid (LN z wr P (.slice a1 j c1) j u L (fun i=>mkN (k+(sumL L i:Nat)))/\qaa P w wr):=⟨HT.1.castZ fun t ht=>by rw [nC ht],HT.2⟩
   clear HT;go_wp2;go_ret;exact ⟨rfl,HT1.out⟩
theorem qp6 (v:Value) (P:Nat->Prop) (n:Nat) (u:Nat->Value) (L:Nat->Nat) (k:Int) (w:World) (hn:n<=1048576) (hl:sumL L n<=1048576) (k0:0<=k) (k1:k<=50000000) (o:LN z w P v n u L (fun i=>mkN (k+(sumL L i:Nat)))):
  Calls prog 100 #[v,.int .i64 k] w (rB w (.int .i64 (k+(sumL L n:Nat)))):=by
 have hl':(n:Int)<=1048576:=by omega
 obtain ⟨a1,c1,rfl⟩:=zT o.row;have O:Hid (LN z w P (.slice a1 n c1) n u L (fun i=>mkN (k+(sumL L i:Nat)))):=o;have HL:Hid (sumL L n<=1048576):=hl;clear o hl
 go_enter func100,ntmps100
 go_wp2_with fail
 go_loopw [1,5] (fun q i wr=>∃ j:Nat,j<=n/\i=.int .i64 j/\q=.int .i64 (k+(sumL L j:Nat))/\Below w.heap.size w wr) (fun _ i _=>n - (intOf i).toNat)
 case atStart=>exact ⟨0,nD _,rfl,by simp [sumL],nE _ _⟩
 case round=>
  obtain ⟨j,hj,rfl,rfl,hbw⟩:=hrel;by_cases hlt:j<n
  ·have hlt':(j:Int)<(n:Int):=by omega
   have Q:=O.bw hbw;obtain ⟨g1,m1,e1,-,-,ck,-⟩:=Q.cell hlt;obtain rfl:=qar e1;obtain ⟨aw,m,f1⟩:=zT (Q.own j hlt);rw [f1] at ck;have IT:Hid (wr.ownsRow 0 3 1 (.slice aw (L j) m) (L j) (fZ (mkN (k+(sumL L j:Nat))) (L j))):=by have h9:=Q.own j hlt;rw [f1] at h9;exact h9
   have hsl:=qbf L hlt;have hS:=HL.out;have e1':k+(sumL L j:Nat)+(L j:Int)=k+(sumL L (j+1):Nat):=by simp only [sumL];omega
   have HE:Hid (k+(sumL L j:Nat)+(L j:Int)=k+(sumL L (j+1):Nat)):=e1';have e2:0<=k+(sumL L j:Nat):=by omega
   have e3:k+(sumL L j:Nat)<=100000000:=by omega
   have e4:L j<=1048576:=by omega
   have e5:¬ (k+(sumL L (j+1):Nat)<0):=by omega
   clear e1' hS hsl Q f1 e1;go_wp2_with fail
   refine (qj2 (.slice aw (L j) m) (L j) 0 _ wr e4 e2 e3 IT.out).mono ?_;rintro e w1 ⟨rfl,b1⟩;rw [HE.out];have B1:Hid (Below w.heap.size w w1):=hbw.trans (b1.mono hbw.size);clear b1 e2 e3 e4 ck hbw;go_wp2;go_roundw
   case rel=>exact ⟨j+1,by omega,by go_num,rfl,B1.out⟩
   case measure=>simp [intOf];omega
  ·have hkl:j=n:=by omega
   subst hkl;go_wp2;go_ret;exact ⟨rfl,hbw⟩
theorem qum (v1 v2:Value) (P1 P2:Nat->Prop) (n:Nat) (u1 u2:Nat->Value) (L:Nat->Nat) (H:Nat->Nat->Int) (w:World) (hn:n<=1048576) (hl:∀ i,i<n->L i<=1048576) (o1:LN z w P1 v1 n u1 L H) (o2:LN z w P2 v2 n u2 L H):
  Calls prog 86 #[v1,v2] w (rB w (.bool true)):=by
 have hl':(n:Int)<=1048576:=by omega
 obtain ⟨a1,c1,rfl⟩:=zT o1.row;obtain ⟨a2,c2,rfl⟩:=zT o2.row;have O1:Hid (LN z w P1 (.slice a1 n c1) n u1 L H):=o1;have O2:Hid (LN z w P2 (.slice a2 n c2) n u2 L H):=o2;have HL:Hid (∀ i,i<n->L i<=1048576):=hl;clear o1 o2 hl
 go_enter func86,ntmps86
 go_wp2_with fail
 go_loopw [5] (fun i wr=>∃ k:Nat,k<=n/\i=.int .i64 k/\Below w.heap.size w wr) (fun i _=>n - (intOf i).toNat)
 case atStart=>exact ⟨0,nD _,rfl,nE _ _⟩
 case round=>
  obtain ⟨k,hk,rfl,hbw⟩:=hrel;have hs:=hbw.size;by_cases hlt:k<n
  ·have Q1:=O1.bw hbw
   have Q2:=O2.bw hbw;obtain ⟨g1,k1,e1,-,-,ck,-⟩:=Q1.cell hlt;obtain ⟨g2,k2,e2,-,-,dk,-⟩:=Q2.cell hlt;obtain rfl:=qar e1;obtain rfl:=qar e2;obtain ⟨p1,m1,f1⟩:=zT (Q1.own k hlt);obtain ⟨p2,m2,f2⟩:=zT (Q2.own k hlt)
   have HC:Hid (Calls prog 84 #[.slice p1 (L k) m1,.slice p2 (L k) m2] wr.drew fun e w'=>e=.returned (.bool true)/\Below wr.drew.heap.size wr.drew w'):=by
    have d:=(nE wr.heap.size wr).drew;have h:=qrm (HL.out k hlt) ((Q1.bw d).own k hlt) ((Q2.bw d).own k hlt);rw [f1,f2] at h;exact h
   rw [f1] at ck;rw [f2] at dk;have hlt':(k:Int)<(n:Int):=by omega
   clear Q1 Q2 e1 e2 f1 f2;go_wp2_with fail
   first|(go_region_with (go_at_call 84;refine HC.mono ?_;rintro e w1 ⟨rfl,hq1⟩)) | fail
   all_goals
    go_wp2;go_roundw
    case rel=>exact ⟨k+1,by omega,by go_num,hbw.drew.trans (hq1.mono hs)⟩
    case measure=>simp [intOf];omega
  ·go_wp2
   go_ret;exact ⟨rfl,hbw⟩
def fBo (h:Nat->Bool) (n:Nat):List Value:=(List.range n).map fun i=>Value.bool (h i)
theorem qdy (h:Nat->Bool) (n:Nat):(fBo h n).length=n:=by simp [fBo]
theorem qes {h:Nat->Bool} {n i:Nat} (hi:i<n):(fBo h n)[i]? = some (.bool (h i)):=by
 unfold fBo;rw [List.getElem?_map,List.getElem?_range hi];rfl
theorem qyf {h:Nat->Bool} {n j:Nat} (hj:j<n) (b:Bool):(fBo h n).set j (.bool b)=fBo (fun t=>if t=j then b else h t) n:=by
 refine List.ext_getElem? fun i=>?_;by_cases hi:i<n
 ·rw [qes hi,List.getElem?_set,qdy,qes hi]
  by_cases e:j=i
  ·subst e
   rw [nC rfl,nC hj,nC rfl]
  ·rw [nB e,nB fun h=>e h.symm]
 ·rw [List.getElem?_eq_none (by rw [List.length_set,qdy];omega),List.getElem?_eq_none (by rw [qdy];omega)]
theorem qil {g h:Nat->Bool} {n:Nat} (e:∀ i,i<n->g i=h i):fBo g n=fBo h n:=by
 unfold fBo;exact List.map_congr_left fun i hi=>by rw [e i (List.mem_range.1 hi)]
abbrev OwnQ (w:World) (B:Nat) (v:Value) (n:Nat) (h:Nat->Bool):Prop:=w.ownsRow B 4 1 v n (fBo h n)
theorem OwnQ.bw {w w':World} {B n:Nat} {v:Value} {h:Nat->Bool} (o:OwnQ w B v n h) (hb:Below w.heap.size w w'):OwnQ w' B v n h:=qab o fun k hk=>hb.block k (World.ownsRow.lt o k hk).2
theorem OwnQ.at {w:World} {B n:Nat} {v:Value} {h:Nat->Bool} (o:OwnQ w B v n h) {i:Nat} (hi:i<n):∃ g cap,v=.slice (some ⟨g,0,none⟩) n cap/\B<=g/\g<w.heap.size/\w.cell? ⟨g,i,none⟩=some (.bool (h i))/\∀ j,w.frozen? ⟨g,j,none⟩=false:=by
 rcases o.2 with ⟨-,h0⟩ | ⟨g,cap,cur,rfl,hb,-⟩
 ·omega
 ·refine ⟨g,cap,rfl,hb,(o.lt g rfl).2,?_,fun j=>World.ownsRow.frozenAt o j⟩
  rw [World.ownsRow.cellAt o i (by omega)];exact qes hi
def mkBo (k:Int):Nat->Bool:=fun i=>(k+(i:Int)) % 3 == 0
theorem qul {B1 B2 n:Nat} {u1 u2:Value} {h:Nat->Bool} {w:World} (hlen:n<=1048576) (o1:OwnQ w B1 u1 n h) (o2:OwnQ w B2 u2 n h):
  Calls prog 85 #[u1,u2] w (rB w (.bool true)):=by
 have hl':(n:Int)<=1048576:=by omega
 obtain ⟨a1,c1,rfl⟩:=zT o1;obtain ⟨a2,c2,rfl⟩:=zT o2;have O1:Hid (OwnQ w B1 (.slice a1 n c1) n h):=o1;have O2:Hid (OwnQ w B2 (.slice a2 n c2) n h):=o2;clear o1 o2
 go_enter func85,ntmps85
 go_wp2_with fail
 go_loopw [5] (fun i wr=>∃ k:Nat,k<=n/\i=.int .i64 k/\Below w.heap.size w wr) (fun i _=>n - (intOf i).toNat)
 case atStart=>exact ⟨0,nD _,rfl,nE _ _⟩
 case round=>
  obtain ⟨k,hk,rfl,hbw⟩:=hrel;by_cases hlt:k<n
  ·obtain ⟨g1,m1,e1,-,-,c0,-⟩:=OwnQ.at (OwnQ.bw O1.out hbw) hlt
   obtain ⟨g2,m2,e2,-,-,d0,-⟩:=OwnQ.at (OwnQ.bw O2.out hbw) hlt;obtain rfl:=qar e1;obtain rfl:=qar e2;clear e1 e2;have hlt':(k:Int)<(n:Int):=by omega
   go_wp2_with fail
   go_quiet (fail)
   go_wp2;go_roundw
   case rel=>exact ⟨k+1,by omega,by go_num,yB hbw _⟩
   case measure=>simp [intOf];omega
  ·go_wp2
   go_ret;exact ⟨rfl,hbw⟩
theorem qqh (u:Value) (n B:Nat) (h:Nat->Bool) (k:Int) (w:World) (hlen:n<=1048576) (k0:0<=k) (k1:k<=100000000) (o:OwnQ w B u n h):
  Calls prog 92 #[u,.int .i64 k] w fun e w'=>e=.returned (.int .i64 (k+n))/\w.grownBy w' u.ownBlock/\OwnQ w' B u n (mkBo k):=by
 have hl':(n:Int)<=1048576:=by omega
 obtain ⟨a,c,rfl⟩:=zT o;have HO:Hid (OwnQ w B (.slice a n c) n h):=o;clear o
 go_enter func92,ntmps92
 go_wp2_with fail
 go_loopw [1,5] (fun q i wr=>∃ j:Nat,j<=n/\i=.int .i64 j/\q=.int .i64 (k+j)/\Hid (OwnQ wr B (.slice a n c) n (fun t=>if t<j then mkBo k t else h t)/\w.grownBy wr (Value.slice a n c).ownBlock)) (fun _ i _=>n - (intOf i).toNat)
 case atStart=>exact ⟨0,nD _,rfl,by simp,by have h9:=HO.out;unfold OwnQ at h9 ⊢;rw [qil (h:=h) fun i _=>nB (Nat.not_lt_zero _)];exact h9,World.grownBy.refl _ _⟩
 case round=>
  clear HO;obtain ⟨j,hj,rfl,rfl,HR⟩:=hrel;by_cases hlt:j<n
  ·have hlt':(j:Int)<(n:Int):=by omega
   obtain ⟨g,m,e1,-,-,c0,fz⟩:=OwnQ.at HR.1 hlt;obtain rfl:=qar e1
   have HS:Hid (OwnQ (wr.setCell ⟨g,j,none⟩ (.bool ((k+(j:Int)) % 3 == 0))) B (sG g n c) n (fun t=>if t<j+1 then mkBo k t else h t)/\w.grownBy (wr.setCell ⟨g,j,none⟩ (.bool ((k+(j:Int)) % 3 == 0))) (some g)):=by
    obtain ⟨o',g'⟩:=World.ownsRow.stored HR.1 j (.bool ((k+(j:Int)) % 3 == 0));refine ⟨?_,HR.2.trans g'⟩;rw [qyf hlt] at o';unfold OwnQ;rw [qil (h:=fun t=>if t=j then ((k+(j:Int)) % 3 == 0) else if t<j then mkBo k t else h t) fun i _=>?_]
    ·exact o'
    ·by_cases e:i=j
     ·subst e
      rw [nC (by omega),nC rfl];rfl
     ·rw [nB e]
      by_cases e2:i<j
      ·rw [nC e2,nC (by omega)]
      ·rw [nB e2,nB (by omega)]
   clear HR e1;go_wp2;go_roundw
   case rel=>exact ⟨j+1,by omega,by go_num,by go_num,HS.out⟩
   case measure=>simp [intOf];omega
  ·have hlt':¬ (j:Int)<(n:Int):=by omega
   have hjl:j=n:=by omega
   subst hjl
   have HF:Hid (OwnQ wr B (.slice a j c) j (mkBo k)/\w.grownBy wr (Value.slice a j c).ownBlock):=by
    refine ⟨?_,HR.2⟩;have h9:=HR.1;unfold OwnQ at h9 ⊢;rw [qil (h:=mkBo k) fun i hi=>nC hi] at h9;exact h9
   clear HR;go_wp2;go_ret;exact ⟨rfl,HF.2,HF.1⟩
theorem qp5 (u:Value) (n B:Nat) (k:Int) (w:World) (hlen:n<=1048576) (k0:0<=k) (k1:k<=100000000) (o:OwnQ w B u n (mkBo k)):
  Calls prog 99 #[u,.int .i64 k] w (rB w (.int .i64 (k+n))):=by
 have hl':(n:Int)<=1048576:=by omega
 obtain ⟨a,c,rfl⟩:=zT o;have HO:Hid (OwnQ w B (.slice a n c) n (mkBo k)):=o;clear o
 go_enter func99,ntmps99
 go_wp2_with fail
 go_loopw [1,5] (fun q i wr=>∃ j:Nat,j<=n/\i=.int .i64 j/\q=.int .i64 (k+j)/\Below w.heap.size w wr) (fun _ i _=>n - (intOf i).toNat)
 case atStart=>exact ⟨0,nD _,rfl,by simp,nE _ _⟩
 case round=>
  obtain ⟨j,hj,rfl,rfl,hbw⟩:=hrel;by_cases hlt:j<n
  ·have hlt':(j:Int)<(n:Int):=by omega
   obtain ⟨g,m,e1,-,-,c0,-⟩:=OwnQ.at (OwnQ.bw HO.out hbw) hlt;obtain rfl:=qar e1;unfold mkBo at c0;clear e1;go_wp2;go_roundw
   case rel=>exact ⟨j+1,by omega,by go_num,by go_num,hbw⟩
   case measure=>simp [intOf];omega
  ·have hlt':¬ (j:Int)<(n:Int):=by omega
   have hjl:j=n:=by omega
   subst hjl;go_wp2;go_ret;exact ⟨rfl,hbw⟩
theorem qcc.g3 {w:World} {lo hi:Nat} {x:SysIn} {v:Value} (o:qcc w lo hi x v):∃ x':SysIn,v=x'.v/\SysG w x'/\x'.y=x.y/\(∀ i,i<x'.hn->x'.hL i<=x'.hC i)/\x'.Nn true:=by
 obtain ⟨D1,D2,D3,D4,b1,vs,b3,b4,h1,h2,h3,o⟩:=o;obtain ⟨q1,q2,q3,q4,-⟩:=o.hi
 have hst:∀ i,i<x.sn->∃ t:Option Addr × Nat × Option Addr × Nat,vs i=stV (x.sS i).p t.1 (x.sS i).rs.length t.2.1 t.2.2.1 (x.sS i).os.length t.2.2.2 (x.sS i).c/\w.cell? ⟨D2,i*4,none⟩=some (.int .i64 (x.sS i).p)/\w.cell? ⟨D2,i*4+1,none⟩=some (.slice t.1 (x.sS i).rs.length t.2.1)/\w.cell? ⟨D2,i*4+2,none⟩=some (.slice t.2.2.1 (x.sS i).os.length t.2.2.2)/\w.cell? ⟨D2,i*4+3,none⟩=some (.int .i64 (x.sS i).c):=by
  intro i hi;obtain ⟨ra,rc,oa,oc,e,c0,c1,c2,c3⟩:=o.ss.cel i hi;exact ⟨(ra,rc,oa,oc),e,c0,c1,c2,c3⟩
 have inh:Inhabited (Option Addr × Nat × Option Addr × Nat):=⟨(none,0,none,0)⟩
 obtain ⟨t,ht⟩:=Go.Deep.choose_lt hst;refine ⟨⟨some ⟨D1,0,none⟩,x.pn,x.pn,fun i=>some ⟨b1 i,0,none⟩,x.pL,x.pL,x.pH,some ⟨D2,0,none⟩,x.sn,x.sn,fun i=>⟨(x.sS i).p,(t i).1,(t i).2.1,(x.sS i).rs,(t i).2.2.1,(t i).2.2.2,(x.sS i).os,(x.sS i).c⟩,some ⟨D3,0,none⟩,x.wn,x.wn,fun i=>some ⟨b3 i,0,none⟩,x.wL,x.wL,x.wH,some ⟨D4,0,none⟩,x.hn,x.hn,fun i=>some ⟨b4 i,0,none⟩,x.hL,x.hL,x.hH⟩,o.val,?_,rfl,fun i _=>nA _,fun i _=>.inl ⟨b3 i,0,rfl⟩,fun i _=>.inl ⟨b4 i,0,rfl⟩⟩;have l1:=o.pp.lt;have l2:=o.ss.lt;have l3:=o.ww.lt;have l4:=o.hh.lt;refine ⟨.inr ⟨D1,0,rfl,by omega,fun i hi=>?_⟩,fun i hi=>⟨b1 i,rfl,zL (o.pp.bd i hi).2 o.pp.le,o.pp.row i hi⟩,⟨.inr ⟨D2,0,rfl,by omega,fun i hi=>?_⟩,fun i hi=>?_⟩,.inr ⟨D3,0,rfl,by omega,fun i hi=>?_⟩,fun i hi=>.inr ⟨b3 i,0,rfl,zL (o.ww.bd i hi).2 o.ww.le,o.ww.row i hi⟩,.inr ⟨D4,0,rfl,by omega,fun i hi=>?_⟩,fun i hi=>.inr ⟨b4 i,0,rfl,zL (o.hh.bd i hi).2 o.hh.le,o.hh.row i hi⟩⟩
 ·have:=o.pp.cel i hi
  simpa using this
 ·have:=(ht i hi).2
  simpa using this
 ·have h4:=o.ss.own i hi
  rw [(ht i hi).1] at h4;exact ⟨h4.parts.1.slOf,h4.parts.2.1.slOf⟩
 ·have:=o.ww.cel i hi
  simpa using this
 ·have:=o.hh.cel i hi
  simpa using this
theorem BoxC.blkF {w w':World} {N:Nat} {p vr vo code:Value} (h:BoxC w N p vr vo code) (hb:w'.heap[N]? = w.heap[N]?):BoxC w' N p vr vo code:=by
 obtain ⟨h0,h1,h2,h3⟩:=h;exact ⟨(zH hb).trans h0,(zH hb).trans h1,(zH hb).trans h2,(zH hb).trans h3⟩
theorem BoxC.ltF {w:World} {N:Nat} {p vr vo code:Value} (h:BoxC w N p vr vo code):N<w.heap.size:=zJ w _ h.1
theorem BoxC.touch {w w':World} {N:Nat} {p vr vo code:Value} {P:Nat->Prop} (h:BoxC w N p vr vo code) (t:qaa P w w') (hp:¬ P N):BoxC w' N p vr vo code:=h.blkF (t.block N h.ltF hp)
section
variable {W:World} {x:SysIn} {Y Z:Sy} {x3:SysIn} {N1 T8 lo T10 B4 T11:Nat} {a1 a2 a3 a4 g1 g2 g3 g4:Value} {w w':World}
end
section
variable {W:World} {x:SysIn} {Y Z:Sy} {x3:SysIn} {N1 T8 lo T10 B4 T11:Nat} {a1 a2 a3 a4 g1 g2 g3 g4:Value} {w w':World}
end
theorem LI.weak {w:World} {P:Nat->Prop} {v:Value} {n:Nat} {u:Nat->Value} {L:Nat->Nat} {H:Nat->Nat->I5} (o:LI true w P v n u L H):LI false w P v n u L H:=⟨o.row,o.own,o.rb,o.ob,o.ra,o.oa,fun _=>o.nn (.inr rfl)⟩
theorem qux (y:Sy) (B:Nat) (v:Value) (w:World) (hS:y.Sums) (o:qbj false w B (mkY y 1) v):
  Calls prog 36 #[v,.int .i64 1] w (rB w (.int .i64 (mkZ5 y 1))):=by
 obtain ⟨c,vp,vs,vw,vh,up,us,uw,uh,rfl,o⟩:=o;obtain ⟨a1,c1,rfl⟩:=zT o.p.row;obtain ⟨a2,c2,rfl⟩:=zT o.s.row;obtain ⟨a3,c3,rfl⟩:=zT o.t.row;obtain ⟨a4,c4,rfl⟩:=zT o.h.row;have HS:Hid y.Sums:=hS;have O:Hid (LI false w (Cl B c 1) (.slice a1 y.pn c1) y.pn up y.pL (mkY y 1).pH/\LS w (Cl B c 2) (.slice a2 y.sn c2) y.sn us (mkY y 1).sS/\LT false w (Cl B c 3) (.slice a3 y.wn c3) y.wn uw y.wL (mkY y 1).wH/\LE false w (Cl B c 4) (.slice a4 y.hn c4) y.hn uh y.hL (mkY y 1).hH):=⟨o.p,o.s,o.t,o.h⟩
 have BA:Hid (Below w.heap.size w (w.alloc (oQ4 a1 y.pn c1 a2 y.sn c2 a3 y.wn c3 a4 y.hn c4))):=zP _ _;have NA:Hid (BoxC (w.alloc (oQ4 a1 y.pn c1 a2 y.sn c2 a3 y.wn c3 a4 y.hn c4)) w.heap.size (.slice a1 y.pn c1) (.slice a2 y.sn c2) (.slice a3 y.wn c3) (.slice a4 y.hn c4)):=BoxC.new w _ _ _ _ _;have hz:=qn2 hS;have HZ:Hid ((0<=mkZ2 y 1/\mkZ2 y 1<=6000000)/\(0<=mkZ3 y 1/\mkZ3 y 1<=12000000)/\(0<=mkZ4 y 1/\mkZ4 y 1<=18000000)/\(0<=mkZ5 y 1/\mkZ5 y 1<=24000000)):=hz;have z2:¬ mkZ2 y 1<0:=by omega
 have z3:¬ mkZ3 y 1<0:=by omega
 have z4:¬ mkZ4 y 1<0:=by omega
 have z5:¬ mkZ5 y 1<0:=by omega
 clear o hS hz;change Calls prog 36 #[sysV a1 y.pn c1 a2 y.sn c2 a3 y.wn c3 a4 y.hn c4,.int .i64 1] w _
 go_enter func36,ntmps36
 go_wp2_with fail
 generalize w.alloc (oQ4 a1 y.pn c1 a2 y.sn c2 a3 y.wn c3 a4 y.hn c4)=wA at *;refine (qk2 _ _ y.pn up y.pL 1 wA HS.p.1 HS.p.2 (by omega) (by omega) (LI.strong (O.1.bw BA.out))).mono ?_;rintro e w1 ⟨rfl,b1⟩;have F1:Hid (Below w.heap.size w w1/\BoxC w1 w.heap.size (.slice a1 y.pn c1) (.slice a2 y.sn c2) (.slice a3 y.wn c3) (.slice a4 y.hn c4)):=⟨BA.trans (b1.mono BA.size),NA.bw b1⟩
 rw [show (1:Int)+5*(sumL y.pL y.pn:Nat)=mkZ2 y 1 from rfl];clear b1 BA NA;obtain ⟨-,p0,p1,p2,p3⟩:=F1.out;go_wp2_with fail
 clear p0 p1 p2 p3;refine (qjg _ _ y.sn us y.sS (mkZ2 y 1) w1 HS.s.1 HS.s.2 HZ.1.1 (by have:=HZ.out;omega) (O.2.1.bw F1.1)).mono ?_;rintro e w2 ⟨rfl,b2⟩;have F2:Hid (Below w.heap.size w w2/\BoxC w2 w.heap.size (.slice a1 y.pn c1) (.slice a2 y.sn c2) (.slice a3 y.wn c3) (.slice a4 y.hn c4)):=⟨F1.1.trans (b2.mono F1.1.size),F1.2.bw b2⟩
 rw [show mkZ2 y 1+(2*y.sn+sumL (lenS y.sS) y.sn:Nat)=mkZ3 y 1 from rfl];clear b2 F1;obtain ⟨-,p0,p1,p2,p3⟩:=F2.out;go_wp2_with fail
 clear p0 p1 p2 p3;refine (qnm _ _ y.wn uw y.wL (mkZ3 y 1) w2 HS.w.1 HS.w.2 HZ.2.1.1 (by have:=HZ.out;omega) (O.2.2.1.bw F2.1)).mono ?_;rintro e w3 ⟨rfl,b3⟩;have F3:Hid (Below w.heap.size w w3/\BoxC w3 w.heap.size (.slice a1 y.pn c1) (.slice a2 y.sn c2) (.slice a3 y.wn c3) (.slice a4 y.hn c4)):=⟨F2.1.trans (b3.mono F2.1.size),F2.2.bw b3⟩
 rw [show mkZ3 y 1+2*(sumL y.wL y.wn:Nat)=mkZ4 y 1 from rfl];clear b3 F2;obtain ⟨-,p0,p1,p2,p3⟩:=F3.out;go_wp2_with fail
 clear p0 p1 p2 p3;refine (qk1 _ _ y.hn uh y.hL (mkZ4 y 1) w3 HS.h.1 HS.h.2 HZ.2.2.1.1 (by have:=HZ.out;omega) (O.2.2.2.bw F3.1)).mono ?_;rintro e w4 ⟨rfl,b4⟩;have F4:Hid (Below w.heap.size w w4):=F3.1.trans (b4.mono F3.1.size);rw [show mkZ4 y 1+3*(sumL y.hL y.hn:Nat)=mkZ5 y 1 from rfl];clear b4 F3;go_wp2;go_ret;exact ⟨rfl,F4.out⟩
